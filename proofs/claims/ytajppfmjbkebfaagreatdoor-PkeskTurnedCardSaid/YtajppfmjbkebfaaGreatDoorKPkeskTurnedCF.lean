/- What the claim leans on, part 6: plain theorems, and walks of functions of the program and of the document. -/
import Derived.Test.YtajppfmjbkebfaaGreatDoorKPkeskTurnedCE
import Derived.Test.YtajppfmjbkebfaaGreatDoorKPkeskTurnedCB
import Derived.Test.YtajppfmjbkebfaaGreatDoorKPkeskTurnedCC
import Derived.Test.YtajppfmjbkebfaaGreatDoorKPkeskTurnedCD
import Derived.Test.YtajppfmjbkebfaaGreatDoorKPkeskTurnedCA
set_option maxHeartbeats 8000000
namespace Go.Proofs.YtajppfmjbkebfaaGreatDoor
open Go Go.RowKit
set_option maxRecDepth 100000
theorem xk{g o o':Nat}(h:o=o'):(some ⟨g,o,none⟩:Option Addr)=some ⟨g,o',none⟩:=by rw[h]
theorem oB{A A':Option Addr}{n n' c c':Nat}(hA:A=A')(hn:n=n')(hc:c=c'):Value.slice A n c=.slice A' n' c':=by rw[hA,hn,hc]
theorem j1{t n:Nat}(h0:0<n)(h8:n%8=0):t*8%n+8≤n:=by
 obtain ⟨q,rfl⟩:∃ q,n=8*q:=⟨n/8,by omega⟩
 rw[Nat.mul_comm t 8,Nat.mul_mod_mul_left]
 have:=Nat.mod_lt t (show 0<q by omega)
 omega
theorem rB(a:Nat→UInt8)(d:List UInt8)(hd:d.length=8)(j:Nat)(_:j<16):ca a (cutF d 0) j=ovA 8 (d.take 8) (ovr ((lst 8 a).take 8) fun _=>0) j:=by
 unfold ca ovA
 rw[List.length_take,hd]
 by_cases h:j<8
 ·rw[if_pos h,if_neg (by omega)]
  unfold ovr
  rw[List.length_take,ap,if_pos (by omega),List.getD_eq_getElem?_getD,List.getElem?_take,if_pos h,bB h]
  rfl
 ·rw[if_neg h,if_pos (by omega),List.getD_eq_getElem?_getD,List.getElem?_take,if_pos (by omega)]
  unfold cutF
  rw[Nat.zero_add,List.getD_eq_getElem?_getD]
theorem rC(A:Option Addr)(n c:Nat)(hk:n=16∨n=32):Pure Tryz.prog 54 #[(.slice A n c)] (fun _=>True) (.bool true):=by
 refine pU Tryz.func54 Tryz.ntmps54 ?_
 intro w0 hH hR
 refine zr (zv .mv 0 ?_)
 refine zn (zr (zv .mv 1 ?_))
 refine zv .len 1 ?_
 refine zv (.eq (n=16)) 1 ?_
 refine zv .mv 1 ?_
 refine eI 0 rfl (l1:=[(6,(.bool true)),(0,(.slice A n c))]) (l2:=[(6,(.bool false)),(0,(.slice A n c))]) rfl rfl (fun hg1 => ?_) (fun hg1 => ?_)
 refine pxU rfl (cW 0 rfl rfl rfl (by decide)) (kM [true,false] rfl rfl) (by decide) ?_
 refine pxU rfl (cW 0 rfl rfl rfl (by decide)) (kA rfl) (by decide) ?_
 refine pxU rfl (cW 0 rfl rfl rfl (by decide)) (kA rfl) (by decide) ?_
 refine zv (v:=(.bool true)) (fun _ _ hF=>cB rfl (hF.ev 0 rfl) rfl) 1 ?_
 refine zv .mv 1 ?_
 refine zn (ar (aW 0 rfl rfl ?_))
 exact zE hH
 refine pxV (v:=(.slice A n c)) (fun _ _ hF=>bo rfl (hF.ev 1 rfl)) rfl (gOn 0 rfl rfl rfl (by decide)) (kM [true,false] rfl rfl) (by decide) ?_
 refine pxV (v:=(.int .i64 n)) (fun _ _ hF=>fj (e:=5) rfl (by kernel_rfl) (hF.ev 0 rfl)) rfl (gOn 1 rfl rfl rfl (by decide)) (kM [false,true] rfl rfl) (by decide) ?_
 refine pxV (v:=(.bool true)) (fun _ _ hF=>fN rfl (hF.ev 0 rfl) rfl (decide_eq_true (by omega))) rfl (gOn 1 rfl rfl rfl (by decide)) (kM [false,true] rfl rfl) (by decide) ?_
 refine zv (v:=(.bool true)) (fun _ _ hF=>cv rfl (hF.ev 1 rfl) (hF.ev 0 rfl)) 3 ?_
 refine zv .mv 1 ?_
 refine zn (ar (aW 0 rfl rfl ?_))
 exact zE hH
theorem yz(m:Nat)(h1:16≤m)(h2:m≤128)(h8:m%8=0):Pure Tryz.prog 55 #[(.int .i64 m)] (fun _=>True) (.bool true):=by
 refine pU Tryz.func55 Tryz.ntmps55 ?_
 intro w0 hH hR
 refine zr (zv .mv 0 ?_)
 refine zn (zr (zv .mv 1 ?_))
 refine zv (v:=(.bool true)) (fun _ _ hF=>fL rfl (hF.ev 0 rfl) rfl (decide_eq_true (by omega))) 1 ?_
 refine zv .mv 1 ?_
 refine pxV (v:=(.int .i64 m)) (fun _ _ hF=>bo rfl (hF.ev 1 rfl)) rfl (gOn 0 rfl rfl rfl (by decide)) (kA rfl) (by decide) ?_
 refine pxV (v:=(.bool true)) (fun _ _ hF=>xV rfl (hF.ev 0 rfl) rfl (decide_eq_true (by omega))) rfl (gOn 1 rfl rfl rfl (by decide)) (kM [false,true,true] rfl rfl) (by decide) ?_
 refine zv (v:=(.bool true)) (fun _ _ hF=>cB rfl (hF.ev 1 rfl) (hF.ev 0 rfl)) 3 ?_
 refine zv .mv 1 ?_
 refine pxV (v:=(.int .i64 m)) (fun _ _ hF=>bo rfl (hF.ev 1 rfl)) rfl (gOn 0 rfl rfl rfl (by decide)) (kM [true,false] rfl rfl) (by decide) ?_
 refine pxV (v:=(.int .i64 (((m%8):Nat):Int))) (fun _ _ hF=>bm (z:=((m%8:Nat):Int)) rfl (hF.ev 0 rfl) rfl (by omega) bW) rfl (gOn 1 rfl rfl rfl (by decide)) (kM [false,true] rfl rfl) (by decide) ?_
 refine pxV (v:=(.bool true)) (fun _ _ hF=>fN rfl (hF.ev 0 rfl) rfl (decide_eq_true (by omega))) rfl (gOn 1 rfl rfl rfl (by decide)) (kM [false,true] rfl rfl) (by decide) ?_
 refine zv (v:=(.bool true)) (fun _ _ hF=>cB rfl (hF.ev 1 rfl) (hF.ev 0 rfl)) 3 ?_
 refine zv .mv 1 ?_
 refine zn (ar (aW 0 rfl rfl ?_))
 exact zE hH
theorem rD  : Pure Tryz.prog 57 #[] (fun _=>True) ((ac 8).val (fun _=>166)):=by
 refine pU Tryz.func57 Tryz.ntmps57 ?_
 intro w0 hH hR
 refine zr (zA hH (ac 8) (fun _=>0) 0 ?_)
 clear hH
 intro g1 w hH
 refine zn (zr (zv (v:=((ac 8).val (fun _=>166))) (fun _ _ hF=>aE (cells:=(ac 8).enc (fun _=>166)) (vals:=[(0,(.int .u8 166)),(1,(.int .u8 166)),(2,(.int .u8 166)),(3,(.int .u8 166)),(4,(.int .u8 166)),(5,(.int .u8 166)),(6,(.int .u8 166)),(7,(.int .u8 166))]) rfl (EvP.cons (v:=(.int .u8 166)) rfl (EvP.cons (v:=(.int .u8 166)) rfl (EvP.cons (v:=(.int .u8 166)) rfl (EvP.cons (v:=(.int .u8 166)) rfl (EvP.cons (v:=(.int .u8 166)) rfl (EvP.cons (v:=(.int .u8 166)) rfl (EvP.cons (v:=(.int .u8 166)) rfl (EvP.cons (v:=(.int .u8 166)) rfl EvP.nil)))))))) (by kernel_rfl) _) 0 ?_))
 refine zW 0 hH rfl (fun _=>166) ?_
 clear hH
 intro w hH
 refine zn (ar (aI 1 (hH.blk 0 rfl) rfl rfl (by kernel_rfl) (Cod.size _ _) (by kernel_rfl) ?_))
 exact zE hH
theorem rE(A:Option Addr)(n c:Nat)(hn:n≤1000):Pure Tryz.prog 58 #[(.slice A n c)] (fun _=>True) (.int .i64 (((6*(n/8)):Nat):Int)):=by
 refine pU Tryz.func58 Tryz.ntmps58 ?_
 intro w0 hH hR
 refine zr (zv .mv 0 ?_)
 refine zn (zr (zv .mv 3 ?_))
 refine zv .len 1 ?_
 refine zv (v:=(.int .i64 (((n/8):Nat):Int))) (fun _ _ hF=>cM (z:=((n/8:Nat):Int)) rfl (hF.ev 0 rfl) rfl (by omega) (wI dO (by omega) (by omega))) 1 ?_
 refine zv (.mul ((6*(n/8):Nat):Int)) 1 ?_
 refine zv .mv 1 ?_
 refine zn (ar (aW 0 rfl rfl ?_))
 exact zE hH
theorem oC(A:Option Addr)(n c t:Nat)(h0:0<n∧n≤1000∧n≤c)(h8:n%8=0)(ht:t≤10000):Pure Tryz.prog 59 #[(.int .i64 (((t+1):Nat):Int)),(.slice A n c)] (fun _=>True) (.slice (et A c (t*8%n) 1) (t*8%n+8-t*8%n) (c-t*8%n)):=by
 refine pU Tryz.func59 Tryz.ntmps59 ?_
 intro w0 hH hR
 refine zr (zv .mv 0 ?_)
 refine zn (zr (zv .mv 3 ?_))
 refine zv (.sub ((t:Nat):Int)) 1 ?_
 refine zv (.mul ((t*8:Nat):Int)) 1 ?_
 refine zv .mv 0 ?_
 refine zv .len 1 ?_
 refine zv (v:=(.int .i64 ((((t*8)%n):Nat):Int))) (fun _ _ hF=>bm (z:=(((t*8)%n:Nat):Int)) rfl (hF.ev 1 rfl) (hF.ev 0 rfl) (by omega) bW) 3 ?_
 refine zv .mv 1 ?_
 refine zn ?_
 have hat:=j1 (t:=t) h0.1 h8
 refine zr (zv .mv 2 ?_)
 refine zv .mv 0 ?_
 refine zv .mv 4 ?_
 refine zv (.add ((((t*8)%n)+8:Nat):Int)) 1 ?_
 refine zv (v:=(.slice (et A c ((t*8)%n) 1) ((((t*8)%n)+8)-((t*8)%n)) (c-((t*8)%n)))) (fun _ _ hF=>jQ (k:=(t*8)%n) (h:=((t*8)%n)+8) (e:=5) (sz:=1) rfl (by kernel_rfl) (by kernel_rfl) (hF.ev 2 rfl) (hF.ev 1 rfl) (hF.ev 0 rfl) rfl rfl (by omega) (by omega)) 7 ?_
 refine zv .mv 1 ?_
 refine zn (ar (aW 0 rfl rfl ?_))
 exact zE hH
theorem vc(a:Nat→UInt8)(A:Option Addr)(n c:Nat)(d:List UInt8)(h8:n=8):Pure Tryz.prog 61 #[((ac 8).val a),(.slice A n c)] (fun w=>Vu af w A n c d) ((ac 16).val (ca a (cutF d 0))):=by
 refine pU Tryz.func61 Tryz.ntmps61 ?_
 intro w0 hH hR
 have hn:=hR.len
 refine zr (zB hH (ac 8) a 1 ?_)
 clear hH
 intro g1 w hH
 refine zA hH (ac 16) (fun _=>0) 0 ?_
 clear hH
 intro g2 w hH
 refine zn (zr (zA hH (ac 16) (fun _=>0) 0 ?_))
 clear hH
 intro g3 w hH
 refine zn (zx ?_)
 replace hH:=hH.drew
 refine rv 0 (v:=(.slice (some ⟨g3,0,none⟩) 16 16)) (fun _ _ hF=>aV (n:=16) (e:=5) (sz:=1) rfl (by kernel_rfl) (by kernel_rfl) (hF.ev 0 rfl)) 0 ?_
 refine rv 1 (v:=(.slice (some ⟨g1,0,none⟩) 8 8)) (fun _ _ hF=>aV (n:=8) (e:=5) (sz:=1) rfl (by kernel_rfl) (by kernel_rfl) (hF.ev 3 rfl)) 8 ?_
 refine ao 2 ?_
 refine re 2 2 hH rfl (fun _ hF=>eg (C:=af) (m:=(lst 8 a)) (e:=5) 8 rfl rfl (by kernel_rfl) (by kernel_rfl) (ltb rfl) (hF.ev 1 rfl) (hF.ev 0 rfl) (ap _ _) (by rw[Cod.size];show 0+8*1≤16;omega) (gn _ _)) (bp (hH.blk 0 rfl)) 3 (.nil _ []) ?_
 clear hH
 rintro _ _ w ⟨rfl,rfl⟩ hH
 refine ⟨an,rn ?_⟩
 refine zr (zv (v:=(.slice (some ⟨g3,0+8*1,none⟩) (16-8) (16-8))) (fun _ _ hF=>dh (m:=16) (l:=8) (e:=5) (sz:=1) rfl (by kernel_rfl) (by kernel_rfl) (hF.ev 1 rfl) rfl rfl (by omega)) 1 ?_)
 refine zv .mv 8 ?_
 refine ze 2 hH rfl (fun _ hF=>eg (C:=af) (m:=d) (e:=5) 8 (show min n 8=8 by omega) rfl (by kernel_rfl) (by kernel_rfl) (ltb rfl) (hF.ev 1 rfl) (hF.ev 0 rfl) hn (by rw[Cod.size];show 0+8*1+8*1≤16;omega) (ng 8 _ _)) (hH.vu hR (by decide) (Off.nil _ _)) 3 ?_
 clear hH
 rintro _ _ w ⟨rfl,rfl⟩ hH
 refine zn ?_
 have he4:(ac 16).enc (ca a (cutF d 0))=(ac 16).enc (ovA 8 (d.take 8) (ovr ((lst 8 a).take 8) (fun _=>0))):=aB (rB a d (by omega))
 replace hH:HH w0 [] [[bl g1 84 ((ac 8).enc a)],[bl g2 51 ((ac 16).enc (fun _=>0))],[bl g3 51 ((ac 16).enc (ca a (cutF d 0)))]] w:=by rw[he4];exact hH
 refine zr (zs (hH.q 2 rfl) (.l0 (ac 16) (ca a (cutF d 0))) 3 ?_)
 refine zW 1 hH rfl (ca a (cutF d 0)) ?_
 clear hH
 intro w hH
 refine zn (ar (aI 1 (hH.blk 1 rfl) rfl rfl (by kernel_rfl) (Cod.size _ _) (by kernel_rfl) ?_))
 exact zE hH
theorem mn(a:Nat→UInt8)(s:Nat):Pure Tryz.prog 62 #[((ac 8).val a),(.int .i64 s)] (fun _=>True) ((ac 8).val (aL a s)):=by
 refine pU Tryz.func62 Tryz.ntmps62 ?_
 intro w0 hH hR
 refine zr (zB hH (ac 8) a 1 ?_)
 clear hH
 intro g1 w hH
 refine zA hH (ac 8) (fun _=>0) 0 ?_
 clear hH
 intro g2 w hH
 refine zn (zr ?_)
 have hi3:7<8:=by omega
 refine zv (.ia 1 8 7 (hi:=hi3)) 0 ?_
 refine zs (hH.q 0 rfl) (.ld af (a 7) (fun _ hS=>((ae hS).elt hi3))) 1 ?_
 refine zv .mv 8 ?_
 refine zv .cb 1 ?_
 refine zv (.xb ((a 7)^^^(UInt8.ofNat s)) (u:=(a 7)) (v:=(UInt8.ofNat s))) 3 ?_
 have hi4:7<8:=by omega
 refine zv (.ia 1 8 7 (hi:=hi4)) 0 ?_
 refine ze0 0 hH rfl (.st af ((a 7)^^^(UInt8.ofNat s)) (aU (S:=sBy) (C:=(ac 8)) rfl hi4) (aQ a ((a 7)^^^(UInt8.ofNat s)) hi4)) trivial ?_
 clear hH
 rintro _ _ w rfl hH
 refine zn (zr (zs (hH.q 0 rfl) (.l0 (ac 8) (stF a 7 ((a 7)^^^(UInt8.ofNat s)))) 11 ?_))
 refine zW 1 hH rfl (stF a 7 ((a 7)^^^(UInt8.ofNat s))) ?_
 clear hH
 intro w hH
 refine zn (ar (aI 1 (hH.blk 1 rfl) rfl rfl (by kernel_rfl) (Cod.size _ _) (by kernel_rfl) ?_))
 exact zE hH
section
variable{e d':(Nat→UInt8)→Nat→UInt8}{m t k:Nat}{A P B:Nat→UInt8}{o:List UInt8}
def wrB(e:(Nat→UInt8)→Nat→UInt8)(m:Nat)(A P:Nat→UInt8)(t:Nat):Nat→UInt8:=e (ca (bv e m A P t).1 fun j=>(bv e m A P t).2 (t*8%m+j))
theorem k5:bv e m A P (t+1)=(aL (wrB e m A P t) (t+1),cpy (t*8%m) 8 (bv e m A P t).2 fun j=>wrB e m A P t (8+j)):=rfl
def unB(e:(Nat→UInt8)→Nat→UInt8)(m N:Nat)(A P:Nat→UInt8)(k:Nat):Nat→UInt8:=e (ca (aL (unR e m N A P k).1 (N-k)) fun j=>(unR e m N A P k).2 ((N-k-1)*8%m+j))
theorem iT{N:Nat}:unR e m N A P (k+1)=(unB e m N A P k,cpy ((N-k-1)*8%m) 8 (unR e m N A P k).2 fun j=>unB e m N A P k (8+j)):=rfl
theorem iU{A A' P Q:Nat→UInt8}(hA:∀ j,j<8→A j=A' j)(h:∀ j,j<8→P j=Q j):E16 (ca A P) (ca A' Q):=fun j hj=>by
 unfold ca
 by_cases h8:j<8
 ·rw[if_pos h8,if_pos h8,hA j h8]
 ·rw[if_neg h8,if_neg h8,h _ (by omega)]
theorem vd{o:List UInt8}{b k j:Nat}(hj:j<8):cutF ((o.take (b+k+8)).drop (b+k)) 0 j=o.getD (b+(k+j)) 0:=by
 unfold cutF
 rw[List.getD_eq_getElem?_getD,List.getElem?_drop,List.getElem?_take,if_pos (by omega),List.getD_eq_getElem?_getD]
 congr 2
 omega
theorem hJ{b:Nat}(h:∀ j,j<m→o[b+j]?=some (P j))(hk:k+8≤m)(j:Nat)(hj:j<8):cutF ((o.take (b+k+8)).drop (b+k)) 0 j=P (k+j):=by
 rw[vd hj,List.getD_eq_getElem?_getD,h _ (by omega)]
 rfl
theorem oD(h:∀ j,j<m→o[j]?=some (P j))(hk:k+8≤m)(j:Nat)(hj:j<8):cutF ((o.take (k+8)).drop k) 0 j=P (k+j):=by
 have:=hJ (b:=0) (fun j hj=>by rw[Nat.zero_add];exact h j hj) hk j hj
 rwa [Nat.zero_add]at this
theorem k6{b:Nat}(hol:o.length=b+m)(hk:k+8≤m)(h:∀ j,j<m→o[b+j]?=some (P j))(j:Nat)(hj:j<m):
  (o.take (b+k)++((lst 16 B).drop 8++o.drop (b+k+((lst 16 B).drop 8).length)))[b+j]?=some (cpy k 8 P (fun j=>B (8+j)) j):=by
 have hl:((lst 16 B).drop 8).length=8:=by rw[List.length_drop,ap]
 unfold cpy
 by_cases h1:j<k
 ·rw[List.getElem?_append_left (by rw[List.length_take];omega),List.getElem?_take,if_pos (by omega),if_neg (by omega),h j hj]
 ·rw[List.getElem?_append_right (by rw[List.length_take];omega),List.length_take,Nat.min_eq_left (by omega)]
  by_cases h2:j<k+8
  ·rw[List.getElem?_append_left (by omega),List.getElem?_drop,bB (by omega),if_pos (by omega)]
   congr 2
   omega
  ·rw[List.getElem?_append_right (by omega),hl,List.getElem?_drop,if_neg (by omega),← h j hj]
   congr 1
   omega
theorem ta(hol:o.length=m)(hk:k+8≤m)(h:∀ j,j<m→o[j]?=some (P j))(j:Nat)(hj:j<m):
  (o.take k++((lst 16 B).drop 8++o.drop (k+((lst 16 B).drop 8).length)))[j]?=some (cpy k 8 P (fun j=>B (8+j)) j):=by
 have:=k6 (o:=o) (b:=0) (B:=B) (by omega) hk (fun j hj=>by rw[Nat.zero_add];exact h j hj) j hj
 rwa [Nat.zero_add,Nat.zero_add]at this
theorem j2{b:Nat}(hb:b+8≤o.length):(o.take b++((lst 16 B).drop 8++o.drop (b+((lst 16 B).drop 8).length))).length=o.length:=by
 have hl:((lst 16 B).drop 8).length=8:=by rw[List.length_drop,ap]
 rw[List.length_append,List.length_append,hl,List.length_take,List.length_drop]
 omega
theorem pP(B:Nat→UInt8)(t j:Nat)(hj:j<8):aL B t j=aL (cutF ((lst 16 B).take 8) 0) t j:=fK (fun i hi=>by
 unfold cutF
 rw[Nat.zero_add,List.getD_eq_getElem?_getD,List.getElem?_take,if_pos hi,bB (by omega)]
 rfl) t j hj
theorem B9(B:Nat→UInt8)(j:Nat)(hj:j<8):B j=cutF ((lst 16 B).take 8) 0 j:=by
 unfold cutF
 rw[Nat.zero_add,List.getD_eq_getElem?_getD,List.getElem?_take,if_pos hj,bB (by omega)]
 rfl
theorem ve(hol:o.length=8+m)(h:∀ j,j<m→o[8+j]?=some (P j)):o.take 0++(lst 8 A++o.drop (0+(lst 8 A).length))=lst 8 A++lst m P:=by
 rw[List.take_zero,List.nil_append,ap]
 congr 1
 exact bR (fun j hj=>by rw[List.getElem?_drop];exact h j hj) (by rw[List.length_drop];omega)
end
def dq:Nat→UInt8:=fun _=>166
def wrS(l d:List UInt8):(Nat→UInt8)×(Nat→UInt8):=bv (aeE l) d.length dq (cutF d 0) (6*(d.length/8))
def cd(l d:List UInt8):List UInt8:=lst 8 (wrS l d).1++lst d.length (wrS l d).2
def unS(l d:List UInt8):(Nat→UInt8)×(Nat→UInt8):=unR (aeD l) (d.length-8) (6*((d.length-8)/8)) (cutF d 0) (cutF d 8) (6*((d.length-8)/8))
def unE(l d:List UInt8):Nat:=if lst 8 (unS l d).1=lst 8 dq then 0 else 5
def unL(l d:List UInt8):List UInt8:=if lst 8 (unS l d).1=lst 8 dq then lst (d.length-8) (unS l d).2 else []
theorem oE{e:(Nat→UInt8)→Nat→UInt8}(he:∀ x y,E16 x y→E16 (e x) (e y)){m N:Nat}{A A' P P':Nat→UInt8}(h0:0<m)(h8:m%8=0)(hA:∀ j,j<8→A j=A' j)(hP:∀ j,j<m→P j=P' j):∀ k,Am m (unR e m N A P k) (unR e m N A' P' k)
 | 0=>⟨hA,hP⟩
 | k+1=>by
  have ih:=oE he (N:=N) h0 h8 hA hP k
  have hat:=j1 (t:=N-k-1) h0 h8
  have hB:E16 (unB e m N A P k) (unB e m N A' P' k):=he _ _ (iU (fun j hj=>fK ih.1 _ j hj) (fun j hj=>ih.2 _ (by omega)))
  rw[iT,iT]
  refine ⟨fun j hj=>hB j (by omega),fun j hj => ?_⟩
  dsimp only
  unfold cpy
  by_cases h:(N-k-1)*8%m≤j∧j<(N-k-1)*8%m+8
  ·rw[if_pos h,if_pos h];exact hB _ (by omega)
  ·rw[if_neg h,if_neg h,ih.2 j hj]
theorem vf(l d:List UInt8)(h0:0<d.length)(h8:d.length%8=0):unE l (cd l d)=0∧unL l (cd l d)=d:=by
 have hlen:(cd l d).length=8+d.length:=by unfold cd;rw[List.length_append,ap,ap]
 have hm:(cd l d).length-8=d.length:=by omega
 have hu:=oA (e:=aeE l) (d:=aeD l) (fun x y h=>j0 l h) (fun x=>xg l x) d.length (6*(d.length/8)) h8 h0 dq (cutF d 0)
 have hA:∀ j,j<8→cutF (cd l d) 0 j=(wrS l d).1 j:=fun j hj=>by
  unfold cutF cd
  rw[Nat.zero_add,List.getD_eq_getElem?_getD,List.getElem?_append_left (by rw[ap];omega),bB hj]
  rfl
 have hP:∀ j,j<d.length→cutF (cd l d) 8 j=(wrS l d).2 j:=fun j hj=>by
  unfold cutF cd
  rw[List.getD_eq_getElem?_getD,List.getElem?_append_right (by rw[ap];omega),ap,bB (by omega),show 8+j-8=j by omega]
  rfl
 have hc:Am d.length (unS l (cd l d)) (unR (aeD l) d.length (6*(d.length/8)) (wrS l d).1 (wrS l d).2 (6*(d.length/8))):=by
  have:=oE (e:=aeD l) (fun x y h=>j0 l h) (N:=6*(d.length/8)) h0 h8 hA hP (6*(d.length/8))
  unfold unS
  rw[hm]
  exact this
 have h1:lst 8 (unS l (cd l d)).1=lst 8 dq:=gp fun j hj=>(hc.1 j hj).trans (hu.1 j hj)
 unfold unE unL
 rw[if_pos h1,if_pos h1,hm]
 refine ⟨rfl,(bR (fun j hj => ?_) rfl).symm⟩
 rw[hc.2 j hj,show (unR (aeD l) d.length (6*(d.length/8)) (wrS l d).1 (wrS l d).2 (6*(d.length/8))).2 j=_ from hu.2 j hj]
 unfold cutF
 rw[Nat.zero_add,List.getD_eq_getElem?_getD,List.getElem?_eq_getElem hj]
 rfl
theorem gC{d:List UInt8}{j:Nat}(hj:j<d.length):d[j]?=some (cutF d 0 j):=by
 unfold cutF
 rw[Nat.zero_add,List.getD_eq_getElem?_getD,List.getElem?_eq_getElem hj]
 rfl
theorem Au(A:Option Addr)(z:Nat)(l:List UInt8)(hk:l.length=16∨l.length=32)(B:Option Addr)(y:Nat)(d:List UInt8)(hd:16≤d.length∧d.length≤128)(h8:d.length%8=0):Does Tryz.prog 32 #[(.slice A l.length z),(.slice B d.length y)] [] (fun w=>w.heap[0]?=some (.cells ((ac 256).enc ah) 103 (0,0))∧Vu af w A l.length z l∧Vu af w B d.length y d) (fun v E' => ∃ s,v=.tuple #[s,.int .i64 0]∧OwnT af 5 s (cd l d) E'):=by
 refine dU Tryz.func32 Tryz.ntmps32 ?_
 intro w0 hH hR
 replace hH:HH w0 [] [] w0:=hH.only [false]
 have hlk:=hR.2.1.len;have hld:=hR.2.2.len
 refine zr (zv .mv 0 ?_)
 refine zv .mv 1 ?_
 refine zn (aj (zr (zv .mv 1 ?_)))
 refine zc Tryz.func54 (rC A l.length z hk) trivial hH 1 ?_
 clear hH
 intro w hH
 refine zv (v:=(.bool false)) (fun _ _ hF=>ej rfl (hF.ev 0 rfl) rfl) 1 ?_
 refine zv .mv 1 ?_
 refine pxV (v:=(.slice B d.length y)) (fun _ _ hF=>bo rfl (hF.ev 2 rfl)) rfl (gOn 0 rfl rfl rfl (by decide)) (kA rfl) (by decide) ?_
 refine pxV (v:=(.int .i64 d.length)) (fun _ _ hF=>fj (e:=5) rfl (by kernel_rfl) (hF.ev 0 rfl)) rfl (gOn 1 rfl rfl rfl (by decide)) (kM [false,true,true,true] rfl rfl) (by decide) ?_
 refine pxM hH (fun _ hF=>Does.small ((yz d.length (by omega) (by omega) (by omega)).does) (fun w=>oT rfl Tryz.func55 rfl rfl (Evs.cons (v:=(.int .i64 d.length)) (hF.ev 0 rfl) Evs.nil) w)) trivial rfl (gOn 1 rfl rfl rfl (by decide)) (kM [false,true,true,true] rfl rfl) (by decide) ?_
 clear hH
 rintro _ _ w ⟨rfl,rfl⟩ hH
 replace hH:HH w0 [] [] w:=hH.unpad
 refine pxV (v:=(.bool false)) (fun _ _ hF=>ej rfl (hF.ev 0 rfl) rfl) rfl (gOn 1 rfl rfl rfl (by decide)) (kM [false,true,true,true] rfl rfl) (by decide) ?_
 refine zv (v:=(.bool false)) (fun _ _ hF=>cv rfl (hF.ev 1 rfl) (hF.ev 0 rfl)) 3 ?_
 refine zn (zF ?_)
 refine aA (ag (zr (zv .mv 3 ?_)))
 refine zm hH (.call Tryz.func56 (jH A z l hk)) (⟨(hH.oldBlk hR.1 (by simp)),(hH.vu hR.2.1 (by decide) (Off.nil _ _))⟩) 1 ?_
 clear hH
 rintro v E3 w hO4 hH
 replace hO4:OwnT (ac 16) 51 v (aeK l) E3:=hO4
 obtain ⟨A1,c2,rfl⟩:=hO4.slice
 refine zv .mv 1 ?_
 refine zn (zr (zc Tryz.func57 (rD ) trivial hH 0 ?_))
 clear hH
 intro w hH
 refine zA hH (ac 8) (fun _=>0) 0 ?_
 clear hH
 intro g5 w hH
 refine zW 1 hH rfl (fun _=>166) ?_
 clear hH
 intro w hH
 refine zn (zr (zv .mv 2 ?_))
 refine zv .len 1 ?_
 refine zv (.add ((8+d.length:Nat):Int)) 1 ?_
 refine zm hH (fun _ hF=>f0 (e:=5) (n:=8+d.length) (sz:=1) (by_:=1) (z:=(.int .u8 0)) (cs:=madeCells (af.enc 0) ((8+d.length)*1)) rfl (by kernel_rfl) (by kernel_rfl) (hF.ev 0 rfl) (hF.ev 0 rfl) rfl rfl (by omega) (by omega) rfl) trivial 1 ?_
 clear hH
 rintro _ _ w ⟨g6,rfl,rfl⟩ hH
 refine zv .mv 1 ?_
 refine zn (zr (zv .mv 0 ?_))
 refine zv (v:=(.slice (some ⟨g6,0+8*1,none⟩) ((8+d.length)-8) ((8+d.length)-8))) (fun _ _ hF=>eu (k:=8) (e:=5) (sz:=1) rfl (by kernel_rfl) (by kernel_rfl) (hF.ev 0 rfl) rfl rfl (by omega) (by omega)) 1 ?_
 refine zv .mv 1 ?_
 refine zn ?_
 rw[show 8+d.length-8=d.length by omega]
 refine zr (zv .mv 0 ?_)
 refine zv .mv 32 ?_
 obtain ⟨cur8,hcs9,hB7⟩:∃ cs,bJ (madeCells (af.enc 0) ((8+d.length)*1)) (0+8*1) (be af d)=cs∧Bk af (8+d.length) cs ((List.replicate (8+d.length) 0).take 8++(d++(List.replicate (8+d.length) 0).drop (8+d.length))):=⟨_,rfl,(Bk.make (C:=af) 0 (8+d.length) (ltb rfl) (by unfold maxLen;omega)).copy 8 d (by rw[List.length_replicate];omega)⟩
 refine ze 2 hH rfl (fun _ hF=>ef (C:=af) (m:=d) (e:=5) rfl (by kernel_rfl) (by kernel_rfl) (ltb rfl) (hF.ev 1 rfl) (hF.ev 0 rfl) (by omega) rfl (by rw[size_madeCells];show 0+8*1+d.length*1≤(8+d.length)*1;omega) hcs9) (hH.vu hR.2.2 (by decide) (Off.nil _ _)) 3 ?_
 clear hH
 rintro _ _ w ⟨rfl,rfl⟩ hH
 refine zn (aj (zr (zv .mv 1 ?_)))
 refine zn (ai ?_)
 have he10:(ac 8).enc ((bv (aeE l) d.length dq (cutF d 0) 0).1)=(ac 8).enc (fun _=>166):=aB (fun j _=>rfl)
 replace hH:HH w0 [] [E3,[bl g5 84 ((ac 8).enc ((bv (aeE l) d.length dq (cutF d 0) 0).1))],[bl g6 5 cur8]] w:=by rw[he10];exact hH
 refine zL3 (fun (t:Nat) (_:List UInt8) (_:Array Value)=>[(10,(.int .i64 (((t+1):Nat):Int))),(9,(.slice (some ⟨g6,0+8*1,none⟩) d.length d.length)),(8,(.slice (some ⟨g6,0,none⟩) (8+d.length) (8+d.length))),(7,(.pointer (some ⟨g5,0,none⟩))),(6,(.slice A1 ((aeK l).length) c2))]) (fun t o cu w=>HH w0 [] [E3,[bl g5 84 ((ac 8).enc ((bv (aeE l) d.length dq (cutF d 0) t).1))],[bl g6 5 cu]] w∧(t≤6*(d.length/8))∧(o.length=8+d.length)∧(∀ j,j<d.length→o[8+j]?=some ((bv (aeE l) d.length dq (cutF d 0) t).2 j))∧(Bk af (8+d.length) cu o)) (fun t _ _=>6*(d.length/8)-t) 0 ((List.replicate (8+d.length) 0).take 8++(d++(List.replicate (8+d.length) 0).drop (8+d.length))) cur8 ⟨hH,(Nat.zero_le _),(by simp;omega),(fun j hj=>by rw[List.getElem?_append_right (by simp),List.length_take,List.length_replicate,Nat.min_eq_left (by omega),List.getElem?_append_left (by omega),Nat.add_sub_cancel_left];exact gC hj),hB7⟩ ?_
 clear hH
 rintro t o cu w ⟨hH,ht,hol,hoP,hB⟩
 refine aj (zr (zv .mv 0 ?_))
 refine zv .mv 0 ?_
 refine zc Tryz.func58 (rE (some ⟨g6,0+8*1,none⟩) d.length d.length (by omega)) trivial hH 1 ?_
 clear hH
 intro w hH
 refine zv (.le (t+1≤6*(d.length/8))) 3 ?_
 refine zn ?_
 refine zP (fun hc11 => ?_) (fun hc11 => ?_)
 refine aA (ag (aj (ai ?_)))
 have hat:=j1 (t:=t) (n:=d.length) (by omega) h8
 refine zr (zv .mv 1 ?_)
 refine zv .mv 0 ?_
 refine zc Tryz.func59 ((oC (some ⟨g6,0+8*1,none⟩) d.length d.length t (by omega) (by omega) (by omega)).as (v:=(.slice (some ⟨g6,0+(8+t*8%d.length)*1,none⟩) (8+t*8%d.length+8-(8+t*8%d.length)) (8+d.length-(8+t*8%d.length)))) (oB ((bu (by omega)).trans (xk (by omega))) (by omega) (by omega))) trivial hH 3 ?_
 clear hH
 intro w hH
 refine zv .mv 1 ?_
 refine zn (zr (zv .mv 0 ?_))
 refine zs (hH.q 1 rfl) (.l0 (ac 8) ((bv (aeE l) d.length dq (cutF d 0) t).1)) 0 ?_
 refine zv .mv 0 ?_
 refine zc Tryz.func61 (vc ((bv (aeE l) d.length dq (cutF d 0) t).1) (some ⟨g6,0+(8+t*8%d.length)*1,none⟩) (8+t*8%d.length+8-(8+t*8%d.length)) (8+d.length-(8+t*8%d.length)) ((o.take (8+t*8%d.length+8)).drop (8+t*8%d.length)) (by omega)) (bu (sz:=1) (b:=g6) (off:=0) (c:=8+d.length) (k:=8+t*8%d.length) (by omega)▸((hB.vu (n:=8+d.length) (hH.blk 2 rfl) hol).cut (k:=8+t*8%d.length) (m:=8+t*8%d.length+8) (by omega) (by omega))) hH 3 ?_
 clear hH
 intro w hH
 refine zc Tryz.func60 (As A1 ((aeK l).length) c2 l hk (nd l) (ca ((bv (aeE l) d.length dq (cutF d 0) t).1) (cutF ((o.take (8+t*8%d.length+8)).drop (8+t*8%d.length)) 0))) (⟨(hH.oldBlk hR.1 (by simp)),(hO4.vuAt (hH.has 0 rfl))⟩) hH 3 ?_
 clear hH
 intro w hH
 refine zA hH (ac 16) (fun _=>0) 0 ?_
 clear hH
 intro g12 w hH
 refine zW 3 hH rfl (aeE l (ca ((bv (aeE l) d.length dq (cutF d 0) t).1) (cutF ((o.take (8+t*8%d.length+8)).drop (8+t*8%d.length)) 0))) ?_
 clear hH
 intro w hH
 refine zn ?_
 obtain ⟨X,hX⟩:∃ X,X=(wrB (aeE l) d.length dq (cutF d 0) t):=⟨_,rfl⟩
 have he13:(ac 16).enc X=(ac 16).enc (aeE l (ca ((bv (aeE l) d.length dq (cutF d 0) t).1) (cutF ((o.take (8+t*8%d.length+8)).drop (8+t*8%d.length)) 0))):=aB (fun j hj=>hX▸(rp l (by unfold aeR;omega) (iU (fun _ _=>rfl) (fun j hj=>hJ hoP hat j hj)) j hj).symm)
 replace hH:HH w0 [] [E3,[bl g5 84 ((ac 8).enc ((bv (aeE l) d.length dq (cutF d 0) t).1))],[bl g6 5 cu],[bl g12 51 ((ac 16).enc X)]] w:=by rw[he13];exact hH
 refine zr (zv (v:=(.slice (some ⟨g12,0,none⟩) 8 16)) (fun _ _ hF=>dW (m:=16) (h:=8) (e:=5) (sz:=1) rfl (by kernel_rfl) (by kernel_rfl) (hF.ev 0 rfl) rfl rfl (by omega)) 2 ?_)
 refine zv (v:=(.pointer (some ⟨g12,0,none⟩))) (fun _ _ hF=>bS (m:=8) (e:=5) rfl (by kernel_rfl) (hF.ev 0 rfl) (by omega)) 1 ?_
 refine zs (hH.q 3 rfl) (.ld (ac 8) (cutF ((lst 16 X).take 8) 0) (fun _ hS=>(((eJ hS).cut 0 8).arr 0 8 (by first | omega | (rw[ap];omega) | (simp only[List.length_drop,List.length_take,ap];omega) | (simp only[List.length_drop,List.length_take];omega))))) 1 ?_
 refine zv .mv 0 ?_
 refine zc Tryz.func62 (mn (cutF ((lst 16 X).take 8) 0) (t+1)) trivial hH 3 ?_
 clear hH
 intro w hH
 refine zW 1 hH rfl (aL (cutF ((lst 16 X).take 8) 0) (t+1)) ?_
 clear hH
 intro w hH
 refine zn ?_
 have he14:(ac 8).enc (aL X (t+1))=(ac 8).enc (aL (cutF ((lst 16 X).take 8) 0) (t+1)):=aB (fun j hj=>pP _ _ j hj)
 replace hH:HH w0 [] [E3,[bl g5 84 ((ac 8).enc (aL X (t+1)))],[bl g6 5 cu],[bl g12 51 ((ac 16).enc X)]] w:=by rw[he14];exact hH
 refine aC (zv .mv 5 ?_)
 refine zv (v:=(.slice (some ⟨g12,0+8*1,none⟩) (16-8) (16-8))) (fun _ _ hF=>dh (m:=16) (l:=8) (e:=5) (sz:=1) rfl (by kernel_rfl) (by kernel_rfl) (hF.ev 1 rfl) rfl rfl (by omega)) 2 ?_
 obtain ⟨cur16,hcs17,hB15⟩:∃ cs,bJ cu (0+(8+t*8%d.length)*1) (be af ((lst 16 X).drop 8))=cs∧Bk af (8+d.length) cs (o.take (8+t*8%d.length)++(((lst 16 X).drop 8)++o.drop (8+t*8%d.length+((lst 16 X).drop 8).length))):=⟨_,rfl,hB.copy (8+t*8%d.length) ((lst 16 X).drop 8) (by rw[List.length_drop,ap];omega)⟩
 refine ze 2 hH rfl (fun _ hF=>ef (C:=af) (m:=((lst 16 X).drop 8)) (e:=5) rfl (by kernel_rfl) (by kernel_rfl) (ltb rfl) (hF.ev 1 rfl) (hF.ev 0 rfl) (by omega) (by rw[List.length_drop,ap]) (fE hB (k:=8+t*8%d.length) (n:=16-8) (by omega)) hcs17) (bu (sz:=1) (b:=g12) (off:=0) (c:=16) (k:=8) (by omega)▸((bp (hH.blk 3 rfl)).from (k:=8) (by omega))) 3 ?_
 clear hH
 rintro _ _ w ⟨rfl,rfl⟩ hH
 refine aD (aN (ag (aC (zv .mv 3 ?_))))
 refine zv (.add (((t+1+1):Nat):Int)) 1 ?_
 refine zv .mv 1 ?_
 refine aD ?_
 replace hH:HH w0 [] [E3,[bl g5 84 ((ac 8).enc (aL X (t+1)))],[bl g6 5 cur16]] w:=hH.only [true,true,true,false]
 have he18:(ac 8).enc ((bv (aeE l) d.length dq (cutF d 0) (t+1)).1)=(ac 8).enc (aL X (t+1)):=aB (fun j _=>by rw[hX];rfl)
 replace hH:HH w0 [] [E3,[bl g5 84 ((ac 8).enc ((bv (aeE l) d.length dq (cutF d 0) (t+1)).1))],[bl g6 5 cur16]] w:=by rw[he18];exact hH
 exact zR3 (t+1) (o.take (8+t*8%d.length)++(((lst 16 X).drop 8)++o.drop (8+t*8%d.length+((lst 16 X).drop 8).length))) cur16 ⟨hH,(by omega),(by rw[j2 (by omega)];exact hol),(fun j hj=>by rw[k5,← hX];exact k6 hol hat hoP j hj),hB15⟩ (by omega)
 refine aJ (ak (ak (aR (ag ?_))))
 obtain rfl:t=6*(d.length/8):=by omega
 refine zr (zv .mv 39 ?_)
 refine zv (v:=(.slice (some ⟨g5,0,none⟩) 8 8)) (fun _ _ hF=>aV (n:=8) (e:=5) (sz:=1) rfl (by kernel_rfl) (by kernel_rfl) (hF.ev 2 rfl)) 4 ?_
 obtain ⟨cur20,hcs21,hB19⟩:∃ cs,bJ cu (0) (be af (lst 8 ((bv (aeE l) d.length dq (cutF d 0) (6*(d.length/8))).1)))=cs∧Bk af (8+d.length) cs (o.take 0++((lst 8 ((bv (aeE l) d.length dq (cutF d 0) (6*(d.length/8))).1))++o.drop (0+(lst 8 ((bv (aeE l) d.length dq (cutF d 0) (6*(d.length/8))).1)).length))):=⟨_,rfl,hB.copy 0 (lst 8 ((bv (aeE l) d.length dq (cutF d 0) (6*(d.length/8))).1)) (by rw[ap];omega)⟩
 refine ze 2 hH rfl (fun _ hF=>ef (C:=af) (m:=(lst 8 ((bv (aeE l) d.length dq (cutF d 0) (6*(d.length/8))).1))) (e:=5) rfl (by kernel_rfl) (by kernel_rfl) (ltb rfl) (hF.ev 1 rfl) (hF.ev 0 rfl) (by omega) (ap _ _) (fE hB (k:=0) (n:=8) (by omega)) hcs21) (bp (hH.blk 1 rfl)) 3 ?_
 clear hH
 rintro _ _ w ⟨rfl,rfl⟩ hH
 refine zn (zr (zv .mv 3 ?_))
 refine zv .mv 1 ?_
 refine zv .mv 0 ?_
 refine zn (ar (eF 1 0 rfl rfl rfl ?_))
 have hfin:=hB19
 rw[ve hol hoP]at hfin
 exact ⟨_,_,rfl,⟨_,rfl,hfin.own 5 g6 (by rw[List.length_append,ap,ap])⟩,hH.out1 [false,false,true] rfl⟩
theorem j3{d:List UInt8}{k j:Nat}(hj:k+j<d.length):d[k+j]?=some (cutF d k j):=by
 unfold cutF
 rw[List.getD_eq_getElem?_getD,List.getElem?_eq_getElem hj]
 rfl
theorem vg(A:Option Addr)(z:Nat)(l:List UInt8)(hk:l.length=16∨l.length=32)(B:Option Addr)(y:Nat)(d:List UInt8)(hd:24≤d.length∧d.length≤136)(h8:d.length%8=0):Does Tryz.prog 49 #[(.slice A l.length z),(.slice B d.length y)] [] (fun w=>w.heap[0]?=some (.cells ((ac 256).enc ah) 103 (0,0))∧Vu af w A l.length z l∧Vu af w B d.length y d) (fun v E' => ∃ s,v=.tuple #[s,.int .i64 ((unE l d:Nat):Int)]∧OwnT af 5 s (unL l d) E'):=by
 refine dU Tryz.func49 Tryz.ntmps49 ?_
 intro w0 hH hR
 replace hH:HH w0 [] [] w0:=hH.only [false]
 have hlk:=hR.2.1.len;have hld:=hR.2.2.len
 refine zr (zv .mv 0 ?_)
 refine zv .mv 1 ?_
 refine zn (aj (zr (zv .mv 1 ?_)))
 refine zc Tryz.func54 (rC A l.length z hk) trivial hH 1 ?_
 clear hH
 intro w hH
 refine zv (v:=(.bool false)) (fun _ _ hF=>ej rfl (hF.ev 0 rfl) rfl) 1 ?_
 refine zv .mv 1 ?_
 refine pxV (v:=(.slice B d.length y)) (fun _ _ hF=>bo rfl (hF.ev 2 rfl)) rfl (gOn 0 rfl rfl rfl (by decide)) (kA rfl) (by decide) ?_
 refine pxV (v:=(.int .i64 d.length)) (fun _ _ hF=>fj (e:=5) rfl (by kernel_rfl) (hF.ev 0 rfl)) rfl (gOn 1 rfl rfl rfl (by decide)) (kM [false,true,true,true] rfl rfl) (by decide) ?_
 refine pxV (v:=(.int .i64 ((((d.length-8)):Nat):Int))) (fun _ _ hF=>ju rfl (hF.ev 0 rfl) rfl (wI (by omega) (by omega) (by omega))) rfl (gOn 1 rfl rfl rfl (by decide)) (kM [false,true,true,true] rfl rfl) (by decide) ?_
 refine pxM hH (fun _ hF=>Does.small ((yz (d.length-8) (by omega) (by omega) (by omega)).does) (fun w=>oT rfl Tryz.func55 rfl rfl (Evs.cons (v:=(.int .i64 ((((d.length-8)):Nat):Int))) (hF.ev 0 rfl) Evs.nil) w)) trivial rfl (gOn 1 rfl rfl rfl (by decide)) (kM [false,true,true,true] rfl rfl) (by decide) ?_
 clear hH
 rintro _ _ w ⟨rfl,rfl⟩ hH
 replace hH:HH w0 [] [] w:=hH.unpad
 refine pxV (v:=(.bool false)) (fun _ _ hF=>ej rfl (hF.ev 0 rfl) rfl) rfl (gOn 1 rfl rfl rfl (by decide)) (kM [false,true,true,true] rfl rfl) (by decide) ?_
 refine zv (v:=(.bool false)) (fun _ _ hF=>cv rfl (hF.ev 1 rfl) (hF.ev 0 rfl)) 3 ?_
 refine zn (zF ?_)
 refine aA (ag (zr (zv .mv 3 ?_)))
 refine zm hH (.call Tryz.func56 (jH A z l hk)) (⟨(hH.oldBlk hR.1 (by simp)),(hH.vu hR.2.1 (by decide) (Off.nil _ _))⟩) 1 ?_
 clear hH
 rintro v E3 w hO4 hH
 replace hO4:OwnT (ac 16) 51 v (aeK l) E3:=hO4
 obtain ⟨A1,c2,rfl⟩:=hO4.slice
 refine zc Tryz.func91 (Ap ) (hH.oldBlk hR.1 (by simp)) hH 0 ?_
 clear hH
 intro w hH
 refine zA hH (ac 256) (fun _=>0) 0 ?_
 clear hH
 intro g5 w hH
 refine zv .mv 4 ?_
 refine zW 1 hH rfl (bk ah 256) ?_
 clear hH
 intro w hH
 refine zn ?_
 obtain ⟨b6,off7,rfl,hL8,hb9,hR10⟩:=hR.2.2.blk (by decide) (Off.nil _ _) (by omega)
 have:=hR.2.2.cap
 refine zr (zv .mv 4 ?_)
 refine zv (v:=(.pointer (some ⟨b6,off7,none⟩))) (fun _ _ hF=>bS (m:=8) (e:=5) rfl (by kernel_rfl) (hF.ev 0 rfl) (by omega)) 1 ?_
 refine zs (S:=fun w=>HoldsL af w b6 off7 d) (hH.holdsL hL8 hb9 hR10) (.ld (ac 8) (cutF d 0) (fun _ hS=>(hS.arr 0 8 (by first | omega | (rw[ap];omega) | (simp only[List.length_drop,List.length_take,ap];omega) | (simp only[List.length_drop,List.length_take];omega))))) 1 ?_
 refine zA hH (ac 8) (fun _=>0) 0 ?_
 clear hH
 intro g11 w hH
 refine zW 2 hH rfl (cutF d 0) ?_
 clear hH
 intro w hH
 refine zn (zr (zv .mv 2 ?_))
 refine zv .len 1 ?_
 refine zv (.sub ((((d.length-8)):Nat):Int)) 1 ?_
 refine zm hH (fun _ hF=>f0 (e:=5) (n:=(d.length-8)) (sz:=1) (by_:=1) (z:=(.int .u8 0)) (cs:=madeCells (af.enc 0) ((d.length-8)*1)) rfl (by kernel_rfl) (by kernel_rfl) (hF.ev 0 rfl) (hF.ev 0 rfl) rfl rfl (by omega) (by omega) rfl) trivial 1 ?_
 clear hH
 rintro _ _ w ⟨g12,rfl,rfl⟩ hH
 refine zv .mv 1 ?_
 refine zn (zr (zv .mv 0 ?_))
 refine zv .mv 32 ?_
 refine zv (v:=(.slice (some ⟨b6,off7+8*1,none⟩) (d.length-8) (y-8))) (fun _ _ hF=>eu (k:=8) (e:=5) (sz:=1) rfl (by kernel_rfl) (by kernel_rfl) (hF.ev 0 rfl) rfl rfl (by omega) (by omega)) 1 ?_
 obtain ⟨cur14,hcs15,hB13⟩:∃ cs,bJ (madeCells (af.enc 0) ((d.length-8)*1)) (0) (be af (d.drop 8))=cs∧Bk af (d.length-8) cs ((List.replicate (d.length-8) 0).take 0++((d.drop 8)++(List.replicate (d.length-8) 0).drop (0+(d.drop 8).length))):=⟨_,rfl,(Bk.make (C:=af) 0 (d.length-8) (ltb rfl) (by unfold maxLen;omega)).copy 0 (d.drop 8) (by rw[List.length_replicate,List.length_drop];omega)⟩
 refine ze 3 hH rfl (fun _ hF=>ef (C:=af) (m:=(d.drop 8)) (e:=5) rfl (by kernel_rfl) (by kernel_rfl) (ltb rfl) (hF.ev 1 rfl) (hF.ev 0 rfl) (by omega) (by rw[List.length_drop]) (by rw[size_madeCells];show 0+(d.length-8)*1≤(d.length-8)*1;omega) hcs15) (bu (sz:=1) (b:=b6) (off:=off7) (c:=y) (k:=8) (by omega)▸((hH.vu hR.2.2 (by decide) (Off.nil _ _)).from (k:=8) (by omega))) 3 ?_
 clear hH
 rintro _ _ w ⟨rfl,rfl⟩ hH
 refine zn (aj (zr (zv .mv 1 ?_)))
 refine zc Tryz.func58 (rE (some ⟨g12,0,none⟩) (d.length-8) (d.length-8) (by omega)) trivial hH 1 ?_
 clear hH
 intro w hH
 refine zv .mv 1 ?_
 refine zn (ai ?_)
 have he16:(ac 8).enc ((unR (aeD l) (d.length-8) (6*((d.length-8)/8)) (cutF d 0) (cutF d 8) 0).1)=(ac 8).enc (cutF d 0):=aB (fun j _=>rfl)
 replace hH:HH w0 [] [E3,[bl g5 103 ((ac 256).enc (bk ah 256))],[bl g11 84 ((ac 8).enc ((unR (aeD l) (d.length-8) (6*((d.length-8)/8)) (cutF d 0) (cutF d 8) 0).1))],[bl g12 5 cur14]] w:=by rw[he16];exact hH
 refine zL3 (fun (k:Nat) (_:List UInt8) (_:Array Value)=>[(10,(.int .i64 ((((6*((d.length-8)/8))-k):Nat):Int))),(9,(.slice (some ⟨g12,0,none⟩) (d.length-8) (d.length-8))),(8,(.pointer (some ⟨g11,0,none⟩))),(7,(.pointer (some ⟨g5,0,none⟩))),(6,(.slice A1 ((aeK l).length) c2))]) (fun k o cu w=>HH w0 [] [E3,[bl g5 103 ((ac 256).enc (bk ah 256))],[bl g11 84 ((ac 8).enc ((unR (aeD l) (d.length-8) (6*((d.length-8)/8)) (cutF d 0) (cutF d 8) k).1))],[bl g12 5 cu]] w∧(k≤(6*((d.length-8)/8)))∧(o.length=(d.length-8))∧(∀ j,j<(d.length-8)→o[j]?=some ((unR (aeD l) (d.length-8) (6*((d.length-8)/8)) (cutF d 0) (cutF d 8) k).2 j))∧(Bk af (d.length-8) cu o)) (fun k _ _=>(6*((d.length-8)/8))-k) 0 ((List.replicate (d.length-8) 0).take 0++((d.drop 8)++(List.replicate (d.length-8) 0).drop (0+(d.drop 8).length))) cur14 ⟨hH,(Nat.zero_le _),(by simp),(fun j hj=>by rw[List.take_zero,List.nil_append,List.getElem?_append_left (by rw[List.length_drop];exact hj),List.getElem?_drop];exact (j3 (by omega))),hB13⟩ ?_
 clear hH
 rintro k o cu w ⟨hH,hk2,hol,hoP,hB⟩
 refine aj (zr (zv .mv 0 ?_))
 refine zv (.ge ((6*((d.length-8)/8))-k ≥ 1)) 1 ?_
 refine zn ?_
 refine zP (fun hc17 => ?_) (fun hc17 => ?_)
 refine aA (ag (aj (ai ?_)))
 obtain ⟨t,ht⟩:∃ t,(6*((d.length-8)/8))-k=t+1:=⟨(6*((d.length-8)/8))-k-1,by omega⟩
 rw[ht]
 have hat:=j1 (t:=t) (n:=(d.length-8)) (by omega) (by omega)
 refine zr (zv .mv 1 ?_)
 refine zv .mv 0 ?_
 refine zc Tryz.func59 ((oC (some ⟨g12,0,none⟩) (d.length-8) (d.length-8) t (by omega) (by omega) (by omega)).as (v:=(.slice (some ⟨g12,0+(t*8%(d.length-8))*1,none⟩) (t*8%(d.length-8)+8-(t*8%(d.length-8))) ((d.length-8)-(t*8%(d.length-8))))) (oB (bu (by omega)) (by omega) (by omega))) trivial hH 3 ?_
 clear hH
 intro w hH
 refine zv .mv 1 ?_
 refine zn (zr (zv .mv 0 ?_))
 refine zs (hH.q 2 rfl) (.l0 (ac 8) ((unR (aeD l) (d.length-8) (6*((d.length-8)/8)) (cutF d 0) (cutF d 8) k).1)) 0 ?_
 refine zv .mv 0 ?_
 refine zc Tryz.func62 (mn ((unR (aeD l) (d.length-8) (6*((d.length-8)/8)) (cutF d 0) (cutF d 8) k).1) (t+1)) trivial hH 3 ?_
 clear hH
 intro w hH
 refine zv .mv 0 ?_
 refine zc Tryz.func61 (vc (aL ((unR (aeD l) (d.length-8) (6*((d.length-8)/8)) (cutF d 0) (cutF d 8) k).1) (t+1)) (some ⟨g12,0+(t*8%(d.length-8))*1,none⟩) (t*8%(d.length-8)+8-(t*8%(d.length-8))) ((d.length-8)-(t*8%(d.length-8))) ((o.take (t*8%(d.length-8)+8)).drop (t*8%(d.length-8))) (by omega)) (bu (sz:=1) (b:=g12) (off:=0) (c:=(d.length-8)) (k:=t*8%(d.length-8)) (by omega)▸((hB.vu (n:=(d.length-8)) (hH.blk 3 rfl) hol).cut (k:=t*8%(d.length-8)) (m:=t*8%(d.length-8)+8) (by omega) (by omega))) hH 3 ?_
 clear hH
 intro w hH
 refine zc Tryz.func92 (At g5 A1 ((aeK l).length) c2 l hk (nd l) (ca (aL ((unR (aeD l) (d.length-8) (6*((d.length-8)/8)) (cutF d 0) (cutF d 8) k).1) (t+1)) (cutF ((o.take (t*8%(d.length-8)+8)).drop (t*8%(d.length-8))) 0))) (⟨(hH.blk 1 rfl),(hO4.vuAt (hH.has 0 rfl))⟩) hH 3 ?_
 clear hH
 intro w hH
 refine zA hH (ac 16) (fun _=>0) 0 ?_
 clear hH
 intro g18 w hH
 refine zW 4 hH rfl (aeD l (ca (aL ((unR (aeD l) (d.length-8) (6*((d.length-8)/8)) (cutF d 0) (cutF d 8) k).1) (t+1)) (cutF ((o.take (t*8%(d.length-8)+8)).drop (t*8%(d.length-8))) 0))) ?_
 clear hH
 intro w hH
 refine zn ?_
 obtain ⟨X,hX⟩:∃ X,X=(aeD l (ca (aL (unR (aeD l) (d.length-8) (6*((d.length-8)/8)) (cutF d 0) (cutF d 8) k).1 (t+1)) fun j=>(unR (aeD l) (d.length-8) (6*((d.length-8)/8)) (cutF d 0) (cutF d 8) k).2 (t*8%(d.length-8)+j))):=⟨_,rfl⟩
 have he19:(ac 16).enc X=(ac 16).enc (aeD l (ca (aL ((unR (aeD l) (d.length-8) (6*((d.length-8)/8)) (cutF d 0) (cutF d 8) k).1) (t+1)) (cutF ((o.take (t*8%(d.length-8)+8)).drop (t*8%(d.length-8))) 0))):=aB (fun j hj=>hX▸(j0 l (iU (fun _ _=>rfl) (fun j hj=>oD hoP hat j hj)) j hj).symm)
 replace hH:HH w0 [] [E3,[bl g5 103 ((ac 256).enc (bk ah 256))],[bl g11 84 ((ac 8).enc ((unR (aeD l) (d.length-8) (6*((d.length-8)/8)) (cutF d 0) (cutF d 8) k).1))],[bl g12 5 cu],[bl g18 51 ((ac 16).enc X)]] w:=by rw[he19];exact hH
 refine zr (zv (v:=(.slice (some ⟨g18,0,none⟩) 8 16)) (fun _ _ hF=>dW (m:=16) (h:=8) (e:=5) (sz:=1) rfl (by kernel_rfl) (by kernel_rfl) (hF.ev 0 rfl) rfl rfl (by omega)) 2 ?_)
 refine zv (v:=(.pointer (some ⟨g18,0,none⟩))) (fun _ _ hF=>bS (m:=8) (e:=5) rfl (by kernel_rfl) (hF.ev 0 rfl) (by omega)) 1 ?_
 refine zs (hH.q 4 rfl) (.ld (ac 8) (cutF ((lst 16 X).take 8) 0) (fun _ hS=>(((eJ hS).cut 0 8).arr 0 8 (by first | omega | (rw[ap];omega) | (simp only[List.length_drop,List.length_take,ap];omega) | (simp only[List.length_drop,List.length_take];omega))))) 1 ?_
 refine zW 2 hH rfl (cutF ((lst 16 X).take 8) 0) ?_
 clear hH
 intro w hH
 refine zn (aC (zv .mv 5 ?_))
 refine zv (v:=(.slice (some ⟨g18,0+8*1,none⟩) (16-8) (16-8))) (fun _ _ hF=>dh (m:=16) (l:=8) (e:=5) (sz:=1) rfl (by kernel_rfl) (by kernel_rfl) (hF.ev 1 rfl) rfl rfl (by omega)) 2 ?_
 obtain ⟨cur21,hcs22,hB20⟩:∃ cs,bJ cu (0+(t*8%(d.length-8))*1) (be af ((lst 16 X).drop 8))=cs∧Bk af (d.length-8) cs (o.take (t*8%(d.length-8))++(((lst 16 X).drop 8)++o.drop (t*8%(d.length-8)+((lst 16 X).drop 8).length))):=⟨_,rfl,hB.copy (t*8%(d.length-8)) ((lst 16 X).drop 8) (by rw[List.length_drop,ap];omega)⟩
 refine ze 3 hH rfl (fun _ hF=>ef (C:=af) (m:=((lst 16 X).drop 8)) (e:=5) rfl (by kernel_rfl) (by kernel_rfl) (ltb rfl) (hF.ev 1 rfl) (hF.ev 0 rfl) (by omega) (by rw[List.length_drop,ap]) (fE hB (k:=t*8%(d.length-8)) (n:=16-8) (by omega)) hcs22) (bu (sz:=1) (b:=g18) (off:=0) (c:=16) (k:=8) (by omega)▸((bp (hH.blk 4 rfl)).from (k:=8) (by omega))) 3 ?_
 clear hH
 rintro _ _ w ⟨rfl,rfl⟩ hH
 refine aD (aN (ag (aC (zv .mv 3 ?_))))
 refine zv (.sub ((((6*((d.length-8)/8))-(k+1)):Nat):Int)) 1 ?_
 refine zv .mv 1 ?_
 refine aD ?_
 replace hH:HH w0 [] [E3,[bl g5 103 ((ac 256).enc (bk ah 256))],[bl g11 84 ((ac 8).enc (cutF ((lst 16 X).take 8) 0))],[bl g12 5 cur21]] w:=hH.only [true,true,true,true,false]
 have hS:unR (aeD l) (d.length-8) (6*((d.length-8)/8)) (cutF d 0) (cutF d 8) (k+1)=(X,cpy (t*8%(d.length-8)) 8 (unR (aeD l) (d.length-8) (6*((d.length-8)/8)) (cutF d 0) (cutF d 8) k).2 fun j=>X (8+j)):=by rw[iT];unfold unB;rw[ht,hX];rfl
 have he23:(ac 8).enc ((unR (aeD l) (d.length-8) (6*((d.length-8)/8)) (cutF d 0) (cutF d 8) (k+1)).1)=(ac 8).enc (cutF ((lst 16 X).take 8) 0):=aB (fun j hj=>by rw[hS];exact B9 X j hj)
 replace hH:HH w0 [] [E3,[bl g5 103 ((ac 256).enc (bk ah 256))],[bl g11 84 ((ac 8).enc ((unR (aeD l) (d.length-8) (6*((d.length-8)/8)) (cutF d 0) (cutF d 8) (k+1)).1))],[bl g12 5 cur21]] w:=by rw[he23];exact hH
 exact zR3 (k+1) (o.take (t*8%(d.length-8))++(((lst 16 X).drop 8)++o.drop (t*8%(d.length-8)+((lst 16 X).drop 8).length))) cur21 ⟨hH,(by omega),(by rw[j2 (by omega)];exact hol),(fun j hj=>by rw[hS];exact ta hol hat hoP j hj),hB20⟩ (by omega)
 refine aJ (ak (ak (aR (ag (aj ?_)))))
 obtain rfl:k=(6*((d.length-8)/8)):=by omega
 refine zx ?_
 replace hH:=hH.drew
 refine rld 0 (hH.q 2 rfl) (.l0 (ac 8) ((unR (aeD l) (d.length-8) (6*((d.length-8)/8)) (cutF d 0) (cutF d 8) (6*((d.length-8)/8))).1)) 59 ?_
 refine ao 1 (rpc 1 Tryz.func57 (rD ) trivial hH 0 (.keep (.nil _ [])) ?_)
 clear hH
 intro w hH
 refine ⟨am (hH.blk 2 rfl) an,?_⟩
 refine rv 2 (v:=(.bool (decide (lst 8 (unS l d).1≠lst 8 dq)))) (fun _ _ hF=>xY (n:=8) (e:=5) (f:=(unR (aeD l) (d.length-8) (6*((d.length-8)/8)) (cutF d 0) (cutF d 8) (6*((d.length-8)/8))).1) (g:=(fun _=>166)) rfl (by kernel_rfl) (by kernel_rfl) (by kernel_rfl) (hF.ev 1 rfl) (hF.ev 0 rfl) (by kernel_rfl) Iff.rfl) 3 ?_
 refine rn ?_
 refine zP (fun hc24 => ?_) (fun hc24 => ?_)
 refine zr (zv .mv 3 ?_)
 refine zv .mv 0 ?_
 refine zn (ar (bj ?_))
 refine eF 1 0 rfl rfl rfl ?_
 have he:unE l d=5:=if_neg hc24
 have hl:unL l d=[]:=if_neg hc24
 exact ⟨_,_,rfl,⟨_,by rw[he];rfl,hl▸OwnT.nil _ _⟩,HH.out (HH.pad hH 1) [false,false,false,false,true]⟩
 refine aA (ag (zr (zv .mv 3 ?_)))
 refine zv .mv 1 ?_
 refine zv .mv 0 ?_
 refine zn (ar (eF 1 0 rfl rfl rfl ?_))
 have hz:=Decidable.not_not.1 hc24
 have he:unE l d=0:=if_pos hz
 have hl:unL l d=lst (d.length-8) (unS l d).2:=if_pos hz
 have hfin:=hB
 rw[bR hoP hol]at hfin
 exact ⟨_,_,rfl,⟨_,by rw[he];rfl,hl▸hfin.own 5 g12 (ap _ _)⟩,hH.out1 [false,false,false,true] rfl⟩
def eA(p u:Bt)(w:List UInt8):List UInt8:=[6,33,6]++(lst 32 p++([25]++(lst 32 u++([40]++w))))
theorem oF(p u:Bt)(w:List UInt8):[[6,33,6],lst 32 p,[25],lst 32 u,[40],w].flatten=eA p u w:=by
 unfold eA
 simp only[List.flatten_cons,List.flatten_nil,List.append_nil]
theorem tb(p u:Bt)(w:List UInt8):(eA p u w).length=69+w.length:=by
 unfold eA
 simp only[List.length_append,List.length_cons,List.length_nil,ap]
 omega
theorem j4{l:List UInt8}{n:Nat}(h:l.length=n):lst n (cutF l 0)=l:=(bR (fun _ hj=>gC (by omega)) h).symm
theorem k7{l:List UInt8}{n k:Nat}(h:l.length=k+n):lst n (cutF l k)=l.drop k:=(bR (fun j hj=>by rw[List.getElem?_drop];exact j3 (by omega)) (by rw[List.length_drop];omega)).symm
theorem jm(l d:List UInt8):(cd l d).length=8+d.length:=by unfold cd;rw[List.length_append,ap,ap]
theorem yA{l d:List UInt8}(h:unE l d≠0):unE l d=5:=by
 unfold unE at h ⊢
 by_cases hh:lst 8 (unS l d).1=lst 8 dq
 ·rw[if_pos hh]at h;exact absurd rfl h
 ·rw[if_neg hh]
theorem rG{l d:List UInt8}(h:unE l d=0):(unL l d).length=d.length-8:=by
 unfold unE at h
 unfold unL
 by_cases hh:lst 8 (unS l d).1=lst 8 dq
 ·rw[if_pos hh,ap]
 ·rw[if_neg hh]at h;cases h
abbrev Ct:=Nat×Bt×Bt×Bt
def pr1(ct:Ct):Bt:=fun j=>ct.2.2.2 (32*1+j)
def skE(d:Bt)(ct:Ct):Nat:=shE (xMulB d ct.2.2.1)
def skW(S d:Bt)(ct:Ct):List UInt8:=cd (kekL (xPub d) ct.2.2.1 (xMulB d ct.2.2.1)) (lst 32 S)
theorem rH(S d:Bt)(ct:Ct):(skW S d ct).length=40:=by unfold skW;rw[jm,ap]
def skL(S:Bt)(ct:Ct)(d:Bt):List UInt8:=if skE d ct=0 then eA (pr1 ct) (xPub d) (skW S d ct) else []
def isB(l:List UInt8):Prop:=l.length=109∧l=eA (cutF l 3) (cutF l 36) (l.drop 69)
instance (l:List UInt8):Decidable (isB l):=by unfold isB;infer_instance
def opR(l:List UInt8)(k:Bt)(ct:Ct):Bt×Nat :=
 if isB l then
  if lst 32 (cutF l 3)=lst 32 (pr1 ct) then
   if shE (xMulB k (cutF l 36))=0 then
    if unE (kekL (cutF l 36) (xPub k) (xMulB k (cutF l 36))) (l.drop 69)=0 then (cutF (unL (kekL (cutF l 36) (xPub k) (xMulB k (cutF l 36))) (l.drop 69)) 0,0) else (fun _=>0,5)
   else (fun _=>0,2)
  else (fun _=>0,3)
 else (fun _=>0,2)
def uwV(K:Bt)(m:List UInt8):Bt:=if unE (lst 16 K) m=0 then cutF (unL (lst 16 K) m) 0 else fun _=>0
theorem yC{r:Bt}(h:shE r≠0):shE r=2:=by
 unfold shE at h ⊢
 by_cases hh:lst 32 r=lst 32 (fun _=>0)
 ·rw[if_pos hh]
 ·rw[if_neg hh]at h;exact absurd rfl h
abbrev cSe:Cod (Bt×Bt×Bt):=bn (ac 32) (bn (ac 32) (ac 40))
theorem xm(A:Option Addr)(n z:Nat)(l:List UInt8)(hn:l.length=n)(hk:l.length=16∨l.length=32)(B:Option Addr)(m y:Nat)(d:List UInt8)(hm:d.length=m)(hd:16≤d.length∧d.length≤128)(h8:d.length%8=0):Does Tryz.prog 32 #[.slice A n z,.slice B m y] [] (fun w=>w.heap[0]?=some (.cells ((ac 256).enc ah) 103 (0,0))∧Vu af w A n z l∧Vu af w B m y d) (fun v E' => ∃ s,v=.tuple #[s,.int .i64 0]∧OwnT af 5 s (cd l d) E'):=by
 subst hn hm;exact Au A z l hk B y d hd h8
theorem tc(A:Option Addr)(n z:Nat)(l:List UInt8)(hn:l.length=n)(hk:l.length=16∨l.length=32)(B:Option Addr)(m y:Nat)(d:List UInt8)(hm:d.length=m)(hd:24≤d.length∧d.length≤136)(h8:d.length%8=0):Does Tryz.prog 49 #[.slice A n z,.slice B m y] [] (fun w=>w.heap[0]?=some (.cells ((ac 256).enc ah) 103 (0,0))∧Vu af w A n z l∧Vu af w B m y d) (fun v E' => ∃ s,v=.tuple #[s,.int .i64 ((unE l d:Nat):Int)]∧OwnT af 5 s (unL l d) E'):=by
 subst hn hm;exact vg A z l hk B y d hd h8
theorem mo(a b c:Nat→UInt8):Pure Tryz.prog 16 #[((ac 32).val a),((ac 32).val b),((ac 32).val c)] (fun w=>w.heap[3]?=some (.cells ((cWs 64).enc K32) 119 (0,0))∧w.heap[2]?=some (.cells ((cWs 8).enc H32) 118 (0,0))) ((ac 16).val (cutF (kekL a b c) 0)):=by
 refine pU Tryz.func16 Tryz.ntmps16 ?_
 intro w0 hH hR
 refine zr (zB hH (ac 32) a 1 ?_)
 clear hH
 intro g1 w hH
 refine zB hH (ac 32) b 2 ?_
 clear hH
 intro g2 w hH
 refine zB hH (ac 32) c 4 ?_
 clear hH
 intro g3 w hH
 refine zA hH (ac 16) (fun _=>0) 0 ?_
 clear hH
 intro g4 w hH
 refine zn (zx ?_)
 replace hH:=hH.drew
 refine rv 0 (v:=(.slice (some ⟨g1,0,none⟩) 32 32)) (fun _ _ hF=>aV (n:=32) (e:=5) (sz:=1) rfl (by kernel_rfl) (by kernel_rfl) (hF.ev 3 rfl)) 8 ?_
 refine rv 1 (v:=(.slice (some ⟨g2,0,none⟩) 32 32)) (fun _ _ hF=>aV (n:=32) (e:=5) (sz:=1) rfl (by kernel_rfl) (by kernel_rfl) (hF.ev 3 rfl)) 8 ?_
 refine rv 2 (v:=(.slice (some ⟨g3,0,none⟩) 32 32)) (fun _ _ hF=>aV (n:=32) (e:=5) (sz:=1) rfl (by kernel_rfl) (by kernel_rfl) (hF.ev 3 rfl)) 8 ?_
 refine ao 3 ?_
 refine rm 3 hH (fun _ hF=>cY (C:=cSl) (e:=27) (z:=(.slice none 0 0)) (by_:=24) [((some ⟨g1,0,none⟩),32,32),((some ⟨g2,0,none⟩),32,32),((some ⟨g3,0,none⟩),32,32)] rfl (by kernel_rfl) (by kernel_rfl) (EvP.cons (v:=cSl.val ((some ⟨g1,0,none⟩),32,32)) (hF.ev 2 rfl) (EvP.cons (v:=cSl.val ((some ⟨g2,0,none⟩),32,32)) (hF.ev 1 rfl) (EvP.cons (v:=cSl.val ((some ⟨g3,0,none⟩),32,32)) (hF.ev 0 rfl) EvP.nil))) rfl (ltb rfl) (leb rfl) rfl) trivial 7 (.nil _ []) ?_
 clear hH
 rintro _ _ w ⟨g5,rfl,rfl⟩ hH
 refine ⟨an,ao 4 ?_⟩
 refine rm 4 hH (.call Tryz.func33 ((CL (some ⟨g5,0,none⟩) 3 [((some ⟨g1,0,none⟩),32,32),((some ⟨g2,0,none⟩),32,32),((some ⟨g3,0,none⟩),32,32)] (lst 32 a) (lst 32 b) (lst 32 c) (by rw[ap,ap,ap];decide)))) (⟨((Bk.lits (C:=cSl) [((some ⟨g1,0,none⟩),32,32),((some ⟨g2,0,none⟩),32,32),((some ⟨g3,0,none⟩),32,32)] (by show 3≤_;unfold maxLen;decide)).vu (n:=3) (hH.blk 4 rfl) rfl),(.cons (bp (hH.blk 0 rfl)) (.cons (bp (hH.blk 1 rfl)) (.cons (bp (hH.blk 2 rfl)) ViewsL.nil)))⟩) 1 (.nil _ []) ?_
 clear hH
 rintro v10 E6 w hO7 hH
 obtain ⟨A8,c9,rfl⟩:=hO7.slice
 refine ⟨an,rv 5 .mv 1 ?_⟩
 refine rn ?_
 refine zr (zv .mv 1 ?_)
 refine zm hH (fun _ hF=>cY (C:=af) (e:=5) (z:=(.int .u8 0)) (by_:=1) [79,112,101,110,80,71,80,32,88,50,53,53,49,57] rfl (by kernel_rfl) (by kernel_rfl) (EvP.cons (v:=af.val 79) rfl (EvP.cons (v:=af.val 112) rfl (EvP.cons (v:=af.val 101) rfl (EvP.cons (v:=af.val 110) rfl (EvP.cons (v:=af.val 80) rfl (EvP.cons (v:=af.val 71) rfl (EvP.cons (v:=af.val 80) rfl (EvP.cons (v:=af.val 32) rfl (EvP.cons (v:=af.val 88) rfl (EvP.cons (v:=af.val 50) rfl (EvP.cons (v:=af.val 53) rfl (EvP.cons (v:=af.val 53) rfl (EvP.cons (v:=af.val 49) rfl (EvP.cons (v:=af.val 57) rfl EvP.nil)))))))))))))) rfl (ltb rfl) (leb rfl) rfl) trivial 0 ?_
 clear hH
 rintro _ _ w ⟨g12,rfl,rfl⟩ hH
 refine ze 6 hH rfl (fun _ hF=>tB (e:=5) rfl (by kernel_rfl) (by kernel_rfl) (hF.ev 0 rfl)) trivial 1 ?_
 clear hH
 rintro _ _ w ⟨rfl,rfl⟩ hH
 refine zm hH (.call Tryz.func34 ((zk none 0 0 [] (by decide) A8 (((lst 32 a)++((lst 32 b)++(lst 32 c))).length) c9 ((lst 32 a)++((lst 32 b)++(lst 32 c))) (by simp only[List.length_append,ap];decide) (some ⟨g12,0,none⟩) 14 14 ([79,112,101,110,80,71,80,32,88,50,53,53,49,57]) (by decide) 16 (by decide) (by decide)))) (⟨(hH.oldBlk hR.1 (by simp)),(hH.oldBlk hR.2 (by simp)),Vu.none _ _,(hO7.vuAt (hH.has 5 rfl)),((Bk.lits (C:=af) [79,112,101,110,80,71,80,32,88,50,53,53,49,57] (by show 14≤_;unfold maxLen;decide)).vuM (hH.blk 6 rfl) rfl)⟩) 3 ?_
 clear hH
 rintro v17 E13 w hO14 hH
 obtain ⟨q,hq⟩:∃ q,q=kekL a b c:=⟨_,rfl⟩
 replace hO14:OwnT af 5 v17 (kekL a b c) E13:=hO14
 rw[← hq]at hO14
 have hkl:q.length=16:=hq▸eL a b c
 obtain ⟨A15,c16,rfl⟩:=hO14.slice
 obtain ⟨g19,cap20,cur21,hv23,rfl,hB22⟩:=hO14.open (by omega)
 obtain ⟨rfl,rfl⟩:A15=some ⟨g19,0,none⟩∧c16=cap20:=by injection hv23 with h1 h2 h3;exact ⟨h1,h3⟩
 have:=hB22.le
 refine zv (v:=(.pointer (some ⟨g19,0,none⟩))) (fun _ _ hF=>bS (m:=16) (e:=5) rfl (by kernel_rfl) (hF.ev 0 rfl) (by omega)) 1 ?_
 refine zs (hH.q 7 rfl) (.ld (ac 16) (cutF q 0) (fun _ hS=>((hB22.holdsL hS).arr 0 16 (by first | omega | (rw[ap];omega) | (simp only[List.length_drop,List.length_take,ap];omega) | (simp only[List.length_drop,List.length_take];omega))))) 1 ?_
 refine zW 3 hH rfl (cutF q 0) ?_
 clear hH
 intro w hH
 refine zn (ar (aI 1 (hH.blk 3 rfl) rfl rfl (by kernel_rfl) (Cod.size _ _) (by kernel_rfl) ?_))
 exact ⟨by first | (rw[← hq];rfl) | rw[← hq],HH.toBelow hH⟩
theorem vh(K S:Nat→UInt8):Pure Tryz.prog 15 #[((ac 16).val K),((ac 32).val S)] (fun w=>w.heap[0]?=some (.cells ((ac 256).enc ah) 103 (0,0))) ((ac 40).val (cutF (cd (lst 16 K) (lst 32 S)) 0)):=by
 refine pU Tryz.func15 Tryz.ntmps15 ?_
 intro w0 hH hR
 refine zr (zB hH (ac 16) K 1 ?_)
 clear hH
 intro g1 w hH
 refine zB hH (ac 32) S 2 ?_
 clear hH
 intro g2 w hH
 refine zA hH (ac 40) (fun _=>0) 0 ?_
 clear hH
 intro g3 w hH
 refine zn (zx ?_)
 replace hH:=hH.drew
 refine rv 0 (v:=(.slice (some ⟨g1,0,none⟩) 16 16)) (fun _ _ hF=>aV (n:=16) (e:=5) (sz:=1) rfl (by kernel_rfl) (by kernel_rfl) (hF.ev 2 rfl)) 4 ?_
 refine rv 1 (v:=(.slice (some ⟨g2,0,none⟩) 32 32)) (fun _ _ hF=>aV (n:=32) (e:=5) (sz:=1) rfl (by kernel_rfl) (by kernel_rfl) (hF.ev 2 rfl)) 4 ?_
 refine ao 2 ?_
 refine rm 2 hH (.call Tryz.func32 ((xm (some ⟨g1,0,none⟩) 16 16 (lst 16 K) (ap _ _) (.inl (ap _ _)) (some ⟨g2,0,none⟩) 32 32 (lst 32 S) (ap _ _) (by rw[ap];decide) (by rw[ap])))) (⟨(hH.oldBlk hR (by simp)),(bp (hH.blk 0 rfl)),(bp (hH.blk 1 rfl))⟩) 3 (.nil _ []) ?_
 clear hH
 rintro _ E4 w ⟨s8,rfl,hO5⟩ hH
 obtain ⟨A6,c7,rfl⟩:=hO5.slice
 refine ⟨an,rv 3 .mv 1 ?_⟩
 refine rv 4 .ext 0 ?_
 refine rv 5 .ext 2 ?_
 refine rv 6 .mv 2 ?_
 refine rv 7 .mv 2 ?_
 refine rn ?_
 have hwl:(cd (lst 16 K) (lst 32 S)).length=40:=by rw[jm,ap]
 refine zr (zv .mv 3 ?_)
 obtain ⟨g10,cap11,cur12,hv14,rfl,hB13⟩:=hO5.open (by omega)
 obtain ⟨rfl,rfl⟩:A6=some ⟨g10,0,none⟩∧c7=cap11:=by injection hv14 with h1 h2 h3;exact ⟨h1,h3⟩
 have:=hB13.le
 refine zv (v:=(.pointer (some ⟨g10,0,none⟩))) (fun _ _ hF=>bS (m:=40) (e:=5) rfl (by kernel_rfl) (hF.ev 0 rfl) (by omega)) 1 ?_
 refine zs (hH.q 3 rfl) (.ld (ac 40) (cutF (cd (lst 16 K) (lst 32 S)) 0) (fun _ hS=>((hB13.holdsL hS).arr 0 40 (by first | omega | (rw[ap];omega) | (simp only[List.length_drop,List.length_take,ap];omega) | (simp only[List.length_drop,List.length_take];omega))))) 1 ?_
 refine zW 2 hH rfl (cutF (cd (lst 16 K) (lst 32 S)) 0) ?_
 clear hH
 intro w hH
 refine zn (ar (aI 1 (hH.blk 2 rfl) rfl rfl (by kernel_rfl) (Cod.size _ _) (by kernel_rfl) ?_))
 exact zE hH
theorem pQ(K:Nat→UInt8)(A:Option Addr)(n c:Nat)(m:List UInt8)(hn:n=40):Pure Tryz.prog 29 #[((ac 16).val K),(.slice A n c)] (fun w=>w.heap[0]?=some (.cells ((ac 256).enc ah) 103 (0,0))∧Vu af w A n c m) (.tuple #[(ac 32).val (uwV K m),.int .i64 ((unE (lst 16 K) m:Nat):Int)]):=by
 refine pU Tryz.func29 Tryz.ntmps29 ?_
 intro w0 hH hR
 have hml:=hR.2.len
 refine zr (zB hH (ac 16) K 1 ?_)
 clear hH
 intro g1 w hH
 refine zA hH (ac 32) (fun _=>0) 0 ?_
 clear hH
 intro g2 w hH
 refine zv .mv 0 ?_
 refine zn (zr (zv (v:=(.slice (some ⟨g1,0,none⟩) 16 16)) (fun _ _ hF=>aV (n:=16) (e:=5) (sz:=1) rfl (by kernel_rfl) (by kernel_rfl) (hF.ev 2 rfl)) 5 ?_))
 refine zv .mv 4 ?_
 refine zm hH (.call Tryz.func49 ((tc (some ⟨g1,0,none⟩) 16 16 (lst 16 K) (ap _ _) (.inl (ap _ _)) A n c m hR.2.len (by omega) (by omega)))) (⟨(hH.oldBlk hR.1 (by simp)),(bp (hH.blk 0 rfl)),(hH.vu hR.2 (by decide) (Off.nil _ _))⟩) 3 ?_
 clear hH
 rintro _ E3 w ⟨s7,rfl,hO4⟩ hH
 obtain ⟨A5,c6,rfl⟩:=hO4.slice
 refine zv .mv 1 ?_
 refine zv .ext 0 ?_
 refine zv .ext 2 ?_
 refine zv .mv 2 ?_
 refine zv .mv 2 ?_
 refine zn (aj (zr (zv .mv 1 ?_)))
 refine zv (.ne (unE (lst 16 K) m≠0)) 1 ?_
 refine zv .mv 1 ?_
 refine eI 0 rfl (l1:=[(16,(.bool true)),(6,(.slice A5 ((unL (lst 16 K) m).length) c6)),(4,(.pointer (some ⟨g2,0,none⟩)))]) (l2:=[(16,(.bool false)),(6,(.slice A5 ((unL (lst 16 K) m).length) c6)),(4,(.pointer (some ⟨g2,0,none⟩)))]) rfl rfl (fun hg9 => ?_) (fun hg9 => ?_)
 refine pxU rfl (cW 0 rfl rfl rfl (by decide)) (kA rfl) (by decide) ?_
 refine pxU rfl (cW 0 rfl rfl rfl (by decide)) (kA rfl) (by decide) ?_
 refine pxU rfl (cW 0 rfl rfl rfl (by decide)) (kA rfl) (by decide) ?_
 refine zv (v:=(.bool true)) (fun _ _ hF=>cB rfl (hF.ev 0 rfl) rfl) 1 ?_
 refine zn (zT ?_)
 refine zr (zv (v:=((ac 32).val (fun _=>0))) (fun _ _ hF=>aE (cells:=(ac 32).enc (fun _=>0)) (vals:=[]) rfl EvP.nil (by kernel_rfl) _) 3 ?_)
 refine zW 1 hH rfl (fun _=>0) ?_
 clear hH
 intro w hH
 refine zv .mv 1 ?_
 refine zn (ar (bj ?_))
 refine aX 1 0 (hH.blk 1 rfl) rfl rfl rfl (by kernel_rfl) (Cod.size _ _) (by kernel_rfl) ?_
 have he:=yA hg9
 have hv:uwV K m=fun _=>0:=if_neg hg9
 exact ⟨by rw[he,hv];rfl,HH.toBelow hH⟩
 refine pxV (v:=(.slice A5 ((unL (lst 16 K) m).length) c6)) (fun _ _ hF=>bo rfl (hF.ev 1 rfl)) rfl (gOn 0 rfl rfl rfl (by decide)) (kA rfl) (by decide) ?_
 refine pxV (v:=(.int .i64 ((((unL (lst 16 K) m).length):Nat):Int))) (fun _ _ hF=>fj (e:=5) rfl (by kernel_rfl) (hF.ev 0 rfl)) rfl (gOn 1 rfl rfl rfl (by decide)) (kM [false,true,true,true] rfl rfl) (by decide) ?_
 refine pxV (v:=(.bool false)) (fun _ _ hF=>ic rfl (hF.ev 0 rfl) rfl (decide_eq_false (by rw[rG (Decidable.not_not.1 hg9)];omega))) rfl (gOn 1 rfl rfl rfl (by decide)) (kM [false,true,true,true] rfl rfl) (by decide) ?_
 refine zv (v:=(.bool false)) (fun _ _ hF=>cv rfl (hF.ev 1 rfl) (hF.ev 0 rfl)) 3 ?_
 refine zn (zF ?_)
 refine aA (ag ?_)
 have hwl:(unL (lst 16 K) m).length=32:=by rw[rG (Decidable.not_not.1 hg9)];omega
 refine zr (zv .mv 3 ?_)
 obtain ⟨g10,cap11,cur12,hv14,rfl,hB13⟩:=hO4.open (by omega)
 obtain ⟨rfl,rfl⟩:A5=some ⟨g10,0,none⟩∧c6=cap11:=by injection hv14 with h1 h2 h3;exact ⟨h1,h3⟩
 have:=hB13.le
 refine zv (v:=(.pointer (some ⟨g10,0,none⟩))) (fun _ _ hF=>bS (m:=32) (e:=5) rfl (by kernel_rfl) (hF.ev 0 rfl) (by omega)) 1 ?_
 refine zs (hH.q 2 rfl) (.ld (ac 32) (cutF (unL (lst 16 K) m) 0) (fun _ hS=>((hB13.holdsL hS).arr 0 32 (by first | omega | (rw[ap];omega) | (simp only[List.length_drop,List.length_take,ap];omega) | (simp only[List.length_drop,List.length_take];omega))))) 1 ?_
 refine zW 1 hH rfl (cutF (unL (lst 16 K) m) 0) ?_
 clear hH
 intro w hH
 refine zv .mv 1 ?_
 refine zn (ar (aX 1 0 (hH.blk 1 rfl) rfl rfl rfl (by kernel_rfl) (Cod.size _ _) (by kernel_rfl) ?_))
 have he:=Decidable.not_not.1 hg9
 have hv:uwV K m=cutF (unL (lst 16 K) m) 0:=if_pos he
 exact ⟨by rw[he,hv];rfl,HH.toBelow hH⟩
theorem td(A:Option Addr)(n c:Nat)(l:List UInt8)(B:Option Addr)(m d:Nat)(x:List UInt8):Pure Tryz.prog 48 #[(.slice A n c),(.slice B m d)] (fun w=>Vu af w A n c l∧Vu af w B m d x) (.bool (decide (l=x))):=by
 refine pU Tryz.func48 Tryz.ntmps48 ?_
 intro w0 hH hR
 refine zr (zv .mv 0 ?_)
 refine zn (zr (zv .mv 3 ?_))
 refine zs (S:=fun w=>Vu af w A n c l) (hH.vu hR.1 (by decide) (Off.nil _ _)) (v:=(.string (i5 l))) (fun _ _ hF hS=>nG (e:=5) rfl (by kernel_rfl) (by kernel_rfl) (by kernel_rfl) (hF.ev 0 rfl) hS) 1 ?_
 refine zv .mv 2 ?_
 refine zs (S:=fun w=>Vu af w B m d x) (hH.vu hR.2 (by decide) (Off.nil _ _)) (v:=(.string (i5 x))) (fun _ _ hF hS=>nG (e:=5) rfl (by kernel_rfl) (by kernel_rfl) (by kernel_rfl) (hF.ev 0 rfl) hS) 1 ?_
 refine zv (v:=(.bool (decide (l=x)))) (fun _ _ hF=>Bm (l:=l) (m:=x) rfl (hF.ev 1 rfl) (hF.ev 0 rfl) Iff.rfl) 3 ?_
 refine zv .mv 1 ?_
 refine zn (ar (aW 0 rfl rfl ?_))
 exact zE hH
theorem vi(s:Bt×Bt×Bt):Does Tryz.prog 17 #[(cSe.val s)] [] (fun _=>True) (fun v E'=>OwnT af 5 v (eA s.1 s.2.1 (lst 40 s.2.2)) E'):=by
 refine dU Tryz.func17 Tryz.ntmps17 ?_
 intro w0 hH hR
 replace hH:HH w0 [] [] w0:=hH.only [false]
 refine zr (zB hH cSe s 1 ?_)
 clear hH
 intro g1 w hH
 refine zv .mv 0 ?_
 refine zn (zx ?_)
 replace hH:=hH.drew
 refine de 2 [mkv 0 3 [] [] (fun G g=>(.slice (some ⟨g,0,none⟩) 3 3)) fun G g=>[bl g 5 (be af [6,33,6]).toArray],pv 1 4 [] [] fun G=>(.pointer (some ⟨g1,0,none⟩)),pv 2 5 [1] [] fun G=>(.slice (some ⟨g1,0,none⟩) 32 32),mkv 3 6 [] [] (fun G g=>(.slice (some ⟨g,0,none⟩) 1 1)) fun G g=>[bl g 5 (af.enc 25)],pv 4 7 [] [] fun G=>(.pointer (some ⟨g1,32,none⟩)),pv 5 8 [4] [] fun G=>(.slice (some ⟨g1,32,none⟩) 32 32),mkv 6 9 [] [] (fun G g=>(.slice (some ⟨g,0,none⟩) 1 1)) fun G g=>[bl g 5 (af.enc 40)],pv 7 10 [] [] fun G=>(.pointer (some ⟨g1,64,none⟩)),pv 8 11 [7] [] fun G=>(.slice (some ⟨g1,64,none⟩) 40 40),mkv 9 12 [0,2,3,5,6,8] [0,3,6] (fun G g=>(.slice (some ⟨g,0,none⟩) 6 6)) fun G g=>[bl g 27 (be cSl [((some ⟨(G 0).g,0,none⟩),3,3),((some ⟨g1,0,none⟩),32,32),((some ⟨(G 3).g,0,none⟩),1,1),((some ⟨g1,32,none⟩),32,32),((some ⟨(G 6).g,0,none⟩),1,1),((some ⟨g1,64,none⟩),40,40)]).toArray]] (fun G=>[(12,(.slice (some ⟨(G 9).g,0,none⟩) 6 6)),(2,(.slice none 0 0))]) (fun G=>[[bl g1 49 (cSe.enc s)],[bl (G 0).g 5 (be af [6,33,6]).toArray],[bl (G 3).g 5 (af.enc 25)],[bl (G 6).g 5 (af.enc 40)],[bl (G 9).g 27 (be cSl [((some ⟨(G 0).g,0,none⟩),3,3),((some ⟨g1,0,none⟩),32,32),((some ⟨(G 3).g,0,none⟩),1,1),((some ⟨g1,32,none⟩),32,32),((some ⟨(G 6).g,0,none⟩),1,1),((some ⟨g1,64,none⟩),40,40)]).toArray]]) hH (.c (.a (fun _ _ _ _=>trivial) (fun G=>(fun _ hF=>cY (C:=af) (e:=5) (z:=(.int .u8 0)) (by_:=1) [6,33,6] rfl (by kernel_rfl) (by kernel_rfl) (EvP.cons (v:=af.val 6) rfl (EvP.cons (v:=af.val 33) rfl (EvP.cons (v:=af.val 6) rfl EvP.nil))) rfl (ltb rfl) (leb rfl) rfl)) fun _ _ _ h=>h) <| .c (.v fun G=>(.fld 0)) <| .c (.v fun G=>(fun _ _ hF=>aV (n:=32) (e:=5) (sz:=1) rfl (by kernel_rfl) (by kernel_rfl) (hF.ev 0 rfl))) <| .c (.a (fun _ _ _ _=>trivial) (fun G=>(fun _ hF=>cx (e:=5) (sz:=1) (z:=(.int .u8 0)) (by_:=1) (cs:=af.enc 25) rfl (by kernel_rfl) (by kernel_rfl) rfl (af.len 25) (ltb rfl) (leb rfl) rfl)) fun _ _ _ h=>h) <| .c (.v fun G=>(.fld 32)) <| .c (.v fun G=>(fun _ _ hF=>aV (n:=32) (e:=5) (sz:=1) rfl (by kernel_rfl) (by kernel_rfl) (hF.ev 0 rfl))) <| .c (.a (fun _ _ _ _=>trivial) (fun G=>(fun _ hF=>cx (e:=5) (sz:=1) (z:=(.int .u8 0)) (by_:=1) (cs:=af.enc 40) rfl (by kernel_rfl) (by kernel_rfl) rfl (af.len 40) (ltb rfl) (leb rfl) rfl)) fun _ _ _ h=>h) <| .c (.v fun G=>(.fld 64)) <| .c (.v fun G=>(fun _ _ hF=>aV (n:=40) (e:=5) (sz:=1) rfl (by kernel_rfl) (by kernel_rfl) (hF.ev 0 rfl))) <| .c (.a (fun _ _ _ _=>trivial) (fun G=>(fun _ hF=>cY (C:=cSl) (e:=27) (z:=(.slice none 0 0)) (by_:=24) [((some ⟨(G 0).g,0,none⟩),3,3),((some ⟨g1,0,none⟩),32,32),((some ⟨(G 3).g,0,none⟩),1,1),((some ⟨g1,32,none⟩),32,32),((some ⟨(G 6).g,0,none⟩),1,1),((some ⟨g1,64,none⟩),40,40)] rfl (by kernel_rfl) (by kernel_rfl) (EvP.cons (v:=cSl.val ((some ⟨(G 0).g,0,none⟩),3,3)) (hF.ev 0 rfl) (EvP.cons (v:=cSl.val ((some ⟨g1,0,none⟩),32,32)) (hF.ev 1 rfl) (EvP.cons (v:=cSl.val ((some ⟨(G 3).g,0,none⟩),1,1)) (hF.ev 2 rfl) (EvP.cons (v:=cSl.val ((some ⟨g1,32,none⟩),32,32)) (hF.ev 3 rfl) (EvP.cons (v:=cSl.val ((some ⟨(G 6).g,0,none⟩),1,1)) (hF.ev 4 rfl) (EvP.cons (v:=cSl.val ((some ⟨g1,64,none⟩),40,40)) (hF.ev 5 rfl) EvP.nil)))))) rfl (ltb rfl) (leb rfl) rfl)) fun _ _ _ h=>h) <| .nil) ?_
 clear hH
 rintro G w-hH
 revert hH
 generalize (G 0).g=g2
 generalize (G 3).g=g3
 generalize (G 6).g=g4
 generalize (G 9).g=g5
 intro hH
 refine ao 10 ?_
 refine rm 10 hH (.call Tryz.func33 ((iC (some ⟨g5,0,none⟩) 6 6 [((some ⟨g2,0,none⟩),3,3),((some ⟨g1,0,none⟩),32,32),((some ⟨g3,0,none⟩),1,1),((some ⟨g1,32,none⟩),32,32),((some ⟨g4,0,none⟩),1,1),((some ⟨g1,64,none⟩),40,40)] [[6,33,6],(lst 32 s.1),[25],(lst 32 s.2.1),[40],(lst 40 s.2.2)] rfl (by decide) (by simp only[List.flatten_cons,List.flatten_nil,List.length_append,List.length_cons,List.length_nil,ap];omega)))) (⟨((Bk.lits (C:=cSl) [((some ⟨g2,0,none⟩),3,3),((some ⟨g1,0,none⟩),32,32),((some ⟨g3,0,none⟩),1,1),((some ⟨g1,32,none⟩),32,32),((some ⟨g4,0,none⟩),1,1),((some ⟨g1,64,none⟩),40,40)] (by show 6≤_;unfold maxLen;decide)).vu (n:=6) (hH.blk 4 rfl) rfl),(.cons ((Bk.lits (C:=af) [6,33,6] (by show 3≤_;unfold maxLen;decide)).vu (n:=3) (hH.blk 1 rfl) rfl) (.cons (dx (ae (hH.blk 0 rfl)).fst) (.cons ((Bk.lit1 (C:=af) 25).vu (n:=1) (hH.blk 2 rfl) rfl) (.cons (dx ((ae (hH.blk 0 rfl)).snd).fst) (.cons ((Bk.lit1 (C:=af) 40).vu (n:=1) (hH.blk 3 rfl) rfl) (.cons (dx ((ae (hH.blk 0 rfl)).snd).snd) ViewsL.nil))))))⟩) 1 (.nil _ []) ?_
 clear hH
 rintro v10 E6 w hO7 hH
 obtain ⟨A8,c9,rfl⟩:=hO7.slice
 refine ⟨an,rv 11 .mv 3 ?_⟩
 refine rn ?_
 refine ar (aW 0 rfl rfl ?_)
 exact ⟨_,_,rfl,oF _ _ _▸hO7,hH.out1 [false,false,false,false,false,true] rfl⟩
def rbV(l:List UInt8):Bt×Bt×Bt:=if isB l then (cutF l 3,cutF l 36,cutF l 69) else (fun _=>0,fun _=>0,fun _=>0)
theorem k8(A:Option Addr)(n c:Nat)(l:List UInt8):Pure Tryz.prog 28 #[(.slice A n c)] (fun w=>Vu af w A n c l) (.tuple #[cSe.val (rbV l),.bool (decide (isB l))]):=by
 refine pU Tryz.func28 Tryz.ntmps28 ?_
 intro w0 hH hR
 have hll:=hR.len
 refine zr (zA hH cSe (fun _=>0,fun _=>0,fun _=>0) 0 ?_)
 clear hH
 intro g1 w hH
 refine zv .mv 0 ?_
 refine zn (aj (zr (zv .mv 1 ?_)))
 refine zv .len 1 ?_
 refine zv (.ne (n≠109)) 1 ?_
 refine zn ?_
 refine zP (fun hc2 => ?_) (fun hc2 => ?_)
 refine zr (zv (v:=(cSe.val (fun _=>0,fun _=>0,fun _=>0))) (fun _ _ hF=>aE (cells:=cSe.enc (fun _=>0,fun _=>0,fun _=>0)) (vals:=[]) rfl EvP.nil (by kernel_rfl) _) 5 ?_)
 refine zW 0 hH rfl (fun _=>0,fun _=>0,fun _=>0) ?_
 clear hH
 intro w hH
 refine zv .mv 1 ?_
 refine zn (ar (bj ?_))
 refine aX 1 0 (hH.blk 0 rfl) rfl rfl rfl (by kernel_rfl) (Cod.size _ _) (by kernel_rfl) ?_
 have hb:¬ isB l:=fun hb=>hc2 (by rw[← hll];exact hb.1)
 have he:rbV l=(fun _=>0,fun _=>0,fun _=>0):=if_neg hb
 exact ⟨by rw[he,decide_eq_false hb];rfl,HH.toBelow hH⟩
 refine aA (ag ?_)
 obtain ⟨b3,off4,rfl,hL5,hb6,hR7⟩:=hR.blk (by decide) (Off.nil _ _) (by omega)
 have:=hR.cap
 refine zx ?_
 replace hH:=hH.drew
 refine rv 0 .mv 1 ?_
 refine rv 1 (v:=(.slice (some ⟨b3,off4+3*1,none⟩) (n-3) (c-3))) (fun _ _ hF=>eu (k:=3) (e:=5) (sz:=1) rfl (by kernel_rfl) (by kernel_rfl) (hF.ev 0 rfl) rfl rfl (by omega) (by omega)) 1 ?_
 refine rv 2 (v:=(.pointer (some ⟨b3,off4+3*1,none⟩))) (fun _ _ hF=>bS (m:=32) (e:=5) rfl (by kernel_rfl) (hF.ev 0 rfl) (by omega)) 1 ?_
 refine rld 3 (S:=fun w=>HoldsL af w b3 off4 l) (hH.holdsL hL5 hb6 hR7) (.ld (ac 32) (cutF l 3) (fun _ hS=>(hS.arr 3 32 (by first | omega | (rw[ap];omega) | (simp only[List.length_drop,List.length_take,ap];omega) | (simp only[List.length_drop,List.length_take];omega))))) 1 ?_
 refine rv 4 .mv 0 ?_
 refine rv 5 (v:=(.slice (some ⟨b3,off4+36*1,none⟩) (n-36) (c-36))) (fun _ _ hF=>eu (k:=36) (e:=5) (sz:=1) rfl (by kernel_rfl) (by kernel_rfl) (hF.ev 0 rfl) rfl rfl (by omega) (by omega)) 1 ?_
 refine rv 6 (v:=(.pointer (some ⟨b3,off4+36*1,none⟩))) (fun _ _ hF=>bS (m:=32) (e:=5) rfl (by kernel_rfl) (hF.ev 0 rfl) (by omega)) 1 ?_
 refine rld 7 (S:=fun w=>HoldsL af w b3 off4 l) (hH.holdsL hL5 hb6 hR7) (.ld (ac 32) (cutF l 36) (fun _ hS=>(hS.arr 36 32 (by first | omega | (rw[ap];omega) | (simp only[List.length_drop,List.length_take,ap];omega) | (simp only[List.length_drop,List.length_take];omega))))) 1 ?_
 refine rv 8 .mv 0 ?_
 refine rv 9 (v:=(.slice (some ⟨b3,off4+69*1,none⟩) (n-69) (c-69))) (fun _ _ hF=>eu (k:=69) (e:=5) (sz:=1) rfl (by kernel_rfl) (by kernel_rfl) (hF.ev 0 rfl) rfl rfl (by omega) (by omega)) 1 ?_
 refine rv 10 (v:=(.pointer (some ⟨b3,off4+69*1,none⟩))) (fun _ _ hF=>bS (m:=40) (e:=5) rfl (by kernel_rfl) (hF.ev 0 rfl) (by omega)) 1 ?_
 refine rld 11 (S:=fun w=>HoldsL af w b3 off4 l) (hH.holdsL hL5 hb6 hR7) (.ld (ac 40) (cutF l 69) (fun _ hS=>(hS.arr 69 40 (by first | omega | (rw[ap];omega) | (simp only[List.length_drop,List.length_take,ap];omega) | (simp only[List.length_drop,List.length_take];omega))))) 1 ?_
 refine rv 12 (v:=(cSe.val ((cutF l 3),(cutF l 36),(cutF l 69)))) (fun _ _ hF=>aE (cells:=cSe.enc ((cutF l 3),(cutF l 36),(cutF l 69))) rfl (EvP.cons (v:=((ac 32).val (cutF l 3))) (hF.ev 2 rfl) (EvP.cons (v:=((ac 32).val (cutF l 36))) (hF.ev 1 rfl) (EvP.cons (v:=((ac 40).val (cutF l 69))) (hF.ev 0 rfl) EvP.nil))) (qg (x:=((cutF l 3),(cutF l 36),(cutF l 69))) (by kernel_rfl) rfl rfl rfl) _) 7 ?_
 refine ao 13 ?_
 refine rm 13 hH (.al cSe (fun _=>0,fun _=>0,fun _=>0)) trivial 0 (.keep (.keep (.keep (.nil _ [])))) ?_
 clear hH
 rintro _ _ w ⟨g8,rfl,rfl⟩ hH
 refine ⟨am (hH.holdsL hL5 hb6 hR7) (am (hH.holdsL hL5 hb6 hR7) (am (hH.holdsL hL5 hb6 hR7) an)),?_⟩
 refine ao 14 ?_
 refine re0 14 1 hH rfl (.sw cSe (fun _=>0,fun _=>0,fun _=>0) ((cutF l 3),(cutF l 36),(cutF l 69))) trivial (pgo [] (pgo [] (pgo [] (.nil _ [])))) ?_
 clear hH
 rintro _ _ w rfl hH
 refine ⟨an,rn ?_⟩
 refine aj (zr (zv .mv 10 ?_))
 refine zs (hH.q 1 rfl) (.l0 cSe ((cutF l 3),(cutF l 36),(cutF l 69))) 0 ?_
 refine zm hH (.call Tryz.func17 ((vi ((cutF l 3),(cutF l 36),(cutF l 69))))) trivial 1 ?_
 clear hH
 rintro v13 E9 w hO10 hH
 obtain ⟨A11,c12,rfl⟩:=hO10.slice
 refine zc Tryz.func48 (td (some ⟨b3,off4,none⟩) n c l A11 ((eA (cutF l 3) (cutF l 36) (lst 40 (cutF l 69))).length) c12 (eA (cutF l 3) (cutF l 36) (lst 40 (cutF l 69)))) (⟨(hH.vu hR (by decide) (Off.nil _ _)),(hO10.vuAt (hH.has 2 rfl))⟩) hH 3 ?_
 clear hH
 intro w hH
 refine zv (v:=(.bool (decide (¬ (l=(eA (cutF l 3) (cutF l 36) (lst 40 (cutF l 69)))))))) (fun _ _ hF=>ej rfl (hF.ev 0 rfl) decide_not.symm) 1 ?_
 refine zn ?_
 refine zP (fun hc15 => ?_) (fun hc15 => ?_)
 refine zr (zv (v:=(cSe.val (fun _=>0,fun _=>0,fun _=>0))) (fun _ _ hF=>aE (cells:=cSe.enc (fun _=>0,fun _=>0,fun _=>0)) (vals:=[]) rfl EvP.nil (by kernel_rfl) _) 3 ?_)
 refine zW 0 hH rfl (fun _=>0,fun _=>0,fun _=>0) ?_
 clear hH
 intro w hH
 refine zv .mv 1 ?_
 refine zn (ar (bj ?_))
 refine aX 1 0 (hH.blk 0 rfl) rfl rfl rfl (by kernel_rfl) (Cod.size _ _) (by kernel_rfl) ?_
 have hb:¬ isB l:=fun hb=>hc15 (by have:=hb.2;rwa [← k7 (n:=40) (by omega)]at this)
 have he:rbV l=(fun _=>0,fun _=>0,fun _=>0):=if_neg hb
 exact ⟨by rw[he,decide_eq_false hb];rfl,HH.toBelow hH⟩
 refine aA (ag (zr (zs (hH.q 1 rfl) (.l0 cSe ((cutF l 3),(cutF l 36),(cutF l 69))) 3 ?_)))
 refine zW 0 hH rfl ((cutF l 3),(cutF l 36),(cutF l 69)) ?_
 clear hH
 intro w hH
 refine zv .mv 1 ?_
 refine zn (ar (aX 1 0 (hH.blk 0 rfl) rfl rfl rfl (by kernel_rfl) (Cod.size _ _) (by kernel_rfl) ?_))
 have hb:isB l:=⟨by omega,by have:=Decidable.not_not.1 hc15;rwa [k7 (by omega)]at this⟩
 have he:rbV l=(cutF l 3,cutF l 36,cutF l 69):=if_pos hb
 exact ⟨by rw[he,decide_eq_true hb];rfl,HH.toBelow hH⟩
def rI(ss:List Nat)(cs:Array Value):List (Nat×Value)→Array Value
 | []=>cs
 | p::r=>rI ss (bJ cs ((ss.take p.1).sum) p.2.cells.toList) r
def Av(ss:List Nat):List (Nat×Value)→Prop
 | []=>True
 | p::r=>(∃ s,ss[p.1]?=some s∧p.2.cells.size=s∧(ss.take p.1).sum+s≤ss.sum)∧Av ss r
theorem mq(ss:List Nat):∀ (ps:List (Nat×Value)) (cs:Array Value),Av ss ps→cs.size=ss.sum→Instr.fill ((dG 0 ss).toArray[·]?) cs ps=some (rI ss cs ps)
 | [],_,_,_=>by simp[Instr.fill,rI]
 | (i,v)::r,cs,h,hz=>by
  obtain ⟨⟨s,hs,hv,hf⟩,hr⟩:=h
  have hpl:=eG ss 0 i s hs
  rw[Nat.zero_add]at hpl
  unfold Instr.fill
  have hv':v.cells.size=s:=hv
  have hf':(ss.take i).sum+s≤ss.sum:=hf
  simp only[List.getElem?_toArray,hpl,hv']
  rw[if_neg (by simp;omega)]
  have hq:=fm v.cells.toList (ss.take i).sum cs 0
  rw[Nat.add_zero]at hq
  rw[← Array.foldl_toList,Array.toList_zipIdx,hq]
  have ih:=mq ss r (bJ cs (ss.take i).sum v.cells.toList) hr (by rw[fk];exact hz)
  simp only[List.getElem?_toArray]at ih
  rw[ih]
  rfl
theorem k9{P:Program}{ty:TypeId}{ps:List (Nat×Value)}{z:Array Value}(ss:List Nat)(h:dK P ty ss=true)(hz:((P.info? ty).bind (·.zero)).map (·.cells)=some z)(hs:Av ss ps):P.built ty ps=some (rI ss z ps):=by
 unfold dK at h
 unfold Program.built
 cases hi:P.info? ty with
 | none=>rw[hi]at h;cases h
 | some it =>
  cases hu:P.underlying ty with
  | none=>rw[hi,hu]at h;cases h
  | some d =>
   rw[hi,hu]at h
   rw[hi]at hz
   cases d<;>try (cases h;done)
   rename_i fields
   simp only at h ⊢
   cases hzz:it.zero with
   | none=>rw[hzz]at h;cases h
   | some zv =>
    cases hp:fields.toList.mapM (fun f=>(P.info? f.type).map fun i=>(f.offset,i.size)) with
    | none=>rw[hzz,hp]at h;cases h
    | some places =>
     rw[hzz,hp]at h
     simp only[Bool.and_eq_true,beq_iff_eq]at h
     obtain ⟨rfl,h2⟩:=h
     simp only[Option.bind_some,hzz,Option.map_some,Option.some.injEq]at hz
     subst hz
     have:=mq ss ps zv.cells hs (by rw[h2])
     simpa using this
theorem pR{P:Program}{ty:TypeId}{α β γ:Type}{A:Cod α}{B:Cod β}{C:Cod γ}{u v:Value}{a:α}{b:β}(a0:α)(b0:β)(c:γ)(h:dK P ty [A.sz,B.sz,C.sz]=true)(hz:((P.info? ty).bind (·.zero)).map (·.cells)=some ((bn A (bn B C)).enc (a0,b0,c)))(hu:A.val a=u)(hv:B.val b=v):P.built ty [(0,u),(1,v)]=some ((bn A (bn B C)).enc (a,b,c)):=by
 subst hu hv
 rw[k9 (ps:=[(0,A.val a),(1,B.val b)]) [A.sz,B.sz,C.sz] h hz ⟨⟨A.sz,rfl,A.len a,by simp⟩,⟨B.sz,rfl,B.len b,by simp⟩,trivial⟩]
 show some (bJ (bJ _ 0 (A.enc a).toList) (A.sz+0) (B.enc b).toList)=_
 rw[cD (cy A a0 a) (by rw[Array.length_toList,Cod.size];omega),co (cD (cy B b0 b) (by rw[Array.length_toList,Cod.size];omega)) (by omega)]
theorem hU{P:Program}{ty:TypeId}{α β γ δ:Type}{A:Cod α}{B:Cod β}{C:Cod γ}{D:Cod δ}{u v x:Value}{a:α}{b:β}{c:γ}(a0:α)(b0:β)(c0:γ)(d:δ)(h:dK P ty [A.sz,B.sz,C.sz,D.sz]=true)(hz:((P.info? ty).bind (·.zero)).map (·.cells)=some ((bn A (bn B (bn C D))).enc (a0,b0,c0,d)))(hu:A.val a=u)(hv:B.val b=v)(hx:C.val c=x):P.built ty [(0,u),(1,v),(2,x)]=some ((bn A (bn B (bn C D))).enc (a,b,c,d)):=by
 subst hu hv hx
 rw[k9 (ps:=[(0,A.val a),(1,B.val b),(2,C.val c)]) [A.sz,B.sz,C.sz,D.sz] h hz ⟨⟨A.sz,rfl,A.len a,by simp⟩,⟨B.sz,rfl,B.len b,by first | omega | (simp;done) | (simp;omega)⟩,⟨C.sz,rfl,C.len c,by first | (simp;done) | (simp;omega)⟩,trivial⟩]
 show some (bJ (bJ (bJ _ 0 (A.enc a).toList) (A.sz+0) (B.enc b).toList) (A.sz+(B.sz+0)) (C.enc c).toList)=_
 rw[cD (cy A a0 a) (by rw[Array.length_toList,Cod.size];omega),co (cD (cy B b0 b) (by rw[Array.length_toList,Cod.size];omega)) rfl,co (co (off:=0) (cD (cy C c0 c) (by rw[Array.length_toList,Cod.size];omega)) rfl) rfl]
theorem xn:((Tryz.prog.info? 49).bind (·.zero)).map (·.cells)=some ((bn (ac 32) (bn (ac 32) (ac 40))).enc (fun _=>0,fun _=>0,fun _=>0)):=by kernel_rfl
theorem Aw(S:Bt)(ct:Ct)(d:Bt):Does Tryz.prog 7 #[((ac 32).val S),(cCe.val ct),((ac 32).val d)] [] (fun w=>w.heap[3]?=some (.cells ((cWs 64).enc K32) 119 (0,0))∧w.heap[2]?=some (.cells ((cWs 8).enc H32) 118 (0,0))∧w.heap[0]?=some (.cells ((ac 256).enc ah) 103 (0,0))) (fun v E' => ∃ s,v=.tuple #[s,.int .i64 ((skE d ct:Nat):Int)]∧OwnT af 5 s (skL S ct d) E'):=by
 refine dU Tryz.func7 Tryz.ntmps7 ?_
 intro w0 hH hR
 replace hH:HH w0 [] [] w0:=hH.only [false]
 refine zr (zB hH (ac 32) S 1 ?_)
 clear hH
 intro g1 w hH
 refine zB hH cCe ct 2 ?_
 clear hH
 intro g2 w hH
 refine zB hH (ac 32) d 4 ?_
 clear hH
 intro g3 w hH
 refine zv .mv 0 ?_
 refine zv .mv 1 ?_
 refine zn (zr (zs (hH.q 2 rfl) (.l0 (ac 32) d) 1 ?_))
 refine zv (.fld 33) 0 ?_
 refine zs (hH.q 1 rfl) (.ld (ac 32) ct.2.2.1 (fun _ hS=>(((ae hS).snd).snd).fst)) 1 ?_
 refine zc Tryz.func13 (oz d ct.2.2.1) trivial hH 3 ?_
 clear hH
 intro w hH
 refine zv .mv 1 ?_
 refine zv .ext 0 ?_
 refine zv .ext 2 ?_
 refine zA hH (ac 32) (fun _=>0) 0 ?_
 clear hH
 intro g4 w hH
 refine zW 3 hH rfl (xMulB d ct.2.2.1) ?_
 clear hH
 intro w hH
 refine zv .mv 6 ?_
 refine zn (aj (zr (zv .mv 1 ?_)))
 refine zv (.ne (shE (xMulB d ct.2.2.1)≠0)) 1 ?_
 refine zn ?_
 refine zP (fun hc5 => ?_) (fun hc5 => ?_)
 refine zr (zv .mv 31 ?_)
 refine zv .mv 0 ?_
 refine zn (ar (bj ?_))
 refine eF 1 0 rfl rfl rfl ?_
 have he:=yC hc5
 have hl:skL S ct d=[]:=if_neg hc5
 exact ⟨_,_,rfl,⟨_,by rw[show skE d ct=2 from he];rfl,hl▸OwnT.nil _ _⟩,HH.out (HH.pad hH 1) [false,false,false,false,true]⟩
 refine aA (ag (zx ?_))
 replace hH:=hH.drew
 have hi6:1<2:=by omega
 refine de 0 [pv 0 20 [] [] fun G=>(.pointer (some ⟨g2,65,none⟩)),pv 1 21 [0] [] fun G=>(.pointer (some ⟨g2,65+1*32,none⟩)),ldv 2 22 [1] [] [1001] fun G=>((ac 32).val (fun q9=>ct.2.2.2 (32*1+q9))),ldv 3 23 [] [] [1002] fun G=>((ac 32).val d),pv 4 24 [3] [] fun G=>((ac 32).val (xPub d)),pv 5 25 [2,4] [] fun G=>(cSe.val ((fun q9=>ct.2.2.2 (32*1+q9)),(xPub d),fun _=>0)),alv 6 10 [] [] fun G g=>[bl g 49 (cSe.enc (fun _=>0,fun _=>0,fun _=>0))],stv 7 [5,6] [6] 6 fun G=>[bl (G 6).g 49 (cSe.enc ((fun q9=>ct.2.2.2 (32*1+q9)),(xPub d),fun _=>0))]] (fun G=>[(10,(.pointer (some ⟨(G 6).g,0,none⟩))),(8,(.pointer (some ⟨g4,0,none⟩))),(4,(.pointer (some ⟨g2,0,none⟩))),(3,(.pointer (some ⟨g1,0,none⟩)))]) (fun G=>[[bl g1 22 ((ac 32).enc S)],[bl g2 33 (cCe.enc ct)],[bl g3 22 ((ac 32).enc d)],[bl g4 22 ((ac 32).enc (xMulB d ct.2.2.1))],[bl (G 6).g 49 (cSe.enc ((fun q9=>ct.2.2.2 (32*1+q9)),(xPub d),fun _=>0))]]) hH (.c (.v fun G=>(.fld 65)) <| .c (.v fun G=>(.ia 32 2 1 (hi:=hi6))) <| .c (.ld (fun G _ _ hH=>(hH.q 0 rfl)) fun G=>(.ld (ac 32) (fun q9=>ct.2.2.2 (32*1+q9)) (fun _ hS=>(Holds.row ((((ae hS).snd).snd).snd) 1 32 (by omega))))) <| .c (.ld (fun G _ _ hH=>(hH.q 0 rfl)) fun G=>(.ld (ac 32) d (fun _=>ae))) <| .c (Sp.c Tryz.func14 (fun G=>(pG d)) fun _=>trivial) <| .c (.v fun G=>(fun _ _ hF=>aE (cells:=cSe.enc ((fun q9=>ct.2.2.2 (32*1+q9)),(xPub d),fun _=>0)) rfl (EvP.cons (v:=((ac 32).val (fun q9=>ct.2.2.2 (32*1+q9)))) (hF.ev 0 rfl) (EvP.cons (v:=((ac 32).val (xPub d))) (hF.ev 1 rfl) EvP.nil)) (pR (A:=ac 32) (B:=ac 32) (C:=ac 40) (fun _=>0) (fun _=>0) (fun _=>0) (by kernel_rfl) xn rfl rfl) _)) <| .c (.a (fun _ _ _ _=>trivial) (fun G=>(.al cSe (fun _=>0,fun _=>0,fun _=>0))) fun _ _ _ h=>h) <| .c (.tn (fun G=>(.sw cSe (fun _=>0,fun _=>0,fun _=>0) ((fun q9=>ct.2.2.2 (32*1+q9)),(xPub d),fun _=>0))) (fun _ _ _ _=>trivial) fun _ _ _ h=>h) <| .nil) ?_
 clear hH
 rintro G w-hH
 revert hH
 generalize (G 6).g=g7
 intro hH
 refine rn ?_
 refine zx ?_
 replace hH:=hH.drew
 refine rv 0 (.fld 32) 0 ?_
 refine rld 1 (hH.q 4 rfl) (.ld (ac 32) (xPub d) (fun _ hS=>((ae hS).snd).fst)) 1 ?_
 refine rv 2 (.fld 33) 8 ?_
 refine rld 3 (hH.q 1 rfl) (.ld (ac 32) ct.2.2.1 (fun _ hS=>(((ae hS).snd).snd).fst)) 1 ?_
 refine rld 4 (hH.q 3 rfl) (.l0 (ac 32) (xMulB d ct.2.2.1)) 8 ?_
 refine rld 6 (hH.q 0 rfl) (.l0 (ac 32) S) 16 ?_
 refine ao 5 (rpc 5 Tryz.func16 (mo (xPub d) ct.2.2.1 (xMulB d ct.2.2.1)) (⟨(hH.oldBlk hR.1 (by simp)),(hH.oldBlk hR.2.1 (by simp))⟩) hH 14 (.keep (pgo [] (pgo [] (pgo [] (.nil _ []))))) ?_)
 clear hH
 intro w hH
 refine ⟨am (hH.blk 0 rfl) an,?_⟩
 refine ao 7 (rpc 7 Tryz.func15 (vh (cutF (kekL (xPub d) ct.2.2.1 (xMulB d ct.2.2.1)) 0) S) (hH.oldBlk hR.2.2 (by simp)) hH 3 (pgo [] (.nil _ [])) ?_)
 clear hH
 intro w hH
 refine ⟨an,rv 8 (.fld 64) 0 ?_⟩
 refine ao 9 ?_
 refine re0 9 4 hH rfl (fun _ hF=>bV (C:=(ac 40)) (z:=(cutF (cd (lst 16 (cutF (kekL (xPub d) ct.2.2.1 (xMulB d ct.2.2.1)) 0)) (lst 32 S)) 0)) rfl (hF.ev 0 rfl) (hF.ev 1 rfl) rfl (by kernel_rfl) (by rw[Cod.size];exact leb rfl) (co (co (cy (ac 40) _ _) rfl) rfl)) trivial (.nil _ []) ?_
 clear hH
 rintro _ _ w rfl hH
 refine ⟨an,rn ?_⟩
 refine zr (zs (hH.q 4 rfl) (.l0 cSe ((fun q9=>ct.2.2.2 (32*1+q9)),(xPub d),(cutF (cd (lst 16 (cutF (kekL (xPub d) ct.2.2.1 (xMulB d ct.2.2.1)) 0)) (lst 32 S)) 0))) 7 ?_)
 refine zm hH (.call Tryz.func17 ((vi ((fun q9=>ct.2.2.2 (32*1+q9)),(xPub d),(cutF (cd (lst 16 (cutF (kekL (xPub d) ct.2.2.1 (xMulB d ct.2.2.1)) 0)) (lst 32 S)) 0))))) trivial 1 ?_
 clear hH
 rintro v12 E8 w hO9 hH
 obtain ⟨A10,c11,rfl⟩:=hO9.slice
 refine zv .mv 1 ?_
 refine zv .mv 0 ?_
 refine zn (ar (eF 1 0 rfl rfl rfl ?_))
 have he:=Decidable.not_not.1 hc5
 have hl:skL S ct d=eA (pr1 ct) (xPub d) (skW S d ct):=if_pos he
 have hw:lst 40 (cutF (cd (lst 16 (cutF (kekL (xPub d) ct.2.2.1 (xMulB d ct.2.2.1)) 0)) (lst 32 S)) 0)=skW S d ct:=by rw[j4 (eL _ _ _)];exact j4 (rH S d ct)
 exact ⟨_,_,rfl,⟨(.slice A10 ((eA (fun q9=>ct.2.2.2 (32*1+q9)) (xPub d) (lst 40 (cutF (cd (lst 16 (cutF (kekL (xPub d) ct.2.2.1 (xMulB d ct.2.2.1)) 0)) (lst 32 S)) 0))).length) c11),by rw[show skE d ct=0 from he];rfl,hl.trans (congrArg (eA _ _) hw.symm)▸hO9⟩,hH.out1 [false,false,false,false,false,true] rfl⟩
theorem Ca{K l:List UInt8}(hK:K.length=16)(h:l.length=109):(.tuple #[(ac 32).val (uwV (cutF K 0) (lst 40 (cutF l 69))),.int .i64 ((unE (lst 16 (cutF K 0)) (lst 40 (cutF l 69)):Nat):Int)]:Value)=.tuple #[(ac 32).val (uwV (cutF K 0) (l.drop 69)),.int .i64 ((unE K (l.drop 69):Nat):Int)]:=by
 rw[k7 (l:=l) (k:=69) (by omega),j4 hK]
theorem Ax{K m:List UInt8}(hK:K.length=16):(if unE K m=0 then (cutF (unL K m) 0,0) else ((fun _=>0:Bt),5))=(uwV (cutF K 0) m,unE K m):=by
 unfold uwV
 rw[j4 hK]
 by_cases h:unE K m=0
 ·rw[if_pos h,if_pos h,h]
 ·rw[if_neg h,if_neg h,yA h]
theorem pS(A:Option Addr)(n c:Nat)(l:List UInt8)(k:Bt×Bt)(ct:Ct):Pure Tryz.prog 11 #[(.slice A n c),(cKy.val k),(cCe.val ct)] (fun w=>w.heap[3]?=some (.cells ((cWs 64).enc K32) 119 (0,0))∧w.heap[2]?=some (.cells ((cWs 8).enc H32) 118 (0,0))∧w.heap[0]?=some (.cells ((ac 256).enc ah) 103 (0,0))∧Vu af w A n c l) (.tuple #[(ac 32).val (opR l k.2 ct).1,.int .i64 (((opR l k.2 ct).2:Nat):Int)]):=by
 refine pU Tryz.func11 Tryz.ntmps11 ?_
 intro w0 hH hR
 refine zr (zB hH cKy k 2 ?_)
 clear hH
 intro g1 w hH
 refine zB hH cCe ct 4 ?_
 clear hH
 intro g2 w hH
 refine zA hH (ac 32) (fun _=>0) 0 ?_
 clear hH
 intro g3 w hH
 refine zv .mv 0 ?_
 refine zn ?_
 rcases Decidable.em (isB l) with hb | hb
 refine zr (zv .mv 17 ?_)
 refine zc Tryz.func28 ((k8 A n c l).as (v:=(.tuple #[(cSe.val (cutF l 3,cutF l 36,cutF l 69)),(.bool true)])) (by rw[show rbV l=(cutF l 3,cutF l 36,cutF l 69) from if_pos hb,decide_eq_true hb])) (hH.vu hR.2.2.2 (by decide) (Off.nil _ _)) hH 1 ?_
 clear hH
 intro w hH
 refine zv .mv 1 ?_
 refine zv .ext 0 ?_
 refine zv .ext 2 ?_
 refine zA hH cSe (fun _=>0,fun _=>0,fun _=>0) 0 ?_
 clear hH
 intro g4 w hH
 refine zW 3 hH rfl (cutF l 3,cutF l 36,cutF l 69) ?_
 clear hH
 intro w hH
 refine zv .mv 6 ?_
 refine zn (aj (zr (zv .mv 1 ?_)))
 refine zv (v:=(.bool false)) (fun _ _ hF=>ej rfl (hF.ev 0 rfl) rfl) 1 ?_
 refine zn (zF ?_)
 refine aA (ag (aj (zr (zv (.fld 0) 1 ?_))))
 refine zs (hH.q 3 rfl) (.ld (ac 32) (cutF l 3) (fun _ hS=>(ae hS).fst)) 1 ?_
 refine zv (.fld 65) 8 ?_
 have hi5:1<2:=by omega
 refine zv (.ia 32 2 1 (hi:=hi5)) 1 ?_
 refine zs (hH.q 1 rfl) (.ld (ac 32) (fun q9=>ct.2.2.2 (32*1+q9)) (fun _ hS=>(Holds.row ((((ae hS).snd).snd).snd) 1 32 (by omega)))) 1 ?_
 refine zv (v:=(.bool (decide (¬ lst 32 (cutF l 3)=lst 32 (pr1 ct))))) (fun _ _ hF=>xY (n:=32) (e:=5) (f:=cutF l 3) (g:=(fun q9=>ct.2.2.2 (32*1+q9))) rfl (by kernel_rfl) (by kernel_rfl) (by kernel_rfl) (hF.ev 1 rfl) (hF.ev 0 rfl) (by kernel_rfl) Iff.rfl) 3 ?_
 refine zn ?_
 refine zP (fun hc6 => ?_) (fun hc6 => ?_)
 refine zr (zv (v:=((ac 32).val (fun _=>0))) (fun _ _ hF=>aE (cells:=(ac 32).enc (fun _=>0)) (vals:=[]) rfl EvP.nil (by kernel_rfl) _) 11 ?_)
 refine zW 2 hH rfl (fun _=>0) ?_
 clear hH
 intro w hH
 refine zv .mv 1 ?_
 refine zn (ar (bj ?_))
 refine aX 1 0 (hH.blk 2 rfl) rfl rfl rfl (by kernel_rfl) (Cod.size _ _) (by kernel_rfl) ?_
 have hv:opR l k.2 ct=(fun _=>0,3):=by unfold opR;rw[if_pos hb,if_neg hc6]
 exact ⟨by rw[hv];rfl,HH.toBelow hH⟩
 refine aA (ag (zr (zv (.fld 32) 1 ?_)))
 refine zs (hH.q 0 rfl) (.ld (ac 32) k.2 (fun _ hS=>(ae hS).snd)) 1 ?_
 refine zv (.fld 32) 0 ?_
 refine zs (hH.q 3 rfl) (.ld (ac 32) (cutF l 36) (fun _ hS=>((ae hS).snd).fst)) 1 ?_
 refine zc Tryz.func13 (oz k.2 (cutF l 36)) trivial hH 3 ?_
 clear hH
 intro w hH
 refine zv .mv 1 ?_
 refine zv .ext 0 ?_
 refine zv .ext 2 ?_
 refine zA hH (ac 32) (fun _=>0) 0 ?_
 clear hH
 intro g7 w hH
 refine zW 4 hH rfl (xMulB k.2 (cutF l 36)) ?_
 clear hH
 intro w hH
 refine zv .mv 6 ?_
 refine zn (aj (zr (zv .mv 1 ?_)))
 refine zv (.ne (shE (xMulB k.2 (cutF l 36))≠0)) 1 ?_
 refine zn ?_
 refine zP (fun hc8 => ?_) (fun hc8 => ?_)
 refine zr (zv (v:=((ac 32).val (fun _=>0))) (fun _ _ hF=>aE (cells:=(ac 32).enc (fun _=>0)) (vals:=[]) rfl EvP.nil (by kernel_rfl) _) 23 ?_)
 refine zW 2 hH rfl (fun _=>0) ?_
 clear hH
 intro w hH
 refine zv .mv 1 ?_
 refine zn (ar (bj ?_))
 refine aX 1 0 (hH.blk 2 rfl) rfl rfl rfl (by kernel_rfl) (Cod.size _ _) (by kernel_rfl) ?_
 have hv:opR l k.2 ct=(fun _=>0,2):=by unfold opR;rw[if_pos hb,if_pos (Decidable.not_not.1 hc6),if_neg hc8]
 exact ⟨by rw[hv];rfl,HH.toBelow hH⟩
 refine aA (ag (zx ?_))
 replace hH:=hH.drew
 refine rv 0 (.fld 32) 1 ?_
 refine rld 1 (hH.q 3 rfl) (.ld (ac 32) (cutF l 36) (fun _ hS=>((ae hS).snd).fst)) 1 ?_
 refine rv 2 (.fld 32) 16 ?_
 refine rld 3 (hH.q 0 rfl) (.ld (ac 32) k.2 (fun _ hS=>(ae hS).snd)) 1 ?_
 refine rld 5 (hH.q 4 rfl) (.l0 (ac 32) (xMulB k.2 (cutF l 36))) 4 ?_
 refine rv 7 (.fld 64) 8 ?_
 refine rv 8 (v:=(.slice (some ⟨g4,64,none⟩) 40 40)) (fun _ _ hF=>aV (n:=40) (e:=5) (sz:=1) rfl (by kernel_rfl) (by kernel_rfl) (hF.ev 0 rfl)) 1 ?_
 refine ao 4 (rpc 4 Tryz.func14 (pG k.2) trivial hH 4 (.keep (pgo [] (.keep (.nil _ [])))) ?_)
 clear hH
 intro w hH
 refine ⟨am (hH.blk 4 rfl) (am (hH.blk 3 rfl) an),?_⟩
 refine ao 6 (rpc 6 Tryz.func16 (mo (cutF l 36) (xPub k.2) (xMulB k.2 (cutF l 36))) (⟨(hH.oldBlk hR.1 (by simp)),(hH.oldBlk hR.2.1 (by simp))⟩) hH 13 (pgo [] (pgo [] (.nil _ []))) ?_)
 clear hH
 intro w hH
 refine ⟨an,?_⟩
 refine ao 9 (rpc 9 Tryz.func29 ((pQ (cutF (kekL (cutF l 36) (xPub k.2) (xMulB k.2 (cutF l 36))) 0) (some ⟨g4,64,none⟩) 40 40 (lst 40 (cutF l 69)) rfl).as (v:=.tuple #[(ac 32).val (uwV (cutF (kekL (cutF l 36) (xPub k.2) (xMulB k.2 (cutF l 36))) 0) (l.drop 69)),.int .i64 ((unE (kekL (cutF l 36) (xPub k.2) (xMulB k.2 (cutF l 36))) (l.drop 69):Nat):Int)]) (Ca (eL _ _ _) hb.1)) (⟨(hH.oldBlk hR.2.2.1 (by simp)),(dx ((ae (hH.blk 3 rfl)).snd).snd)⟩) hH 3 (.nil _ []) ?_)
 clear hH
 intro w hH
 refine ⟨an,rv 10 .ext 0 ?_⟩
 refine rv 11 .ext 2 ?_
 refine ao 12 ?_
 refine re0 12 2 hH rfl (.sw (ac 32) (fun _=>0) (uwV (cutF (kekL (cutF l 36) (xPub k.2) (xMulB k.2 (cutF l 36))) 0) (l.drop 69))) trivial (.nil _ []) ?_
 clear hH
 rintro _ _ w rfl hH
 refine ⟨an,rv 13 .mv 3 ?_⟩
 refine rn ?_
 refine ar (aX 1 0 (hH.blk 2 rfl) rfl rfl rfl (by kernel_rfl) (Cod.size _ _) (by kernel_rfl) ?_)
 have hv:opR l k.2 ct=(uwV (cutF (kekL (cutF l 36) (xPub k.2) (xMulB k.2 (cutF l 36))) 0) (l.drop 69),unE (kekL (cutF l 36) (xPub k.2) (xMulB k.2 (cutF l 36))) (l.drop 69)):=by unfold opR;rw[if_pos hb,if_pos (Decidable.not_not.1 hc6),if_pos (Decidable.not_not.1 hc8)];exact Ax (eL _ _ _)
 exact ⟨by rw[hv];rfl,HH.toBelow hH⟩
 refine zr (zv .mv 17 ?_)
 refine zc Tryz.func28 ((k8 A n c l).as (v:=(.tuple #[(cSe.val (fun _=>0,fun _=>0,fun _=>0)),(.bool false)])) (by rw[show rbV l=(fun _=>0,fun _=>0,fun _=>0) from if_neg hb,decide_eq_false hb])) (hH.vu hR.2.2.2 (by decide) (Off.nil _ _)) hH 1 ?_
 clear hH
 intro w hH
 refine zv .mv 1 ?_
 refine zv .ext 0 ?_
 refine zv .ext 2 ?_
 refine zA hH cSe (fun _=>0,fun _=>0,fun _=>0) 0 ?_
 clear hH
 intro g9 w hH
 refine zW 3 hH rfl (fun _=>0,fun _=>0,fun _=>0) ?_
 clear hH
 intro w hH
 refine zv .mv 6 ?_
 refine zn (aj (zr (zv .mv 1 ?_)))
 refine zv (v:=(.bool true)) (fun _ _ hF=>ej rfl (hF.ev 0 rfl) rfl) 1 ?_
 refine zn (zT ?_)
 refine zr (zv (v:=((ac 32).val (fun _=>0))) (fun _ _ hF=>aE (cells:=(ac 32).enc (fun _=>0)) (vals:=[]) rfl EvP.nil (by kernel_rfl) _) 27 ?_)
 refine zW 2 hH rfl (fun _=>0) ?_
 clear hH
 intro w hH
 refine zv .mv 1 ?_
 refine zn (ar (bj ?_))
 refine aX 1 0 (hH.blk 2 rfl) rfl rfl rfl (by kernel_rfl) (Cod.size _ _) (by kernel_rfl) ?_
 have hv:opR l k.2 ct=(fun _=>0,2):=by unfold opR;rw[if_neg hb]
 exact ⟨by rw[hv];rfl,HH.toBelow hH⟩
abbrev cCi:=bn (ac 256) (bn (ac 256) (bn (ac 240) (eX .i64)))
theorem dy{s s' b b':Nat→UInt8}{f f':Nat→UInt8}{r:Nat}(h0:∀ j,j<256→s j=s' j)(h1:∀ j,j<256→b j=b' j)(h2:∀ j,j<240→f j=f' j):cCi.enc (s,b,f,r)=cCi.enc (s',b',f',r):=by
 rw[bC,bC,bC,bC,bC,bC,aB h0,aB h1,aB h2]
theorem xo(n:Nat):cCi.enc (fun _=>0,fun _=>0,fun _=>0,n)=(row 752 fun _=>0).push (.int .i64 (n:Int)):=by
 have e:(eX .i64).enc n = #[.int .i64 (n:Int)]:=rfl
 rw[bC,bC,bC,cX,cX,e]
 apply Array.ext_getElem?
 intro j
 rw[Array.getElem?_push,bH]
 by_cases h0:j<256
 ·rw[Array.getElem?_append_left (by rw[bH];exact h0),ce _ _ _ h0,if_neg (by omega),ce _ _ _ (by omega)]
 ·rw[Array.getElem?_append_right (by rw[bH];omega),bH]
  by_cases h1:j<512
  ·rw[Array.getElem?_append_left (by rw[bH];omega),ce _ _ _ (by omega),if_neg (by omega),ce _ _ _ (by omega)]
  ·rw[Array.getElem?_append_right (by rw[bH];omega),bH]
   by_cases h2:j<752
   ·rw[Array.getElem?_append_left (by rw[bH];omega),ce _ _ _ (by omega),if_neg (by omega),ce _ _ _ (by omega)]
   ·rw[Array.getElem?_append_right (by rw[bH];omega),bH]
    by_cases h3:j=752
    ·subst h3;rfl
    ·rw[if_neg h3,Array.getElem?_eq_none (by show 1≤_;omega),Array.getElem?_eq_none (by rw[bH];omega)]
theorem xp:Tryz.prog.built 107 [(3,.int .i64 10)]=some ((row 752 fun _=>0).push (.int .i64 10)):=by kernel_rfl
theorem xv:Tryz.prog.built 107 [(3,.int .i64 14)]=some ((row 752 fun _=>0).push (.int .i64 14)):=by kernel_rfl
theorem xx(n:Nat)(h:n=10∨n=14):Tryz.prog.built 107 [(3,.int .i64 (n:Int))]=some (cCi.enc (fun _=>0,fun _=>0,fun _=>0,n)):=by
 rw[xo]
 rcases h with rfl | rfl
 ·exact xp
 ·exact xv
theorem oG(a b:UInt8)(k:Nat):tmS a b (k+1)=(if (tmS a b k).2.2&&&1=1 then (tmS a b k).1^^^(tmS a b k).2.1 else (tmS a b k).1,sl8 (tmS a b k).2.1 1^^^27*sr8 (tmS a b k).2.1 7,sr8 (tmS a b k).2.2 1):=rfl
theorem j5{x:UInt8}{n:Nat}(h:x.toNat=n):x=UInt8.ofNat n:=by rw[← h,UInt8.ofNat_toNat]
theorem xy{x:UInt8}{n:Nat}(h:¬ x.toNat=n)(hn:n<256):¬ x=UInt8.ofNat n:=fun e=>h (by rw[e,UInt8.toNat_ofNat',Nat.mod_eq_of_lt hn])
theorem eD(a b:UInt8):Pure Tryz.prog 79 #[(.int .u8 a.toNat),(.int .u8 b.toNat)] (fun _=>True) (.int .u8 ((((tmB a b).toNat):Nat):Int)):=by
 refine pU Tryz.func79 Tryz.ntmps79 ?_
 intro w0 hH hR
 refine zr (zv .mv 0 ?_)
 refine zn (zr (zv .mv 1 ?_))
 refine zn (aj (zr (zv .mv 0 ?_)))
 refine zn (ai (zL4 (fun (k:Nat) (p:UInt8) (x:UInt8) (y:UInt8)=>[(7,(.int .i64 k)),(5,(.int .u8 p.toNat)),(1,(.int .u8 y.toNat)),(0,(.int .u8 x.toNat))]) (fun k p x y w=>HH w0 [] [] w∧(k≤8)∧((p,x,y)=tmS a b k)) (fun k _ _ _=>8-k) 0 0 a b ⟨hH,(Nat.zero_le _),rfl⟩ ?_))
 clear hH
 rintro k p x y w ⟨hH,hk,hq⟩
 refine zr (zv (.lt (k<8)) 0 ?_)
 refine zn (aj ?_)
 refine zP (fun hc1 => ?_) (fun hc1 => ?_)
 refine aA (ag (aj (ai (aj (zr (zv .mv 1 ?_))))))
 refine zv (.ab (y&&&(1:UInt8)) (u:=y) (v:=(1:UInt8))) 1 ?_
 refine zv (.eq ((y&&&(1:UInt8)).toNat=1)) 1 ?_
 refine zn ?_
 refine zP (fun hc2 => ?_) (fun hc2 => ?_)
 refine aC (zv .mv 5 ?_)
 refine zv .mv 0 ?_
 refine zv (.xb (p^^^x) (u:=p) (v:=x)) 3 ?_
 refine zv .mv 1 ?_
 refine zn (zr (zv .mv 0 ?_))
 refine zv (.rb 7 (u:=x)) 1 ?_
 refine zv .mv 1 ?_
 refine zn (zr (zv .mv 16 ?_))
 refine zv (.lb 1 (u:=x)) 1 ?_
 refine zv .mv 2 ?_
 refine zv (.ub ((27:UInt8)*(sr8 x 7)) (u:=(27:UInt8)) (v:=(sr8 x 7))) 1 ?_
 refine zv (.xb ((sl8 x 1)^^^((27:UInt8)*(sr8 x 7))) (u:=(sl8 x 1)) (v:=((27:UInt8)*(sr8 x 7)))) 3 ?_
 refine zv .mv 1 ?_
 refine zn (aC (zv .mv 8 ?_))
 refine zv (.rb 1 (u:=y)) 1 ?_
 refine zv .mv 1 ?_
 refine aD (aN (ag (aC (zv (.add ((k+1:Nat):Int)) 8 ?_))))
 refine zv .mv 1 ?_
 refine aD ?_
 exact zR4 (k+1) (p^^^x) ((sl8 x 1)^^^((27:UInt8)*(sr8 x 7))) (sr8 y 1) ⟨hH,(by omega),(by rw[oG,if_pos (by rw[← hq];exact j5 hc2),← hq])⟩ (by omega)
 refine aA (ag (zr (zv .mv 1 ?_)))
 refine zv (.rb 7 (u:=x)) 1 ?_
 refine zv .mv 1 ?_
 refine zn (zr (zv .mv 16 ?_))
 refine zv (.lb 1 (u:=x)) 1 ?_
 refine zv .mv 2 ?_
 refine zv (.ub ((27:UInt8)*(sr8 x 7)) (u:=(27:UInt8)) (v:=(sr8 x 7))) 1 ?_
 refine zv (.xb ((sl8 x 1)^^^((27:UInt8)*(sr8 x 7))) (u:=(sl8 x 1)) (v:=((27:UInt8)*(sr8 x 7)))) 3 ?_
 refine zv .mv 1 ?_
 refine zn (aC (zv .mv 8 ?_))
 refine zv (.rb 1 (u:=y)) 1 ?_
 refine zv .mv 1 ?_
 refine aD (aN (ag (aC (zv (.add ((k+1:Nat):Int)) 4 ?_))))
 refine zv .mv 1 ?_
 refine aD ?_
 exact zR4 (k+1) p ((sl8 x 1)^^^((27:UInt8)*(sr8 x 7))) (sr8 y 1) ⟨hH,(by omega),(by rw[oG,if_neg (by rw[← hq];exact xy hc2 (by decide)),← hq])⟩ (by omega)
 refine aJ (ak (ak (aR (ag ?_))))
 obtain rfl:k=8:=by omega
 refine zr (zv .mv 31 ?_)
 refine zv .mv 1 ?_
 refine zn (ar (aW 0 rfl rfl ?_))
 exact ⟨by rw[show p=tmB a b from congrArg Prod.fst hq],HH.toBelow hH⟩
theorem Cb(b:UInt8):Pure Tryz.prog 78 #[(.int .u8 b.toNat)] (fun _=>True) (.int .u8 ((((sU b).toNat):Nat):Int)):=by
 refine pU Tryz.func78 Tryz.ntmps78 ?_
 intro w0 hH hR
 refine zr (zv .mv 0 ?_)
 refine zn (zr (zv .mv 1 ?_))
 refine zn (zr (zv .mv 2 ?_))
 refine zv .mv 1 ?_
 refine zn (aj (zr (zv .mv 0 ?_)))
 refine zn (ai (zL1 (fun (k:Nat)=>[(5,(.int .i64 (((k+1):Nat):Int))),(4,(.int .u8 ((((sqS b k).2.toNat):Nat):Int))),(3,(.int .u8 ((((sqS b k).1.toNat):Nat):Int)))]) (fun k w=>HH w0 [] [] w∧(k≤7)) (fun k=>7-k) 0 ⟨hH,(Nat.zero_le _)⟩ ?_))
 clear hH
 rintro k w ⟨hH,hk⟩
 refine aj (zr (zv .mv 0 ?_))
 refine zv (.lt (k+1<8)) 1 ?_
 refine zn ?_
 refine zP (fun hc1 => ?_) (fun hc1 => ?_)
 refine aA (ag (aj (ai (zr (zv .mv 1 ?_)))))
 refine zv .mv 4 ?_
 refine zc Tryz.func79 (eD (sqS b k).2 (sqS b k).2) trivial hH 3 ?_
 clear hH
 intro w hH
 refine zv .mv 1 ?_
 refine zn (aC (zv .mv 4 ?_))
 refine zv .mv 0 ?_
 refine zc Tryz.func79 (eD (sqS b k).1 (tmB (sqS b k).2 (sqS b k).2)) trivial hH 3 ?_
 clear hH
 intro w hH
 refine zv .mv 1 ?_
 refine aD (aN (ag (aC (zv .mv 4 ?_))))
 refine zv (.add (((k+1+1):Nat):Int)) 1 ?_
 refine zv .mv 1 ?_
 refine aD ?_
 exact zR1 (k+1) ⟨hH,(by omega)⟩ (by omega)
 refine aJ (ak (ak (aR (ag ?_))))
 obtain rfl:k=7:=by omega
 refine zr (zv .mv 7 ?_)
 refine zn (aj (zr (zv .mv 0 ?_)))
 refine zn (ai (zL1 (fun (i:Nat)=>[(20,(.int .i64 i)),(6,(.int .u8 ((((uV (sqS b 7).1 i).toNat):Nat):Int))),(3,(.int .u8 ((((sqS b 7).1.toNat):Nat):Int)))]) (fun i w=>HH w0 [] [] w∧(i≤8)) (fun i=>8-i) 0 ⟨hH,(Nat.zero_le _)⟩ ?_))
 clear hH
 rintro i w ⟨hH,hi⟩
 refine zr (zv (.lt (i<8)) 0 ?_)
 refine zn (aj ?_)
 refine zP (fun hc2 => ?_) (fun hc2 => ?_)
 refine aA (ag (aj (ai (zr (zv .mv 1 ?_)))))
 refine zv .mv 1 ?_
 refine zn (zr (zv .mv 0 ?_))
 refine zv .mv 0 ?_
 refine zv (.cu .u64) 1 ?_
 refine zv (.rb i (u:=(sqS b 7).1)) 3 ?_
 refine zv .mv 0 ?_
 refine zv .mv 0 ?_
 refine zv (.add ((i+4:Nat):Int)) 1 ?_
 refine zv (v:=(.int .i64 ((((i+4)%8):Nat):Int))) (fun _ _ hF=>bm (z:=(((i+4)%8:Nat):Int)) rfl (hF.ev 0 rfl) rfl (by omega) bW) 1 ?_
 refine zv (.cu .u64) 1 ?_
 refine zv (.rb ((i+4)%8) (u:=(sqS b 7).1)) 3 ?_
 refine zv (.xb ((sr8 (sqS b 7).1 i)^^^(sr8 (sqS b 7).1 ((i+4)%8))) (u:=(sr8 (sqS b 7).1 i)) (v:=(sr8 (sqS b 7).1 ((i+4)%8)))) 3 ?_
 refine zv .mv 0 ?_
 refine zv .mv 0 ?_
 refine zv (.add ((i+5:Nat):Int)) 1 ?_
 refine zv (v:=(.int .i64 ((((i+5)%8):Nat):Int))) (fun _ _ hF=>bm (z:=(((i+5)%8:Nat):Int)) rfl (hF.ev 0 rfl) rfl (by omega) bW) 1 ?_
 refine zv (.cu .u64) 1 ?_
 refine zv (.rb ((i+5)%8) (u:=(sqS b 7).1)) 3 ?_
 refine zv (.xb (((sr8 (sqS b 7).1 i)^^^(sr8 (sqS b 7).1 ((i+4)%8)))^^^(sr8 (sqS b 7).1 ((i+5)%8))) (u:=((sr8 (sqS b 7).1 i)^^^(sr8 (sqS b 7).1 ((i+4)%8)))) (v:=(sr8 (sqS b 7).1 ((i+5)%8)))) 3 ?_
 refine zv .mv 0 ?_
 refine zv .mv 0 ?_
 refine zv (.add ((i+6:Nat):Int)) 1 ?_
 refine zv (v:=(.int .i64 ((((i+6)%8):Nat):Int))) (fun _ _ hF=>bm (z:=(((i+6)%8:Nat):Int)) rfl (hF.ev 0 rfl) rfl (by omega) bW) 1 ?_
 refine zv (.cu .u64) 1 ?_
 refine zv (.rb ((i+6)%8) (u:=(sqS b 7).1)) 3 ?_
 refine zv (.xb ((((sr8 (sqS b 7).1 i)^^^(sr8 (sqS b 7).1 ((i+4)%8)))^^^(sr8 (sqS b 7).1 ((i+5)%8)))^^^(sr8 (sqS b 7).1 ((i+6)%8))) (u:=(((sr8 (sqS b 7).1 i)^^^(sr8 (sqS b 7).1 ((i+4)%8)))^^^(sr8 (sqS b 7).1 ((i+5)%8)))) (v:=(sr8 (sqS b 7).1 ((i+6)%8)))) 3 ?_
 refine zv .mv 0 ?_
 refine zv .mv 0 ?_
 refine zv (.add ((i+7:Nat):Int)) 1 ?_
 refine zv (v:=(.int .i64 ((((i+7)%8):Nat):Int))) (fun _ _ hF=>bm (z:=(((i+7)%8:Nat):Int)) rfl (hF.ev 0 rfl) rfl (by omega) bW) 1 ?_
 refine zv (.cu .u64) 1 ?_
 refine zv (.rb ((i+7)%8) (u:=(sqS b 7).1)) 3 ?_
 refine zv (.xb (((((sr8 (sqS b 7).1 i)^^^(sr8 (sqS b 7).1 ((i+4)%8)))^^^(sr8 (sqS b 7).1 ((i+5)%8)))^^^(sr8 (sqS b 7).1 ((i+6)%8)))^^^(sr8 (sqS b 7).1 ((i+7)%8))) (u:=((((sr8 (sqS b 7).1 i)^^^(sr8 (sqS b 7).1 ((i+4)%8)))^^^(sr8 (sqS b 7).1 ((i+5)%8)))^^^(sr8 (sqS b 7).1 ((i+6)%8)))) (v:=(sr8 (sqS b 7).1 ((i+7)%8)))) 3 ?_
 refine zv .mv 0 ?_
 refine zv (.cu .u64) 1 ?_
 refine zv (.rb i (u:=(99:UInt8))) 1 ?_
 refine zv (.xb ((((((sr8 (sqS b 7).1 i)^^^(sr8 (sqS b 7).1 ((i+4)%8)))^^^(sr8 (sqS b 7).1 ((i+5)%8)))^^^(sr8 (sqS b 7).1 ((i+6)%8)))^^^(sr8 (sqS b 7).1 ((i+7)%8)))^^^(sr8 (99:UInt8) i)) (u:=(((((sr8 (sqS b 7).1 i)^^^(sr8 (sqS b 7).1 ((i+4)%8)))^^^(sr8 (sqS b 7).1 ((i+5)%8)))^^^(sr8 (sqS b 7).1 ((i+6)%8)))^^^(sr8 (sqS b 7).1 ((i+7)%8)))) (v:=(sr8 (99:UInt8) i))) 3 ?_
 refine zv .mv 1 ?_
 refine zn (aC (zv .mv 8 ?_))
 refine zv .mv 2 ?_
 refine zv (.ab (((((((sr8 (sqS b 7).1 i)^^^(sr8 (sqS b 7).1 ((i+4)%8)))^^^(sr8 (sqS b 7).1 ((i+5)%8)))^^^(sr8 (sqS b 7).1 ((i+6)%8)))^^^(sr8 (sqS b 7).1 ((i+7)%8)))^^^(sr8 (99:UInt8) i))&&&(1:UInt8)) (u:=((((((sr8 (sqS b 7).1 i)^^^(sr8 (sqS b 7).1 ((i+4)%8)))^^^(sr8 (sqS b 7).1 ((i+5)%8)))^^^(sr8 (sqS b 7).1 ((i+6)%8)))^^^(sr8 (sqS b 7).1 ((i+7)%8)))^^^(sr8 (99:UInt8) i))) (v:=(1:UInt8))) 1 ?_
 refine zv .mv 4 ?_
 refine zv (.cu .u64) 1 ?_
 refine zv (.lb i (u:=(((((((sr8 (sqS b 7).1 i)^^^(sr8 (sqS b 7).1 ((i+4)%8)))^^^(sr8 (sqS b 7).1 ((i+5)%8)))^^^(sr8 (sqS b 7).1 ((i+6)%8)))^^^(sr8 (sqS b 7).1 ((i+7)%8)))^^^(sr8 (99:UInt8) i))&&&(1:UInt8)))) 3 ?_
 refine zv (.ob ((uV (sqS b 7).1 i)|||(sl8 (((((((sr8 (sqS b 7).1 i)^^^(sr8 (sqS b 7).1 ((i+4)%8)))^^^(sr8 (sqS b 7).1 ((i+5)%8)))^^^(sr8 (sqS b 7).1 ((i+6)%8)))^^^(sr8 (sqS b 7).1 ((i+7)%8)))^^^(sr8 (99:UInt8) i))&&&(1:UInt8)) i)) (u:=(uV (sqS b 7).1 i)) (v:=(sl8 (((((((sr8 (sqS b 7).1 i)^^^(sr8 (sqS b 7).1 ((i+4)%8)))^^^(sr8 (sqS b 7).1 ((i+5)%8)))^^^(sr8 (sqS b 7).1 ((i+6)%8)))^^^(sr8 (sqS b 7).1 ((i+7)%8)))^^^(sr8 (99:UInt8) i))&&&(1:UInt8)) i))) 3 ?_
 refine zv .mv 1 ?_
 refine aD (aN (ag (aC (zv (.add ((i+1:Nat):Int)) 2 ?_))))
 refine zv .mv 1 ?_
 refine aD ?_
 exact zR1 (i+1) ⟨hH,(by omega)⟩ (by omega)
 refine aJ (ak (ak (aR (ag ?_))))
 obtain rfl:i=8:=by omega
 refine zr (zv .mv 15 ?_)
 refine zv .mv 1 ?_
 refine zn (ar (aW 0 rfl rfl ?_))
 exact zE hH
theorem rJ{W:Nat→UInt8}{m j:Nat}(h:j<m):upF m W (fun _=>0) j=W j:=bz _ _ h
section
variable{l:List UInt8}{nk d k:Nat}{c:UInt8}
theorem nh(hd:0<nk){j:Nat}(hj:j<4)(w:Nat→UInt8)(hw:w=upF (4*(nk+d)) (aeW l) fun _=>0):w (4*(nk+d-1)+j)=aeW l (4*d+(4*nk-4)+j):=by
 rw[hw,rJ (by omega)]
 congr 1
 omega
theorem De(hnk:l.length=4*nk)(h4:nk=4∨nk=8)(hd:d<3*nk+28)(hA:(nk+d)%nk=0)(hc:c=rc ((d+(nk-1))/nk))(w:Nat→UInt8)(hw:w=upF (4*(nk+d)) (aeW l) fun _=>0)(k:Nat)(hk:k<4):
  aeW l (4*(nk+d)+k)=aeW l (4*d+k)^^^pk4 (ah (w (4*(nk+d-1)+1)).toNat^^^c) (ah (w (4*(nk+d-1)+2)).toNat) (ah (w (4*(nk+d-1)+3)).toNat) (ah (w (4*(nk+d-1)+0)).toNat) k:=by
 rw[Nat.add_comm nk d]at hA
 have h:=p7 (by omega) (pO hnk h4) d _ hd rfl hA k hk
 rw[show 4*d+(4*nk-4)+4+k-4*nk=4*d+k by omega,show 4*d+(4*nk-4)+4+k=4*(nk+d)+k by omega]at h
 have h0:0<nk:=by omega
 rw[nh h0 (j:=0) (by decide) w hw,nh h0 (j:=1) (by decide) w hw,nh h0 (j:=2) (by decide) w hw,nh h0 (j:=3) (by decide) w hw,hc,h]
 unfold pk4 xr
 rcases (by omega:k=0∨k=1∨k=2∨k=3) with rfl | rfl | rfl | rfl<;>simp
theorem Df(hnk:l.length=4*nk)(h4:nk=4∨nk=8)(hd:d<3*nk+28)(hA:¬ (nk+d)%nk=0)(hC:nk=8∧(nk+d)%nk=4)(w:Nat→UInt8)(hw:w=upF (4*(nk+d)) (aeW l) fun _=>0)(k:Nat)(hk:k<4):
  aeW l (4*(nk+d)+k)=aeW l (4*d+k)^^^pk4 (ah (w (4*(nk+d-1)+0)).toNat) (ah (w (4*(nk+d-1)+1)).toNat) (ah (w (4*(nk+d-1)+2)).toNat) (ah (w (4*(nk+d-1)+3)).toNat) k:=by
 rw[Nat.add_comm nk d]at hA hC
 have h:=p9 (by omega) (pO hnk h4) d _ hd rfl hA hC k hk
 rw[show 4*d+(4*nk-4)+4+k-4*nk=4*d+k by omega,show 4*d+(4*nk-4)+4+k=4*(nk+d)+k by omega]at h
 have h0:0<nk:=by omega
 rw[nh h0 (j:=0) (by decide) w hw,nh h0 (j:=1) (by decide) w hw,nh h0 (j:=2) (by decide) w hw,nh h0 (j:=3) (by decide) w hw,h]
 unfold pk4 xr
 rcases (by omega:k=0∨k=1∨k=2∨k=3) with rfl | rfl | rfl | rfl<;>simp
theorem Cc(hnk:l.length=4*nk)(h4:nk=4∨nk=8)(hd:d<3*nk+28)(hA:¬ (nk+d)%nk=0)(hC:¬ (nk=8∧(nk+d)%nk=4))(w:Nat→UInt8)(hw:w=upF (4*(nk+d)) (aeW l) fun _=>0)(k:Nat)(hk:k<4):
  aeW l (4*(nk+d)+k)=aeW l (4*d+k)^^^w (4*(nk+d-1)+k):=by
 rw[Nat.add_comm nk d]at hA hC
 have h:=p8 (by omega) (pO hnk h4) d _ hd rfl hA hC k hk
 rw[show 4*d+(4*nk-4)+4+k-4*nk=4*d+k by omega,show 4*d+(4*nk-4)+4+k=4*(nk+d)+k by omega]at h
 rw[nh (by omega) hk w hw,h]
 rfl
theorem xz{w T:Nat→UInt8}{v:UInt8}(hw:w=upF (4*(nk+d)+k) (aeW l) fun _=>0)(_:k<4)(h0:0<nk)(hT:aeW l (4*(nk+d)+k)=aeW l (4*d+k)^^^T k)(hv:v=w (4*d+k)^^^T k):stF w (4*(nk+d)+k) v=upF (4*(nk+d)+(k+1)) (aeW l) fun _=>0:=by
 rw[hw]
 exact bi _ _ _ (by rw[hv,hw,rJ (by omega),hT])
end
theorem yD(A:Option Addr)(z:Nat)(l:List UInt8)(hk:l.length=16∨l.length=32):Does Tryz.prog 40 #[(.slice A l.length z)] [] (fun w=>Vu af w A l.length z l) (fun v E' => ∃ g,v=.tuple #[.pointer (some ⟨g,0,none⟩),.bool true]∧E'=[bl g 107 (cCi.enc (ah,bk ah 256,(upF (16*(l.length/4+7)) (aeW l) fun _=>0),(l.length/4+6)))]):=by
 refine dU Tryz.func40 Tryz.ntmps40 ?_
 intro w0 hH hR
 replace hH:HH w0 [] [] w0:=hH.only [false]
 obtain ⟨nk,hnk,h4⟩:∃ nk,l.length=4*nk∧(nk=4∨nk=8):=⟨l.length/4,by omega,by omega⟩
 have hlk:=hR.len
 refine zr (zv .mv 0 ?_)
 refine zv .mv 1 ?_
 refine zn ?_
 refine gZ (σ:=Unit) (fun x=>[(0,(.slice A l.length z))]) (fun x w=>HH w0 [] [] w) ?_ ?_
 refine zr (zv .mv 1 ?_)
 refine zv .len 1 ?_
 refine zv (.ne (l.length≠16)) 1 ?_
 refine zv .mv 1 ?_
 refine eI 0 rfl (l1:=[(15,(.bool true)),(0,(.slice A l.length z))]) (l2:=[(15,(.bool false)),(0,(.slice A l.length z))]) rfl rfl (fun hg1 => ?_) (fun hg1 => ?_)
 refine pxV (v:=(.slice A l.length z)) (fun _ _ hF=>bo rfl (hF.ev 1 rfl)) rfl (gOn 0 rfl rfl rfl (by decide)) (kA rfl) (by decide) ?_
 refine pxV (v:=(.int .i64 l.length)) (fun _ _ hF=>fj (e:=5) rfl (by kernel_rfl) (hF.ev 0 rfl)) rfl (gOn 1 rfl rfl rfl (by decide)) (kM [false,true,true] rfl rfl) (by decide) ?_
 refine pxV (v:=(.bool (decide (l.length≠32)))) (fun _ _ hF=>ic rfl (hF.ev 0 rfl) rfl (dc (by omega))) rfl (gOn 1 rfl rfl rfl (by decide)) (kM [false,true,true] rfl rfl) (by decide) ?_
 refine zv (v:=(.bool (decide (l.length≠32)))) (fun _ _ hF=>cB rfl (hF.ev 1 rfl) (hF.ev 0 rfl)) 3 ?_
 refine zn ?_
 refine zP (fun hc2 => ?_) (fun hc2 => ?_)
 omega
 refine aA ?_
 exact dw () hH (bU [1] rfl)
 refine pxU rfl (cW 0 rfl rfl rfl (by decide)) (kA rfl) (by decide) ?_
 refine pxU rfl (cW 0 rfl rfl rfl (by decide)) (kA rfl) (by decide) ?_
 refine pxU rfl (cW 0 rfl rfl rfl (by decide)) (kA rfl) (by decide) ?_
 refine zv (v:=(.bool false)) (fun _ _ hF=>cv rfl (hF.ev 0 rfl) rfl) 1 ?_
 refine zn (zF ?_)
 refine aA ?_
 exact dw () hH (bU [1] rfl)
 clear hH
 rintro _u w hH
 change CX _ _ _ _ [(0,(.slice A l.length z))] _
 replace hH:HH w0 [] [] w:=hH
 refine zr (zv .mv 0 ?_)
 refine zv .len 1 ?_
 refine zv (v:=(.int .i64 (((l.length/4):Nat):Int))) (fun _ _ hF=>cM (z:=((l.length/4:Nat):Int)) rfl (hF.ev 0 rfl) rfl (by omega) (wI dO (by omega) (by omega))) 1 ?_
 refine zv (.add (((l.length/4)+6:Nat):Int)) 1 ?_
 refine zv (v:=(cCi.val (fun _=>0,fun _=>0,fun _=>0,(l.length/4+6)))) (fun _ _ hF=>aE (cells:=cCi.enc (fun _=>0,fun _=>0,fun _=>0,(l.length/4+6))) (vals:=[(3,.int .i64 (((l.length/4+6):Nat):Int))]) rfl (EvP.cons (v:=.int .i64 (((l.length/4+6):Nat):Int)) (hF.ev 0 rfl) EvP.nil) (xx _ (by omega)) _) 1 ?_
 refine zB hH cCi (fun _=>0,fun _=>0,fun _=>0,(l.length/4+6)) 1 ?_
 clear hH
 intro g3 w hH
 refine zv .mv 1 ?_
 refine zn (aj (zr (zv .mv 0 ?_)))
 refine zn (ai ?_)
 have he4:cCi.enc (upF 0 ah (fun _=>0),bk ah 0,(fun _=>0),(l.length/4+6))=cCi.enc (fun _=>0,fun _=>0,fun _=>0,(l.length/4+6)):=dy (fun j _=>by rw[bw]) (fun _ _=>rfl) (fun _ _=>rfl)
 replace hH:HH w0 [] [[bl g3 107 (cCi.enc (upF 0 ah (fun _=>0),bk ah 0,(fun _=>0),(l.length/4+6)))]] w:=by rw[he4];exact hH
 refine zL1 (fun (i:Nat)=>[(26,(.int .i64 i)),(4,(.pointer (some ⟨g3,0,none⟩))),(0,(.slice A l.length z))]) (fun i w=>HH w0 [] [[bl g3 107 (cCi.enc (upF i ah (fun _=>0),bk ah i,(fun _=>0),(l.length/4+6)))]] w∧(i≤256)) (fun i=>256-i) 0 ⟨hH,(Nat.zero_le _)⟩ ?_
 clear hH
 rintro i w ⟨hH,hi⟩
 refine zr (zv (.lt (i<256)) 0 ?_)
 refine zn (aj ?_)
 refine zP (fun hc5 => ?_) (fun hc5 => ?_)
 refine aA (ag (aj (ai (zr (zv .mv 1 ?_)))))
 refine zv .mv 1 ?_
 refine zn (zx ?_)
 replace hH:=hH.drew
 refine rv 0 .mv 0 ?_
 refine rv 1 .mv 0 ?_
 refine rv 2 .mv 0 ?_
 refine rv 3 .cb 1 ?_
 refine rv 5 .nc 4 ?_
 refine rv 6 (.fld 0) 1 ?_
 refine ao 4 (rpc 4 Tryz.func78 (Cb (UInt8.ofNat i)) trivial hH 2 (.nil _ []) ?_)
 clear hH
 intro w hH
 refine ⟨an,?_⟩
 have hi6:i<256:=by omega
 refine rv 7 (.ia 1 256 i (hi:=hi6)) 6 ?_
 refine ao 8 ?_
 refine re0 8 0 hH rfl (.st af (sU (UInt8.ofNat i)) (by rw[Cod.size];show 0+i*1+1≤753;omega) (cD (aQ (upF i ah (fun _=>0)) (sU (UInt8.ofNat i)) hi6) (by show 0+i*1+1≤256;omega))) trivial (.nil _ []) ?_
 clear hH
 rintro _ _ w rfl hH
 refine ⟨an,rn ?_⟩
 have he7:cCi.enc (upF (i+1) ah (fun _=>0),bk ah i,(fun _=>0),(l.length/4+6))=cCi.enc ((stF (upF i ah (fun _=>0)) i (sU (UInt8.ofNat i))),bk ah i,(fun _=>0),(l.length/4+6)):=dy (fun j _=>(congrFun (bi i ah (fun _=>0) (xd i (by omega))) j).symm) (fun _ _=>rfl) (fun _ _=>rfl)
 replace hH:HH w0 [] [[bl g3 107 (cCi.enc (upF (i+1) ah (fun _=>0),bk ah i,(fun _=>0),(l.length/4+6)))]] w:=by rw[he7];exact hH
 refine br mixedOrders (by kernel_rfl) ?_
 replace hH:=hH.drew
 refine rv 0 .mv 3 ?_
 refine rv 1 .mv 0 ?_
 refine rv 2 .mv 0 ?_
 refine rv 3 .nc 2 ?_
 refine rv 4 (.fld 0) 1 ?_
 have hi8:i<256:=by omega
 refine rv 5 (.ia 1 256 i (hi:=hi8)) 3 ?_
 refine rld 6 (hH.q 0 rfl) (.ld af ((upF (i+1) ah (fun _=>0)) i) (fun _ hS=>((ae hS).fst.elt hi8))) 1 ?_
 refine rv 7 .mv 4 ?_
 refine rv 8 .cb 1 ?_
 refine rv 9 .nc 4 ?_
 refine rv 10 (.fld 256) 1 ?_
 have hi9:((upF (i+1) ah (fun _=>0)) i).toNat<256:=UInt8.toNat_lt _
 refine rv 11 (.ia 1 256 (((upF (i+1) ah (fun _=>0)) i).toNat) (hi:=hi9)) 5 ?_
 refine ao 12 ?_
 refine re0 12 0 hH rfl (.st af (UInt8.ofNat i) (by rw[Cod.size];show 256+(((upF (i+1) ah (fun _=>0)) i).toNat)*1+1≤753;omega) (cE (a:=256) (o:=256+(((upF (i+1) ah (fun _=>0)) i).toNat)*1) (cD (aQ (bk ah i) (UInt8.ofNat i) hi9) (by show 0+(((upF (i+1) ah (fun _=>0)) i).toNat)*1+1≤256;omega)) (by omega))) trivial (pgo [] (.nil _ [])) ?_
 clear hH
 rintro _ _ w rfl hH
 refine ⟨an,bQ (by kernel_rfl) ?_⟩
 refine aN (ag (aC (zv (.add ((i+1:Nat):Int)) 7 ?_)))
 refine zv .mv 1 ?_
 refine aD ?_
 have he10:cCi.enc (upF (i+1) ah (fun _=>0),bk ah (i+1),(fun _=>0),(l.length/4+6))=cCi.enc (upF (i+1) ah (fun _=>0),(stF (bk ah i) (((upF (i+1) ah (fun _=>0)) i).toNat) (UInt8.ofNat i)),(fun _=>0),(l.length/4+6)):=dy (fun _ _=>rfl) (fun j _=>by rw[bz _ _ (Nat.lt_succ_self i)];rfl) (fun _ _=>rfl)
 replace hH:HH w0 [] [[bl g3 107 (cCi.enc (upF (i+1) ah (fun _=>0),bk ah (i+1),(fun _=>0),(l.length/4+6)))]] w:=by rw[he10];exact hH
 exact zR1 (i+1) ⟨hH,(by omega)⟩ (by omega)
 refine aJ (ak (ak (aR (ag ?_))))
 obtain rfl:i=256:=by omega
 have he11:cCi.enc (ah,bk ah 256,upF 0 (aeW l) (fun _=>0),(l.length/4+6))=cCi.enc (upF 256 ah (fun _=>0),bk ah 256,(fun _=>0),(l.length/4+6)):=dy (fun j hj=>(bz _ _ hj).symm) (fun _ _=>rfl) (fun j _=>by rw[bw])
 replace hH:HH w0 [] [[bl g3 107 (cCi.enc (ah,bk ah 256,upF 0 (aeW l) (fun _=>0),(l.length/4+6)))]] w:=by rw[he11];exact hH
 refine zr (zv .mv 3 ?_)
 refine zv .len 1 ?_
 refine zv (v:=(.int .i64 nk)) (fun _ _ hF=>cM rfl (hF.ev 0 rfl) rfl (by omega) (wI (dO.trans (congrArg (fun q:Nat=>(q:Int)) (show l.length/4=nk by omega))) (by omega) (by omega))) 1 ?_
 refine zv .mv 1 ?_
 refine zn (aj (zr (zv .mv 0 ?_)))
 refine zv .len 1 ?_
 refine zv .mv 0 ?_
 refine zn (ai (zL1 (fun (i:Nat)=>[(55,(.int .i64 i)),(54,(.int .i64 l.length)),(6,(.int .i64 nk)),(4,(.pointer (some ⟨g3,0,none⟩))),(0,(.slice A l.length z))]) (fun i w=>HH w0 [] [[bl g3 107 (cCi.enc (ah,bk ah 256,upF i (aeW l) (fun _=>0),(l.length/4+6)))]] w∧(i≤l.length)) (fun i=>l.length-i) 0 ⟨hH,(Nat.zero_le _)⟩ ?_))
 clear hH
 rintro i w ⟨hH,hi⟩
 refine zr (zv (.lt (i<l.length)) 0 ?_)
 refine zn (aj ?_)
 refine zP (fun hc12 => ?_) (fun hc12 => ?_)
 refine aA (ag (aj (ai (zr (zv .mv 1 ?_)))))
 refine zv .mv 1 ?_
 refine zn (br mixedOrders (by kernel_rfl) ?_)
 replace hH:=hH.drew
 refine rv 0 .mv 0 ?_
 refine rv 1 .mv 0 ?_
 refine rv 2 (v:=(.int .i64 (((i/4):Nat):Int))) (fun _ _ hF=>cM (z:=((i/4:Nat):Int)) rfl (hF.ev 0 rfl) rfl (by omega) (wI dO (by omega) (by omega))) 1 ?_
 refine rv 3 .mv 0 ?_
 refine rv 4 (v:=(.int .i64 (((i%4):Nat):Int))) (fun _ _ hF=>bm (z:=((i%4:Nat):Int)) rfl (hF.ev 0 rfl) rfl (by omega) bW) 1 ?_
 refine rv 5 .mv 0 ?_
 refine rv 6 .mv 16 ?_
 have hi13:i<l.length:=by omega
 obtain ⟨b14,off15,rfl,hL16,hb17,hR18⟩:=hR.blk (by decide) (Off.nil _ _) (by omega)
 have:=hR.cap
 have hj21:i<l.length:=by first | exact hi13 | (simp only[List.length_drop];omega) | (simp only[List.length_drop,List.length_take];omega) | omega
 obtain ⟨x19,hx20⟩:=ck l i hj21
 have hb22:=UInt8.toNat_lt x19
 refine rv 7 (.ix 1 i (hi:=hi13)) 3 ?_
 refine rld 8 (S:=fun w=>HoldsL af w b14 off15 l) (hH.holdsL hL16 hb17 hR18) (.ld af x19 (fun _ hS=>(hS i _ hx20))) 1 ?_
 refine rv 9 .nc 8 ?_
 refine rv 10 (.fld 512) 1 ?_
 have hi23:i/4<60:=by omega
 refine rv 11 (.ia 4 60 (i/4) (hi:=hi23)) 9 ?_
 have hi24:i%4<4:=by omega
 refine rv 12 (.ia 1 4 (i%4) (hi:=hi24)) 5 ?_
 have hi25:4*(i/4)+(i%4)<240:=by omega
 refine ao 13 ?_
 refine re0 13 0 hH rfl (.st af x19 (by rw[Cod.size];show 512+(i/4)*4+(i%4)*1+1≤753;omega) (cE (a:=256) (o:=512+(i/4)*4+(i%4)*1) (cE (a:=256) (o:=256+(4*(i/4)+(i%4))*1) (cD (aQ (upF i (aeW l) (fun _=>0)) x19 hi25) (by show 0+(4*(i/4)+(i%4))*1+1≤240;omega)) (by omega)) (by omega))) trivial (pgo [] (.nil _ [])) ?_
 clear hH
 rintro _ _ w rfl hH
 refine ⟨an,bQ (by kernel_rfl) ?_⟩
 refine aN (ag (aC (zv (.add ((i+1:Nat):Int)) 7 ?_)))
 refine zv .mv 1 ?_
 refine aD ?_
 have he26:cCi.enc (ah,bk ah 256,upF (i+1) (aeW l) (fun _=>0),(l.length/4+6))=cCi.enc (ah,bk ah 256,(stF (upF i (aeW l) (fun _=>0)) (4*(i/4)+(i%4)) x19),(l.length/4+6)):=dy (fun _ _=>rfl) (fun _ _=>rfl) (fun j _=>by rw[show 4*(i/4)+i%4=i by omega,bi i _ _ (by rw[u9 l hnk h4 (by omega)]at hx20;exact (Option.some.inj hx20).symm)])
 replace hH:HH w0 [] [[bl g3 107 (cCi.enc (ah,bk ah 256,upF (i+1) (aeW l) (fun _=>0),(l.length/4+6)))]] w:=by rw[he26];exact hH
 exact zR1 (i+1) ⟨hH,(by omega)⟩ (by omega)
 refine aJ (ak (ak (aR (ag ?_))))
 obtain rfl:i=l.length:=by omega
 have he27:cCi.enc (ah,bk ah 256,upF (4*(nk+0)) (aeW l) (fun _=>0),(l.length/4+6))=cCi.enc (ah,bk ah 256,upF l.length (aeW l) (fun _=>0),(l.length/4+6)):=dy (fun _ _=>rfl) (fun _ _=>rfl) (fun j _=>by rw[show 4*(nk+0)=l.length by omega])
 replace hH:HH w0 [] [[bl g3 107 (cCi.enc (ah,bk ah 256,upF (4*(nk+0)) (aeW l) (fun _=>0),(l.length/4+6)))]] w:=by rw[he27];exact hH
 refine zr (zv .mv 39 ?_)
 refine zn (aj (zr (zv .mv 0 ?_)))
 refine zv .mv 1 ?_
 refine zn (ai (zL2 (fun (d:Nat) (c:UInt8)=>[(9,(.int .i64 (((nk+d):Nat):Int))),(8,(.int .u8 c.toNat)),(6,(.int .i64 nk)),(4,(.pointer (some ⟨g3,0,none⟩)))]) (fun d c w=>HH w0 [] [[bl g3 107 (cCi.enc (ah,bk ah 256,upF (4*(nk+d)) (aeW l) (fun _=>0),(l.length/4+6)))]] w∧(d≤3*nk+28)∧(c=rc ((d+(nk-1))/nk))) (fun d _=>3*nk+28-d) 0 1 ⟨hH,(Nat.zero_le _),(by rw[Nat.zero_add,Nat.div_eq_of_lt (by omega)];rfl)⟩ ?_))
 clear hH
 rintro d c w ⟨hH,hd,hcc⟩
 refine aj (zr (zv .mv 0 ?_))
 refine zv .mv 0 ?_
 refine zv .nc 1 ?_
 refine zv (.fld 752) 1 ?_
 refine zs (hH.q 0 rfl) (.ld (eX .i64) (l.length/4+6) (fun _ hS=>(((ae hS).snd).snd).snd)) 1 ?_
 refine zv (.mul ((4*(l.length/4+6):Nat):Int)) 1 ?_
 refine zv (.add (((4*(l.length/4+6))+4:Nat):Int)) 1 ?_
 refine zv (.lt (nk+d<(4*(l.length/4+6))+4)) 3 ?_
 refine zn ?_
 refine zP (fun hc28 => ?_) (fun hc28 => ?_)
 refine aA (ag (aj (ai (zr (zv .mv 1 ?_)))))
 refine zv .mv 0 ?_
 refine zv (.sub (((nk+d-1):Nat):Int)) 1 ?_
 refine zv .nc 2 ?_
 refine zv (.fld 512) 1 ?_
 have hi29:nk+d-1<60:=by omega
 refine zv (.ia 4 60 (nk+d-1) (hi:=hi29)) 3 ?_
 refine zs (hH.q 0 rfl) (.ld (ac 4) (fun q9=>(upF (4*(nk+d)) (aeW l) (fun _=>0)) (4*(nk+d-1)+q9)) (fun _ hS=>(Holds.row ((((ae hS).snd).snd).fst) (nk+d-1) 4 (by omega)))) 1 ?_
 refine zA hH (ac 4) (fun _=>0) 0 ?_
 clear hH
 intro g30 w hH
 refine zW 1 hH rfl (fun q9=>(upF (4*(nk+d)) (aeW l) (fun _=>0)) (4*(nk+d-1)+q9)) ?_
 clear hH
 intro w hH
 refine zn ?_
 refine gZ (σ:=UInt8×(Nat→UInt8)) (fun x=>[(10,(.pointer (some ⟨g30,0,none⟩))),(9,(.int .i64 (((nk+d):Nat):Int))),(8,(.int .u8 x.1.toNat)),(6,(.int .i64 nk)),(4,(.pointer (some ⟨g3,0,none⟩)))]) (fun x w=>HH w0 [] [[bl g3 107 (cCi.enc (ah,bk ah 256,upF (4*(nk+d)) (aeW l) (fun _=>0),(l.length/4+6)))],[bl g30 104 ((ac 4).enc x.2)]] w∧(∀ k,k<4→aeW l (4*(nk+d)+k)=aeW l (4*d+k)^^^x.2 k)∧(x.1=rc ((d+1+(nk-1))/nk))) ?_ ?_
 refine zr (zv .mv 2 ?_)
 refine zv .mv 0 ?_
 refine zv (v:=(.int .i64 ((((nk+d)%nk):Nat):Int))) (fun _ _ hF=>bm (z:=(((nk+d)%nk:Nat):Int)) rfl (hF.ev 1 rfl) (hF.ev 0 rfl) (by omega) bW) 3 ?_
 refine zv (.eq ((nk+d)%nk=0)) 1 ?_
 refine zn ?_
 refine zP (fun hc31 => ?_) (fun hc31 => ?_)
 refine zx ?_
 replace hH:=hH.drew
 refine rv 0 .mv 1 ?_
 have hi32:1<4:=by omega
 refine rv 1 (.ia 1 4 1 (hi:=hi32)) 0 ?_
 refine rld 2 (hH.q 1 rfl) (.ld af ((fun q9=>(upF (4*(nk+d)) (aeW l) (fun _=>0)) (4*(nk+d-1)+q9)) 1) (fun _ hS=>((ae hS).elt hi32))) 1 ?_
 refine rv 3 .nc 2 ?_
 refine rv 4 (.fld 0) 1 ?_
 have hi33:((fun q9=>(upF (4*(nk+d)) (aeW l) (fun _=>0)) (4*(nk+d-1)+q9)) 1).toNat<256:=UInt8.toNat_lt _
 refine rv 5 (.ia 1 256 (((fun q9=>(upF (4*(nk+d)) (aeW l) (fun _=>0)) (4*(nk+d-1)+q9)) 1).toNat) (hi:=hi33)) 3 ?_
 refine rld 6 (hH.q 0 rfl) (.ld af (ah (((fun q9=>(upF (4*(nk+d)) (aeW l) (fun _=>0)) (4*(nk+d-1)+q9)) 1).toNat)) (fun _ hS=>((ae hS).fst.elt hi33))) 1 ?_
 refine rv 7 .mv 0 ?_
 refine rv 8 (.xb ((ah (((fun q9=>(upF (4*(nk+d)) (aeW l) (fun _=>0)) (4*(nk+d-1)+q9)) 1).toNat))^^^c) (u:=(ah (((fun q9=>(upF (4*(nk+d)) (aeW l) (fun _=>0)) (4*(nk+d-1)+q9)) 1).toNat))) (v:=c)) 3 ?_
 refine rv 9 .mv 0 ?_
 have hi34:2<4:=by omega
 refine rv 10 (.ia 1 4 2 (hi:=hi34)) 0 ?_
 refine rld 11 (hH.q 1 rfl) (.ld af ((fun q9=>(upF (4*(nk+d)) (aeW l) (fun _=>0)) (4*(nk+d-1)+q9)) 2) (fun _ hS=>((ae hS).elt hi34))) 1 ?_
 refine rv 12 .nc 2 ?_
 refine rv 13 (.fld 0) 1 ?_
 have hi35:((fun q9=>(upF (4*(nk+d)) (aeW l) (fun _=>0)) (4*(nk+d-1)+q9)) 2).toNat<256:=UInt8.toNat_lt _
 refine rv 14 (.ia 1 256 (((fun q9=>(upF (4*(nk+d)) (aeW l) (fun _=>0)) (4*(nk+d-1)+q9)) 2).toNat) (hi:=hi35)) 3 ?_
 refine rld 15 (hH.q 0 rfl) (.ld af (ah (((fun q9=>(upF (4*(nk+d)) (aeW l) (fun _=>0)) (4*(nk+d-1)+q9)) 2).toNat)) (fun _ hS=>((ae hS).fst.elt hi35))) 1 ?_
 refine rv 16 .mv 0 ?_
 have hi36:3<4:=by omega
 refine rv 17 (.ia 1 4 3 (hi:=hi36)) 0 ?_
 refine rld 18 (hH.q 1 rfl) (.ld af ((fun q9=>(upF (4*(nk+d)) (aeW l) (fun _=>0)) (4*(nk+d-1)+q9)) 3) (fun _ hS=>((ae hS).elt hi36))) 1 ?_
 refine rv 19 .nc 2 ?_
 refine rv 20 (.fld 0) 1 ?_
 have hi37:((fun q9=>(upF (4*(nk+d)) (aeW l) (fun _=>0)) (4*(nk+d-1)+q9)) 3).toNat<256:=UInt8.toNat_lt _
 refine rv 21 (.ia 1 256 (((fun q9=>(upF (4*(nk+d)) (aeW l) (fun _=>0)) (4*(nk+d-1)+q9)) 3).toNat) (hi:=hi37)) 3 ?_
 refine rld 22 (hH.q 0 rfl) (.ld af (ah (((fun q9=>(upF (4*(nk+d)) (aeW l) (fun _=>0)) (4*(nk+d-1)+q9)) 3).toNat)) (fun _ hS=>((ae hS).fst.elt hi37))) 1 ?_
 refine rv 23 .mv 0 ?_
 have hi38:0<4:=by omega
 refine rv 24 (.ia 1 4 0 (hi:=hi38)) 0 ?_
 refine rld 25 (hH.q 1 rfl) (.ld af ((fun q9=>(upF (4*(nk+d)) (aeW l) (fun _=>0)) (4*(nk+d-1)+q9)) 0) (fun _ hS=>((ae hS).elt hi38))) 1 ?_
 refine rv 26 .nc 2 ?_
 refine rv 27 (.fld 0) 1 ?_
 have hi39:((fun q9=>(upF (4*(nk+d)) (aeW l) (fun _=>0)) (4*(nk+d-1)+q9)) 0).toNat<256:=UInt8.toNat_lt _
 refine rv 28 (.ia 1 256 (((fun q9=>(upF (4*(nk+d)) (aeW l) (fun _=>0)) (4*(nk+d-1)+q9)) 0).toNat) (hi:=hi39)) 3 ?_
 refine rld 29 (hH.q 0 rfl) (.ld af (ah (((fun q9=>(upF (4*(nk+d)) (aeW l) (fun _=>0)) (4*(nk+d-1)+q9)) 0).toNat)) (fun _ hS=>((ae hS).fst.elt hi39))) 1 ?_
 refine rv 30 (v:=((ac 4).val (pk4 ((ah (upF (4*(nk+d)) (aeW l) (fun _=>0) (4*(nk+d-1)+1)).toNat)^^^c) (ah (upF (4*(nk+d)) (aeW l) (fun _=>0) (4*(nk+d-1)+2)).toNat) (ah (upF (4*(nk+d)) (aeW l) (fun _=>0) (4*(nk+d-1)+3)).toNat) (ah (upF (4*(nk+d)) (aeW l) (fun _=>0) (4*(nk+d-1)+0)).toNat)))) (fun _ _ hF=>aE (cells:=(ac 4).enc (pk4 ((ah (upF (4*(nk+d)) (aeW l) (fun _=>0) (4*(nk+d-1)+1)).toNat)^^^c) (ah (upF (4*(nk+d)) (aeW l) (fun _=>0) (4*(nk+d-1)+2)).toNat) (ah (upF (4*(nk+d)) (aeW l) (fun _=>0) (4*(nk+d-1)+3)).toNat) (ah (upF (4*(nk+d)) (aeW l) (fun _=>0) (4*(nk+d-1)+0)).toNat))) (vals:=[(0,(.int .u8 (((((ah (((fun q9=>(upF (4*(nk+d)) (aeW l) (fun _=>0)) (4*(nk+d-1)+q9)) 1).toNat))^^^c).toNat):Nat):Int))),(1,(.int .u8 ((((ah (((fun q9=>(upF (4*(nk+d)) (aeW l) (fun _=>0)) (4*(nk+d-1)+q9)) 2).toNat)).toNat):Nat):Int))),(2,(.int .u8 ((((ah (((fun q9=>(upF (4*(nk+d)) (aeW l) (fun _=>0)) (4*(nk+d-1)+q9)) 3).toNat)).toNat):Nat):Int))),(3,(.int .u8 ((((ah (((fun q9=>(upF (4*(nk+d)) (aeW l) (fun _=>0)) (4*(nk+d-1)+q9)) 0).toNat)).toNat):Nat):Int)))]) rfl (EvP.cons (v:=(.int .u8 (((((ah (((fun q9=>(upF (4*(nk+d)) (aeW l) (fun _=>0)) (4*(nk+d-1)+q9)) 1).toNat))^^^c).toNat):Nat):Int))) (hF.ev 3 rfl) (EvP.cons (v:=(.int .u8 ((((ah (((fun q9=>(upF (4*(nk+d)) (aeW l) (fun _=>0)) (4*(nk+d-1)+q9)) 2).toNat)).toNat):Nat):Int))) (hF.ev 2 rfl) (EvP.cons (v:=(.int .u8 ((((ah (((fun q9=>(upF (4*(nk+d)) (aeW l) (fun _=>0)) (4*(nk+d-1)+q9)) 3).toNat)).toNat):Nat):Int))) (hF.ev 1 rfl) (EvP.cons (v:=(.int .u8 ((((ah (((fun q9=>(upF (4*(nk+d)) (aeW l) (fun _=>0)) (4*(nk+d-1)+q9)) 0).toNat)).toNat):Nat):Int))) (hF.ev 0 rfl) EvP.nil)))) (by kernel_rfl) _) 15 ?_
 refine ao 31 ?_
 refine re0 31 1 hH rfl (.sw (ac 4) (fun q9=>(upF (4*(nk+d)) (aeW l) (fun _=>0)) (4*(nk+d-1)+q9)) (pk4 ((ah (upF (4*(nk+d)) (aeW l) (fun _=>0) (4*(nk+d-1)+1)).toNat)^^^c) (ah (upF (4*(nk+d)) (aeW l) (fun _=>0) (4*(nk+d-1)+2)).toNat) (ah (upF (4*(nk+d)) (aeW l) (fun _=>0) (4*(nk+d-1)+3)).toNat) (ah (upF (4*(nk+d)) (aeW l) (fun _=>0) (4*(nk+d-1)+0)).toNat))) trivial (pgo [] (pgo [] (pgo [] (pgo [] (pgo [] (pgo [] (pgo [] (pgo [] (.nil _ []))))))))) ?_
 clear hH
 rintro _ _ w rfl hH
 refine ⟨an,rn ?_⟩
 refine aC (zv .mv 9 ?_)
 refine zc Tryz.func79 (eD c 2) trivial hH 1 ?_
 clear hH
 intro w hH
 refine zv .mv 1 ?_
 refine aD ?_
 exact dw ((tmB c 2),(pk4 ((ah (upF (4*(nk+d)) (aeW l) (fun _=>0) (4*(nk+d-1)+1)).toNat)^^^c) (ah (upF (4*(nk+d)) (aeW l) (fun _=>0) (4*(nk+d-1)+2)).toNat) (ah (upF (4*(nk+d)) (aeW l) (fun _=>0) (4*(nk+d-1)+3)).toNat) (ah (upF (4*(nk+d)) (aeW l) (fun _=>0) (4*(nk+d-1)+0)).toNat))) ⟨hH,(show ∀ k,k<4→aeW l (4*(nk+d)+k)=aeW l (4*d+k)^^^(pk4 ((ah (upF (4*(nk+d)) (aeW l) (fun _=>0) (4*(nk+d-1)+1)).toNat)^^^c) (ah (upF (4*(nk+d)) (aeW l) (fun _=>0) (4*(nk+d-1)+2)).toNat) (ah (upF (4*(nk+d)) (aeW l) (fun _=>0) (4*(nk+d-1)+3)).toNat) (ah (upF (4*(nk+d)) (aeW l) (fun _=>0) (4*(nk+d-1)+0)).toNat)) k from (De hnk h4 (by omega) (by omega) hcc (upF (4*(nk+d)) (aeW l) (fun _=>0)) rfl)),(show (tmB c 2)=rc ((d+1+(nk-1))/nk) from (by rw[hcc,C9];exact rA h4 (by rw[Nat.add_comm];omega)))⟩ (bU [1,2,0,3,4] rfl)
 refine zr (zv .mv 1 ?_)
 refine zv (.eq (nk=8)) 1 ?_
 refine zv .mv 1 ?_
 refine eI 0 rfl (l1:=[(129,(.bool true)),(10,(.pointer (some ⟨g30,0,none⟩))),(9,(.int .i64 (((nk+d):Nat):Int))),(8,(.int .u8 c.toNat)),(6,(.int .i64 nk)),(4,(.pointer (some ⟨g3,0,none⟩)))]) (l2:=[(129,(.bool false)),(10,(.pointer (some ⟨g30,0,none⟩))),(9,(.int .i64 (((nk+d):Nat):Int))),(8,(.int .u8 c.toNat)),(6,(.int .i64 nk)),(4,(.pointer (some ⟨g3,0,none⟩)))]) rfl rfl (fun hg40 => ?_) (fun hg40 => ?_)
 refine pxV (v:=(.int .i64 (((nk+d):Nat):Int))) (fun _ _ hF=>bo rfl (hF.ev 2 rfl)) rfl (gOn 0 rfl rfl rfl (by decide)) (kA rfl) (by decide) ?_
 refine pxV (v:=(.int .i64 nk)) (fun _ _ hF=>bo rfl (hF.ev 5 rfl)) rfl (gOn 1 rfl rfl rfl (by decide)) (kA rfl) (by decide) ?_
 refine pxV (v:=(.int .i64 ((((nk+d)%nk):Nat):Int))) (fun _ _ hF=>bm (z:=(((nk+d)%nk:Nat):Int)) rfl (hF.ev 1 rfl) (hF.ev 0 rfl) (by omega) bW) rfl (gOn 2 rfl rfl rfl (by decide)) (kM [false,false,true,true,true,true,true,true] rfl rfl) (by decide) ?_
 refine pxV (v:=(.bool (decide ((nk+d)%nk=4)))) (fun _ _ hF=>fN rfl (hF.ev 0 rfl) rfl (dc (by omega))) rfl (gOn 1 rfl rfl rfl (by decide)) (kM [false,true,true,true,true,true,true] rfl rfl) (by decide) ?_
 refine zv (v:=(.bool (decide ((nk+d)%nk=4)))) (fun _ _ hF=>cB rfl (hF.ev 1 rfl) (hF.ev 0 rfl)) 3 ?_
 refine zn ?_
 refine zP (fun hc41 => ?_) (fun hc41 => ?_)
 refine br mixedOrders (by kernel_rfl) ?_
 replace hH:=hH.drew
 refine rv 0 .mv 1 ?_
 have hi42:0<4:=by omega
 refine rv 1 (.ia 1 4 0 (hi:=hi42)) 0 ?_
 refine rld 2 (hH.q 1 rfl) (.ld af ((fun q9=>(upF (4*(nk+d)) (aeW l) (fun _=>0)) (4*(nk+d-1)+q9)) 0) (fun _ hS=>((ae hS).elt hi42))) 1 ?_
 refine rv 3 .nc 2 ?_
 refine rv 4 (.fld 0) 1 ?_
 have hi43:((fun q9=>(upF (4*(nk+d)) (aeW l) (fun _=>0)) (4*(nk+d-1)+q9)) 0).toNat<256:=UInt8.toNat_lt _
 refine rv 5 (.ia 1 256 (((fun q9=>(upF (4*(nk+d)) (aeW l) (fun _=>0)) (4*(nk+d-1)+q9)) 0).toNat) (hi:=hi43)) 3 ?_
 refine rld 6 (hH.q 0 rfl) (.ld af (ah (((fun q9=>(upF (4*(nk+d)) (aeW l) (fun _=>0)) (4*(nk+d-1)+q9)) 0).toNat)) (fun _ hS=>((ae hS).fst.elt hi43))) 1 ?_
 refine rv 7 .mv 0 ?_
 have hi44:1<4:=by omega
 refine rv 8 (.ia 1 4 1 (hi:=hi44)) 0 ?_
 refine rld 9 (hH.q 1 rfl) (.ld af ((fun q9=>(upF (4*(nk+d)) (aeW l) (fun _=>0)) (4*(nk+d-1)+q9)) 1) (fun _ hS=>((ae hS).elt hi44))) 1 ?_
 refine rv 10 .nc 2 ?_
 refine rv 11 (.fld 0) 1 ?_
 have hi45:((fun q9=>(upF (4*(nk+d)) (aeW l) (fun _=>0)) (4*(nk+d-1)+q9)) 1).toNat<256:=UInt8.toNat_lt _
 refine rv 12 (.ia 1 256 (((fun q9=>(upF (4*(nk+d)) (aeW l) (fun _=>0)) (4*(nk+d-1)+q9)) 1).toNat) (hi:=hi45)) 3 ?_
 refine rld 13 (hH.q 0 rfl) (.ld af (ah (((fun q9=>(upF (4*(nk+d)) (aeW l) (fun _=>0)) (4*(nk+d-1)+q9)) 1).toNat)) (fun _ hS=>((ae hS).fst.elt hi45))) 1 ?_
 refine rv 14 .mv 0 ?_
 have hi46:2<4:=by omega
 refine rv 15 (.ia 1 4 2 (hi:=hi46)) 0 ?_
 refine rld 16 (hH.q 1 rfl) (.ld af ((fun q9=>(upF (4*(nk+d)) (aeW l) (fun _=>0)) (4*(nk+d-1)+q9)) 2) (fun _ hS=>((ae hS).elt hi46))) 1 ?_
 refine rv 17 .nc 2 ?_
 refine rv 18 (.fld 0) 1 ?_
 have hi47:((fun q9=>(upF (4*(nk+d)) (aeW l) (fun _=>0)) (4*(nk+d-1)+q9)) 2).toNat<256:=UInt8.toNat_lt _
 refine rv 19 (.ia 1 256 (((fun q9=>(upF (4*(nk+d)) (aeW l) (fun _=>0)) (4*(nk+d-1)+q9)) 2).toNat) (hi:=hi47)) 3 ?_
 refine rld 20 (hH.q 0 rfl) (.ld af (ah (((fun q9=>(upF (4*(nk+d)) (aeW l) (fun _=>0)) (4*(nk+d-1)+q9)) 2).toNat)) (fun _ hS=>((ae hS).fst.elt hi47))) 1 ?_
 refine rv 21 .mv 0 ?_
 have hi48:3<4:=by omega
 refine rv 22 (.ia 1 4 3 (hi:=hi48)) 0 ?_
 refine rld 23 (hH.q 1 rfl) (.ld af ((fun q9=>(upF (4*(nk+d)) (aeW l) (fun _=>0)) (4*(nk+d-1)+q9)) 3) (fun _ hS=>((ae hS).elt hi48))) 1 ?_
 refine rv 24 .nc 2 ?_
 refine rv 25 (.fld 0) 1 ?_
 have hi49:((fun q9=>(upF (4*(nk+d)) (aeW l) (fun _=>0)) (4*(nk+d-1)+q9)) 3).toNat<256:=UInt8.toNat_lt _
 refine rv 26 (.ia 1 256 (((fun q9=>(upF (4*(nk+d)) (aeW l) (fun _=>0)) (4*(nk+d-1)+q9)) 3).toNat) (hi:=hi49)) 3 ?_
 refine rld 27 (hH.q 0 rfl) (.ld af (ah (((fun q9=>(upF (4*(nk+d)) (aeW l) (fun _=>0)) (4*(nk+d-1)+q9)) 3).toNat)) (fun _ hS=>((ae hS).fst.elt hi49))) 1 ?_
 refine rv 28 (v:=((ac 4).val (pk4 (ah (upF (4*(nk+d)) (aeW l) (fun _=>0) (4*(nk+d-1)+0)).toNat) (ah (upF (4*(nk+d)) (aeW l) (fun _=>0) (4*(nk+d-1)+1)).toNat) (ah (upF (4*(nk+d)) (aeW l) (fun _=>0) (4*(nk+d-1)+2)).toNat) (ah (upF (4*(nk+d)) (aeW l) (fun _=>0) (4*(nk+d-1)+3)).toNat)))) (fun _ _ hF=>aE (cells:=(ac 4).enc (pk4 (ah (upF (4*(nk+d)) (aeW l) (fun _=>0) (4*(nk+d-1)+0)).toNat) (ah (upF (4*(nk+d)) (aeW l) (fun _=>0) (4*(nk+d-1)+1)).toNat) (ah (upF (4*(nk+d)) (aeW l) (fun _=>0) (4*(nk+d-1)+2)).toNat) (ah (upF (4*(nk+d)) (aeW l) (fun _=>0) (4*(nk+d-1)+3)).toNat))) (vals:=[(0,(.int .u8 ((((ah (((fun q9=>(upF (4*(nk+d)) (aeW l) (fun _=>0)) (4*(nk+d-1)+q9)) 0).toNat)).toNat):Nat):Int))),(1,(.int .u8 ((((ah (((fun q9=>(upF (4*(nk+d)) (aeW l) (fun _=>0)) (4*(nk+d-1)+q9)) 1).toNat)).toNat):Nat):Int))),(2,(.int .u8 ((((ah (((fun q9=>(upF (4*(nk+d)) (aeW l) (fun _=>0)) (4*(nk+d-1)+q9)) 2).toNat)).toNat):Nat):Int))),(3,(.int .u8 ((((ah (((fun q9=>(upF (4*(nk+d)) (aeW l) (fun _=>0)) (4*(nk+d-1)+q9)) 3).toNat)).toNat):Nat):Int)))]) rfl (EvP.cons (v:=(.int .u8 ((((ah (((fun q9=>(upF (4*(nk+d)) (aeW l) (fun _=>0)) (4*(nk+d-1)+q9)) 0).toNat)).toNat):Nat):Int))) (hF.ev 3 rfl) (EvP.cons (v:=(.int .u8 ((((ah (((fun q9=>(upF (4*(nk+d)) (aeW l) (fun _=>0)) (4*(nk+d-1)+q9)) 1).toNat)).toNat):Nat):Int))) (hF.ev 2 rfl) (EvP.cons (v:=(.int .u8 ((((ah (((fun q9=>(upF (4*(nk+d)) (aeW l) (fun _=>0)) (4*(nk+d-1)+q9)) 2).toNat)).toNat):Nat):Int))) (hF.ev 1 rfl) (EvP.cons (v:=(.int .u8 ((((ah (((fun q9=>(upF (4*(nk+d)) (aeW l) (fun _=>0)) (4*(nk+d-1)+q9)) 3).toNat)).toNat):Nat):Int))) (hF.ev 0 rfl) EvP.nil)))) (by kernel_rfl) _) 15 ?_
 refine ao 29 ?_
 refine re0 29 1 hH rfl (.sw (ac 4) (fun q9=>(upF (4*(nk+d)) (aeW l) (fun _=>0)) (4*(nk+d-1)+q9)) (pk4 (ah (upF (4*(nk+d)) (aeW l) (fun _=>0) (4*(nk+d-1)+0)).toNat) (ah (upF (4*(nk+d)) (aeW l) (fun _=>0) (4*(nk+d-1)+1)).toNat) (ah (upF (4*(nk+d)) (aeW l) (fun _=>0) (4*(nk+d-1)+2)).toNat) (ah (upF (4*(nk+d)) (aeW l) (fun _=>0) (4*(nk+d-1)+3)).toNat))) trivial (pgo [] (pgo [] (pgo [] (pgo [] (pgo [] (pgo [] (pgo [] (pgo [] (.nil _ []))))))))) ?_
 clear hH
 rintro _ _ w rfl hH
 refine ⟨an,bQ (by kernel_rfl) ?_⟩
 exact dw (c,(pk4 (ah (upF (4*(nk+d)) (aeW l) (fun _=>0) (4*(nk+d-1)+0)).toNat) (ah (upF (4*(nk+d)) (aeW l) (fun _=>0) (4*(nk+d-1)+1)).toNat) (ah (upF (4*(nk+d)) (aeW l) (fun _=>0) (4*(nk+d-1)+2)).toNat) (ah (upF (4*(nk+d)) (aeW l) (fun _=>0) (4*(nk+d-1)+3)).toNat))) ⟨hH,(show ∀ k,k<4→aeW l (4*(nk+d)+k)=aeW l (4*d+k)^^^(pk4 (ah (upF (4*(nk+d)) (aeW l) (fun _=>0) (4*(nk+d-1)+0)).toNat) (ah (upF (4*(nk+d)) (aeW l) (fun _=>0) (4*(nk+d-1)+1)).toNat) (ah (upF (4*(nk+d)) (aeW l) (fun _=>0) (4*(nk+d-1)+2)).toNat) (ah (upF (4*(nk+d)) (aeW l) (fun _=>0) (4*(nk+d-1)+3)).toNat)) k from (Df hnk h4 (by omega) (by omega) (by omega) (upF (4*(nk+d)) (aeW l) (fun _=>0)) rfl)),(show c=rc ((d+1+(nk-1))/nk) from (hcc.trans (iS h4 (by rw[Nat.add_comm];omega))))⟩ (bU [1,2,3,4,5] rfl)
 refine aA ?_
 exact dw (c,(fun q9=>(upF (4*(nk+d)) (aeW l) (fun _=>0)) (4*(nk+d-1)+q9))) ⟨hH,(show ∀ k,k<4→aeW l (4*(nk+d)+k)=aeW l (4*d+k)^^^(fun q9=>(upF (4*(nk+d)) (aeW l) (fun _=>0)) (4*(nk+d-1)+q9)) k from (Cc hnk h4 (by omega) (by omega) (by omega) (upF (4*(nk+d)) (aeW l) (fun _=>0)) rfl)),(show c=rc ((d+1+(nk-1))/nk) from (hcc.trans (iS h4 (by rw[Nat.add_comm];omega))))⟩ (bU [1,2,3,4,5] rfl)
 refine pxU rfl (cW 0 rfl rfl rfl (by decide)) (kA rfl) (by decide) ?_
 refine pxU rfl (cW 0 rfl rfl rfl (by decide)) (kA rfl) (by decide) ?_
 refine pxU rfl (cW 0 rfl rfl rfl (by decide)) (kA rfl) (by decide) ?_
 refine pxU rfl (cW 0 rfl rfl rfl (by decide)) (kA rfl) (by decide) ?_
 refine zv (v:=(.bool false)) (fun _ _ hF=>cv rfl (hF.ev 0 rfl) rfl) 1 ?_
 refine zn (zF ?_)
 refine aA ?_
 exact dw (c,(fun q9=>(upF (4*(nk+d)) (aeW l) (fun _=>0)) (4*(nk+d-1)+q9))) ⟨hH,(show ∀ k,k<4→aeW l (4*(nk+d)+k)=aeW l (4*d+k)^^^(fun q9=>(upF (4*(nk+d)) (aeW l) (fun _=>0)) (4*(nk+d-1)+q9)) k from (Cc hnk h4 (by omega) (by omega) (by omega) (upF (4*(nk+d)) (aeW l) (fun _=>0)) rfl)),(show c=rc ((d+1+(nk-1))/nk) from (hcc.trans (iS h4 (by rw[Nat.add_comm];omega))))⟩ (bU [1,2,3,4,5] rfl)
 clear hH
 rintro ⟨c2,T⟩ w ⟨hH,hT,hc2⟩
 change CX _ _ _ _ [(10,(.pointer (some ⟨g30,0,none⟩))),(9,(.int .i64 (((nk+d):Nat):Int))),(8,(.int .u8 c2.toNat)),(6,(.int .i64 nk)),(4,(.pointer (some ⟨g3,0,none⟩)))] _
 replace hH:HH w0 [] [[bl g3 107 (cCi.enc (ah,bk ah 256,upF (4*(nk+d)) (aeW l) (fun _=>0),(l.length/4+6)))],[bl g30 104 ((ac 4).enc T)]] w:=hH
 replace hT:∀ k,k<4→aeW l (4*(nk+d)+k)=aeW l (4*d+k)^^^T k:=hT
 replace hc2:c2=rc ((d+1+(nk-1))/nk):=hc2
 refine zr (zv .mv 0 ?_)
 refine zn (ai ?_)
 have he50:cCi.enc (ah,bk ah 256,upF (4*(nk+d)+0) (aeW l) (fun _=>0),(l.length/4+6))=cCi.enc (ah,bk ah 256,upF (4*(nk+d)) (aeW l) (fun _=>0),(l.length/4+6)):=dy (fun _ _=>rfl) (fun _ _=>rfl) (fun _ _=>rfl)
 replace hH:HH w0 [] [[bl g3 107 (cCi.enc (ah,bk ah 256,upF (4*(nk+d)+0) (aeW l) (fun _=>0),(l.length/4+6)))],[bl g30 104 ((ac 4).enc T)]] w:=by rw[he50];exact hH
 refine zL1 (fun (k:Nat)=>[(164,(.int .i64 k)),(10,(.pointer (some ⟨g30,0,none⟩))),(9,(.int .i64 (((nk+d):Nat):Int))),(8,(.int .u8 c2.toNat)),(6,(.int .i64 nk)),(4,(.pointer (some ⟨g3,0,none⟩)))]) (fun k w=>HH w0 [] [[bl g3 107 (cCi.enc (ah,bk ah 256,upF (4*(nk+d)+k) (aeW l) (fun _=>0),(l.length/4+6)))],[bl g30 104 ((ac 4).enc T)]] w∧(k≤4)) (fun k=>4-k) 0 ⟨hH,(Nat.zero_le _)⟩ ?_
 clear hH
 rintro k w ⟨hH,hk2⟩
 refine zr (zv (.lt (k<4)) 0 ?_)
 refine zn (aj ?_)
 refine zP (fun hc51 => ?_) (fun hc51 => ?_)
 refine aA (ag (aj (ai (zr (zv .mv 1 ?_)))))
 refine zv .mv 1 ?_
 refine zn (br mixedOrders (by kernel_rfl) ?_)
 replace hH:=hH.drew
 refine rv 0 .mv 0 ?_
 refine rv 1 .mv 0 ?_
 refine rv 2 .mv 0 ?_
 refine rv 3 .mv 0 ?_
 refine rv 4 .mv 0 ?_
 refine rv 5 .mv 0 ?_
 refine rv 6 (.sub ((d:Nat):Int)) 3 ?_
 refine rv 7 .mv 0 ?_
 refine rv 8 .nc 4 ?_
 refine rv 9 (.fld 512) 1 ?_
 have hi52:d<60:=by omega
 refine rv 10 (.ia 4 60 d (hi:=hi52)) 5 ?_
 have hi53:k<4:=by omega
 refine rv 11 (.ia 1 4 k (hi:=hi53)) 3 ?_
 refine rld 12 (hH.q 0 rfl) (.ld af ((upF (4*(nk+d)+k) (aeW l) (fun _=>0)) (4*d+k)) (fun _ hS=>((Holds.row ((((ae hS).snd).snd).fst) d 4 (by omega)).elt hi53))) 1 ?_
 refine rv 13 .mv 16 ?_
 have hi54:k<4:=by omega
 refine rv 14 (.ia 1 4 k (hi:=hi54)) 1 ?_
 refine rld 15 (hH.q 1 rfl) (.ld af (T k) (fun _ hS=>((ae hS).elt hi54))) 1 ?_
 refine rv 16 (.xb (((upF (4*(nk+d)+k) (aeW l) (fun _=>0)) (4*d+k))^^^(T k)) (u:=((upF (4*(nk+d)+k) (aeW l) (fun _=>0)) (4*d+k))) (v:=(T k))) 3 ?_
 refine rv 17 .nc 8 ?_
 refine rv 18 (.fld 512) 1 ?_
 have hi55:nk+d<60:=by omega
 refine rv 19 (.ia 4 60 (nk+d) (hi:=hi55)) 9 ?_
 have hi56:k<4:=by omega
 refine rv 20 (.ia 1 4 k (hi:=hi56)) 5 ?_
 have hi57:4*(nk+d)+k<240:=by omega
 refine ao 21 ?_
 refine re0 21 0 hH rfl (.st af (((upF (4*(nk+d)+k) (aeW l) (fun _=>0)) (4*d+k))^^^(T k)) (by rw[Cod.size];show 512+(nk+d)*4+k*1+1≤753;omega) (cE (a:=256) (o:=512+(nk+d)*4+k*1) (cE (a:=256) (o:=256+(4*(nk+d)+k)*1) (cD (aQ (upF (4*(nk+d)+k) (aeW l) (fun _=>0)) (((upF (4*(nk+d)+k) (aeW l) (fun _=>0)) (4*d+k))^^^(T k)) hi57) (by show 0+(4*(nk+d)+k)*1+1≤240;omega)) (by omega)) (by omega))) trivial (pgo [] (pgo [] (.nil _ []))) ?_
 clear hH
 rintro _ _ w rfl hH
 refine ⟨an,bQ (by kernel_rfl) ?_⟩
 refine aN (ag (aC (zv (.add ((k+1:Nat):Int)) 7 ?_)))
 refine zv .mv 1 ?_
 refine aD ?_
 have he58:cCi.enc (ah,bk ah 256,upF (4*(nk+d)+(k+1)) (aeW l) (fun _=>0),(l.length/4+6))=cCi.enc (ah,bk ah 256,(stF (upF (4*(nk+d)+k) (aeW l) (fun _=>0)) (4*(nk+d)+k) (((upF (4*(nk+d)+k) (aeW l) (fun _=>0)) (4*d+k))^^^(T k))),(l.length/4+6)):=dy (fun _ _=>rfl) (fun _ _=>rfl) (fun j _=>(congrFun (xz (T:=T) rfl (by omega) (by omega) (hT k (by omega)) rfl) j).symm)
 replace hH:HH w0 [] [[bl g3 107 (cCi.enc (ah,bk ah 256,upF (4*(nk+d)+(k+1)) (aeW l) (fun _=>0),(l.length/4+6)))],[bl g30 104 ((ac 4).enc T)]] w:=by rw[he58];exact hH
 exact zR1 (k+1) ⟨hH,(by omega)⟩ (by omega)
 refine aJ (ak (ak (aR (aN (ag ?_)))))
 obtain rfl:k=4:=by omega
 have he59:cCi.enc (ah,bk ah 256,upF (4*(nk+(d+1))) (aeW l) (fun _=>0),(l.length/4+6))=cCi.enc (ah,bk ah 256,upF (4*(nk+d)+4) (aeW l) (fun _=>0),(l.length/4+6)):=dy (fun _ _=>rfl) (fun _ _=>rfl) (fun j _=>by rw[show 4*(nk+d)+4=4*(nk+(d+1)) by omega])
 replace hH:HH w0 [] [[bl g3 107 (cCi.enc (ah,bk ah 256,upF (4*(nk+(d+1))) (aeW l) (fun _=>0),(l.length/4+6)))],[bl g30 104 ((ac 4).enc T)]] w:=by rw[he59];exact hH
 refine aC (zv .mv 15 ?_)
 refine zv (.add (((nk+(d+1)):Nat):Int)) 1 ?_
 refine zv .mv 1 ?_
 refine aD ?_
 replace hH:HH w0 [] [[bl g3 107 (cCi.enc (ah,bk ah 256,upF (4*(nk+(d+1))) (aeW l) (fun _=>0),(l.length/4+6)))]] w:=hH.only [true,false]
 exact zR2 (d+1) c2 ⟨hH,(by omega),hc2⟩ (by omega)
 refine aJ (ak (ak (aR (ag ?_))))
 obtain rfl:d=3*nk+28:=by omega
 have he60:cCi.enc (ah,bk ah 256,(upF (16*(l.length/4+7)) (aeW l) fun _=>0),(l.length/4+6))=cCi.enc (ah,bk ah 256,upF (4*(nk+(3*nk+28))) (aeW l) (fun _=>0),(l.length/4+6)):=dy (fun _ _=>rfl) (fun _ _=>rfl) (fun j _=>by rw[show 4*(nk+(3*nk+28))=16*(l.length/4+7) by omega])
 replace hH:HH w0 [] [[bl g3 107 (cCi.enc (ah,bk ah 256,(upF (16*(l.length/4+7)) (aeW l) fun _=>0),(l.length/4+6)))]] w:=by rw[he60];exact hH
 refine zr (zv .mv 31 ?_)
 refine zv .mv 1 ?_
 refine zv .mv 0 ?_
 refine zn (ar (eF 1 0 rfl rfl rfl ?_))
 exact ⟨_,_,rfl,⟨g3,rfl,rfl⟩,hH.out1 [true] rfl⟩
section
variable{l:List UInt8}{b u:Nat→UInt8}{j m:Nat}
def eRd(l:List UInt8)(b:Nat→UInt8)(j:Nat):Nat→UInt8:=if j<l.length/4+6 then encR ah (aeW l) b j else aeE l b
theorem pT(h:j<l.length/4+6):eRd l b j=encR ah (aeW l) b j:=if_pos h
theorem vj(h:l.length/4+6=j+1):eRd l b (j+1)=added (shifted (boxed ah (encR ah (aeW l) b j))) (rk (aeW l) (j+1)):=by
 unfold eRd
 rw[if_neg (by omega)]
 unfold aeE enc aeR
 rw[h]
 rfl
theorem xA:eRd l b (l.length/4+6)=aeE l b:=if_neg (Nat.lt_irrefl _)
def dRd(l:List UInt8)(b:Nat→UInt8):Nat→Nat→UInt8
 | 0=>b
 | q+1=>decR (bk ah 256) (aeR l) (aeW l) b q
theorem vk{q:Nat}:dRd l b (q+1+1)=boxed (bk ah 256) (unshifted (unmixed (added (dRd l b (q+1)) (rk (aeW l) (l.length/4+6-1-q))))):=rfl
theorem xB{q:Nat}(h:0<q):dRd l b (q+1)=boxed (bk ah 256) (unshifted (unmixed (added (dRd l b q) (rk (aeW l) (l.length/4+6-q))))):=by
 obtain ⟨p,rfl⟩:∃ p,q=p+1:=⟨q-1,by omega⟩
 rw[vk,show l.length/4+6-1-p=l.length/4+6-(p+1) by omega]
def prU(m:Nat)(G f:Nat→UInt8):Nat→UInt8:=fun j=>if (j+j%4*12)%16<m then G j else f j
theorem vl{G f:Nat→UInt8}{v:UInt8}(hm:m<16)(hv:v=G ((m+m%4*4)%16))(j:Nat)(hj:j<16):prU (m+1) G f j=stF (prU m G f) (4*(((m/4)+(m%4))%4)+(m%4)) v j:=by
 rw[show 4*(((m/4)+(m%4))%4)+(m%4)=(m+m%4*4)%16 by omega]
 unfold prU stF
 by_cases h:j=(m+m%4*4)%16
 ·rw[if_pos h,if_pos (by omega),hv,h]
 ·rw[if_neg h]
  show _=if (j+j%4*12)%16<m then G j else f j
  by_cases h2:(j+j%4*12)%16<m
  ·rw[if_pos h2,if_pos (by omega)]
  ·rw[if_neg h2,if_neg (by omega)]
theorem xC(G f:Nat→UInt8)(j:Nat):G j=prU 16 G f j:=(if_pos (by omega)).symm
theorem vm(s:Nat→UInt8)(hm:m<16):s (u m).toNat=boxed s (unshifted u) ((m+m%4*4)%16):=by
 show _=s (u (((m+m%4*4)%16+(m+m%4*4)%16%4*12)%16)).toNat
 rw[show ((m+m%4*4)%16+(m+m%4*4)%16%4*12)%16=m by omega]
end
theorem oH(g:Nat)(l:List UInt8)(hk:l.length=16∨l.length=32)(f:Nat→UInt8)(r:Nat)(hr:r≤l.length/4+6):Pure Tryz.prog 80 #[(.pointer (some ⟨g,0,none⟩)),((ac 16).val f),(.int .i64 r)] (fun w=>w.heap[g]?=some (.cells (cCi.enc (ah,bk ah 256,(upF (16*(l.length/4+7)) (aeW l) fun _=>0),(l.length/4+6))) 107 (0,0))) ((ac 16).val (added f (rk (aeW l) r))):=by
 refine pU Tryz.func80 Tryz.ntmps80 ?_
 intro w0 hH hR
 refine zr (zB hH (ac 16) f 2 ?_)
 clear hH
 intro g1 w hH
 refine zA hH (ac 16) (fun _=>0) 0 ?_
 clear hH
 intro g2 w hH
 refine zn (aj (zr (zv .mv 0 ?_)))
 refine zn (ai ?_)
 have he3:(ac 16).enc (upF 0 (added f (rk (aeW l) r)) f)=(ac 16).enc f:=aB (fun j _=>by rw[bw])
 replace hH:HH w0 [] [[bl g1 51 ((ac 16).enc (upF 0 (added f (rk (aeW l) r)) f))],[bl g2 51 ((ac 16).enc (fun _=>0))]] w:=by rw[he3];exact hH
 refine zL1 (fun (i:Nat)=>[(8,(.int .i64 i)),(6,(.pointer (some ⟨g2,0,none⟩))),(4,(.pointer (some ⟨g1,0,none⟩))),(2,(.int .i64 r)),(0,(.pointer (some ⟨g,0,none⟩)))]) (fun i w=>HH w0 [] [[bl g1 51 ((ac 16).enc (upF i (added f (rk (aeW l) r)) f))],[bl g2 51 ((ac 16).enc (fun _=>0))]] w∧(i≤16)) (fun i=>16-i) 0 ⟨hH,(Nat.zero_le _)⟩ ?_
 clear hH
 rintro i w ⟨hH,hi⟩
 refine zr (zv (.lt (i<16)) 0 ?_)
 refine zn (aj ?_)
 refine zP (fun hc4 => ?_) (fun hc4 => ?_)
 refine aA (ag (aj (ai (zr (zv .mv 1 ?_)))))
 refine zv .mv 1 ?_
 refine zn (br mixedOrders (by kernel_rfl) ?_)
 replace hH:=hH.drew
 refine rv 0 .mv 0 ?_
 refine rv 1 .mv 0 ?_
 have hi5:i<16:=by omega
 refine rv 2 (.ia 1 16 i (hi:=hi5)) 1 ?_
 refine rld 3 (hH.q 0 rfl) (.ld af ((upF i (added f (rk (aeW l) r)) f) i) (fun _ hS=>((ae hS).elt hi5))) 1 ?_
 refine rv 4 .mv 0 ?_
 refine rv 5 .mv 0 ?_
 refine rv 6 (.mul ((4*r:Nat):Int)) 1 ?_
 refine rv 7 .mv 0 ?_
 refine rv 8 (v:=(.int .i64 (((i/4):Nat):Int))) (fun _ _ hF=>cM (z:=((i/4:Nat):Int)) rfl (hF.ev 0 rfl) rfl (by omega) (wI dO (by omega) (by omega))) 1 ?_
 refine rv 9 (.add (((4*r)+(i/4):Nat):Int)) 3 ?_
 refine rv 10 .mv 16 ?_
 refine rv 11 (v:=(.int .i64 (((i%4):Nat):Int))) (fun _ _ hF=>bm (z:=((i%4:Nat):Int)) rfl (hF.ev 0 rfl) rfl (by omega) bW) 1 ?_
 refine rv 12 .nc 4 ?_
 refine rv 13 (.fld 512) 1 ?_
 have hi6:(4*r)+(i/4)<60:=by omega
 refine rv 14 (.ia 4 60 ((4*r)+(i/4)) (hi:=hi6)) 5 ?_
 have hi7:i%4<4:=by omega
 refine rv 15 (.ia 1 4 (i%4) (hi:=hi7)) 3 ?_
 refine rld 16 (hH.ob hR) (.ld af ((upF (16*(l.length/4+7)) (aeW l) fun _=>0) (4*((4*r)+(i/4))+(i%4))) (fun _ hS=>((Holds.row ((((ae hS).snd).snd).fst) ((4*r)+(i/4)) 4 (by omega)).elt hi7))) 1 ?_
 refine rv 17 (.xb (((upF i (added f (rk (aeW l) r)) f) i)^^^((upF (16*(l.length/4+7)) (aeW l) fun _=>0) (4*((4*r)+(i/4))+(i%4)))) (u:=((upF i (added f (rk (aeW l) r)) f) i)) (v:=((upF (16*(l.length/4+7)) (aeW l) fun _=>0) (4*((4*r)+(i/4))+(i%4))))) 3 ?_
 have hi8:i<16:=by omega
 refine rv 18 (.ia 1 16 i (hi:=hi8)) 2 ?_
 refine ao 19 ?_
 refine re0 19 0 hH rfl (.st af (((upF i (added f (rk (aeW l) r)) f) i)^^^((upF (16*(l.length/4+7)) (aeW l) fun _=>0) (4*((4*r)+(i/4))+(i%4)))) (aU (S:=sBy) (C:=(ac 16)) rfl hi8) (aQ (upF i (added f (rk (aeW l) r)) f) (((upF i (added f (rk (aeW l) r)) f) i)^^^((upF (16*(l.length/4+7)) (aeW l) fun _=>0) (4*((4*r)+(i/4))+(i%4)))) hi8)) trivial (pgo [] (pgo [] (.nil _ []))) ?_
 clear hH
 rintro _ _ w rfl hH
 refine ⟨an,bQ (by kernel_rfl) ?_⟩
 refine aN (ag (aC (zv (.add ((i+1:Nat):Int)) 7 ?_)))
 refine zv .mv 1 ?_
 refine aD ?_
 have he9:(ac 16).enc (upF (i+1) (added f (rk (aeW l) r)) f)=(ac 16).enc (stF (upF i (added f (rk (aeW l) r)) f) i (((upF i (added f (rk (aeW l) r)) f) i)^^^((upF (16*(l.length/4+7)) (aeW l) fun _=>0) (4*((4*r)+(i/4))+(i%4))))):=aB (fun j _=>(congrFun (bi i (added f (rk (aeW l) r)) f (by rw[gP,show 4*(4*r+i/4)+i%4=16*r+i by omega,bz _ _ (by omega)];rfl)) j).symm)
 replace hH:HH w0 [] [[bl g1 51 ((ac 16).enc (upF (i+1) (added f (rk (aeW l) r)) f))],[bl g2 51 ((ac 16).enc (fun _=>0))]] w:=by rw[he9];exact hH
 exact zR1 (i+1) ⟨hH,(by omega)⟩ (by omega)
 refine aJ (ak (ak (aR (ag ?_))))
 obtain rfl:i=16:=by omega
 have he10:(ac 16).enc (added f (rk (aeW l) r))=(ac 16).enc (upF 16 (added f (rk (aeW l) r)) f):=aB (fun j hj=>(bz _ _ hj).symm)
 replace hH:HH w0 [] [[bl g1 51 ((ac 16).enc (added f (rk (aeW l) r)))],[bl g2 51 ((ac 16).enc (fun _=>0))]] w:=by rw[he10];exact hH
 refine zr (zs (hH.q 0 rfl) (.l0 (ac 16) (added f (rk (aeW l) r))) 59 ?_)
 refine zW 1 hH rfl (added f (rk (aeW l) r)) ?_
 clear hH
 intro w hH
 refine zn (ar (aI 1 (hH.blk 1 rfl) rfl rfl (by kernel_rfl) (Cod.size _ _) (by kernel_rfl) ?_))
 exact zE hH
theorem Cd(g:Nat)(l:List UInt8)(hk:l.length=16∨l.length=32)(f:Nat→UInt8):Pure Tryz.prog 41 #[(.pointer (some ⟨g,0,none⟩)),((ac 16).val f)] (fun w=>w.heap[g]?=some (.cells (cCi.enc (ah,bk ah 256,(upF (16*(l.length/4+7)) (aeW l) fun _=>0),(l.length/4+6))) 107 (0,0))) ((ac 16).val (aeE l f)):=by
 refine pU Tryz.func41 Tryz.ntmps41 ?_
 intro w0 hH hR
 refine zr (zB hH (ac 16) f 2 ?_)
 clear hH
 intro g1 w hH
 refine zA hH (ac 16) (fun _=>0) 0 ?_
 clear hH
 intro g2 w hH
 refine zn (zr (zv .mv 0 ?_))
 refine zs (hH.q 0 rfl) (.l0 (ac 16) f) 0 ?_
 refine zc Tryz.func80 (oH g l hk f 0 (by omega)) (hH.oldBlk hR (by simp)) hH 3 ?_
 clear hH
 intro w hH
 refine zW 0 hH rfl (added f (rk (aeW l) 0)) ?_
 clear hH
 intro w hH
 refine zn (aj (zr (zv .mv 1 ?_)))
 refine zn (ai ?_)
 have he3:(ac 16).enc (eRd l f 0)=(ac 16).enc (added f (rk (aeW l) 0)):=aB (fun q _=>congrFun (pT (by omega)) q)
 replace hH:HH w0 [] [[bl g1 51 ((ac 16).enc (eRd l f 0))],[bl g2 51 ((ac 16).enc (fun _=>0))]] w:=by rw[he3];exact hH
 refine zL1 (fun (y:Nat)=>[(5,(.int .i64 (((y+1):Nat):Int))),(4,(.pointer (some ⟨g2,0,none⟩))),(3,(.pointer (some ⟨g1,0,none⟩))),(0,(.pointer (some ⟨g,0,none⟩)))]) (fun y w=>HH w0 [] [[bl g1 51 ((ac 16).enc (eRd l f y))],[bl g2 51 ((ac 16).enc (fun _=>0))]] w∧(y≤(l.length/4+6))) (fun y=>(l.length/4+6)-y) 0 ⟨hH,(Nat.zero_le _)⟩ ?_
 clear hH
 rintro y w ⟨hH,hj⟩
 refine aj (zr (zv .mv 0 ?_))
 refine zv .mv 0 ?_
 refine zv .nc 1 ?_
 refine zv (.fld 752) 1 ?_
 refine zs (hH.ob hR) (.ld (eX .i64) (l.length/4+6) (fun _ hS=>(((ae hS).snd).snd).snd)) 1 ?_
 refine zv (.le (y+1≤(l.length/4+6))) 3 ?_
 refine zn ?_
 refine zP (fun hc4 => ?_) (fun hc4 => ?_)
 refine aA (ag (aj (ai ?_)))
 have he5:(ac 16).enc (encR ah (aeW l) f y)=(ac 16).enc (eRd l f y):=aB (fun q _=>(congrFun (pT (by omega)) q).symm)
 replace hH:HH w0 [] [[bl g1 51 ((ac 16).enc (encR ah (aeW l) f y))],[bl g2 51 ((ac 16).enc (fun _=>0))]] w:=by rw[he5];exact hH
 refine zr (zA hH (ac 16) (fun _=>0) 1 ?_)
 clear hH
 intro g6 w hH
 refine zA hH (ac 16) (fun _=>0) 0 ?_
 clear hH
 intro g7 w hH
 refine zn (aj (zr (zv .mv 0 ?_)))
 refine zn (ai ?_)
 have he8:(ac 16).enc (upF 0 (shifted (boxed ah (encR ah (aeW l) f y))) (fun _=>0))=(ac 16).enc (fun _=>0):=aB (fun j _=>by rw[bw])
 replace hH:HH w0 [] [[bl g1 51 ((ac 16).enc (encR ah (aeW l) f y))],[bl g2 51 ((ac 16).enc (fun _=>0))],[bl g6 51 ((ac 16).enc (upF 0 (shifted (boxed ah (encR ah (aeW l) f y))) (fun _=>0)))],[bl g7 51 ((ac 16).enc (fun _=>0))]] w:=by rw[he8];exact hH
 refine zL1 (fun (i:Nat)=>[(22,(.int .i64 i)),(7,(.pointer (some ⟨g7,0,none⟩))),(6,(.pointer (some ⟨g6,0,none⟩))),(5,(.int .i64 (((y+1):Nat):Int))),(4,(.pointer (some ⟨g2,0,none⟩))),(3,(.pointer (some ⟨g1,0,none⟩))),(0,(.pointer (some ⟨g,0,none⟩)))]) (fun i w=>HH w0 [] [[bl g1 51 ((ac 16).enc (encR ah (aeW l) f y))],[bl g2 51 ((ac 16).enc (fun _=>0))],[bl g6 51 ((ac 16).enc (upF i (shifted (boxed ah (encR ah (aeW l) f y))) (fun _=>0)))],[bl g7 51 ((ac 16).enc (fun _=>0))]] w∧(i≤16)) (fun i=>16-i) 0 ⟨hH,(Nat.zero_le _)⟩ ?_
 clear hH
 rintro i w ⟨hH,hi⟩
 refine zr (zv (.lt (i<16)) 0 ?_)
 refine zn (aj ?_)
 refine zP (fun hc9 => ?_) (fun hc9 => ?_)
 refine aA (ag (aj (ai (zr (zv .mv 1 ?_)))))
 refine zv .mv 1 ?_
 refine zn (br mixedOrders (by kernel_rfl) ?_)
 replace hH:=hH.drew
 refine rv 0 .mv 0 ?_
 refine rv 1 .mv 0 ?_
 refine rv 2 .mv 0 ?_
 refine rv 3 (v:=(.int .i64 (((i/4):Nat):Int))) (fun _ _ hF=>cM (z:=((i/4:Nat):Int)) rfl (hF.ev 0 rfl) rfl (by omega) (wI dO (by omega) (by omega))) 1 ?_
 refine rv 4 .mv 0 ?_
 refine rv 5 (v:=(.int .i64 (((i%4):Nat):Int))) (fun _ _ hF=>bm (z:=((i%4:Nat):Int)) rfl (hF.ev 0 rfl) rfl (by omega) bW) 1 ?_
 refine rv 6 (.add (((i/4)+(i%4):Nat):Int)) 3 ?_
 refine rv 7 (v:=(.int .i64 (((((i/4)+(i%4))%4):Nat):Int))) (fun _ _ hF=>bm (z:=((((i/4)+(i%4))%4:Nat):Int)) rfl (hF.ev 0 rfl) rfl (by omega) bW) 1 ?_
 refine rv 8 (.mul ((4*(((i/4)+(i%4))%4):Nat):Int)) 1 ?_
 refine rv 9 .mv 8 ?_
 refine rv 10 (v:=(.int .i64 (((i%4):Nat):Int))) (fun _ _ hF=>bm (z:=((i%4:Nat):Int)) rfl (hF.ev 0 rfl) rfl (by omega) bW) 1 ?_
 refine rv 11 (.add (((4*(((i/4)+(i%4))%4))+(i%4):Nat):Int)) 3 ?_
 have hi10:(4*(((i/4)+(i%4))%4))+(i%4)<16:=by omega
 refine rv 12 (.ia 1 16 ((4*(((i/4)+(i%4))%4))+(i%4)) (hi:=hi10)) 1 ?_
 refine rld 13 (hH.q 0 rfl) (.ld af ((encR ah (aeW l) f y) ((4*(((i/4)+(i%4))%4))+(i%4))) (fun _ hS=>((ae hS).elt hi10))) 1 ?_
 refine rv 14 .nc 2 ?_
 refine rv 15 (.fld 0) 1 ?_
 have hi11:((encR ah (aeW l) f y) ((4*(((i/4)+(i%4))%4))+(i%4))).toNat<256:=UInt8.toNat_lt _
 refine rv 16 (.ia 1 256 (((encR ah (aeW l) f y) ((4*(((i/4)+(i%4))%4))+(i%4))).toNat) (hi:=hi11)) 3 ?_
 refine rld 17 (hH.ob hR) (.ld af (ah (((encR ah (aeW l) f y) ((4*(((i/4)+(i%4))%4))+(i%4))).toNat)) (fun _ hS=>((ae hS).fst.elt hi11))) 1 ?_
 have hi12:i<16:=by omega
 refine rv 18 (.ia 1 16 i (hi:=hi12)) 2 ?_
 refine ao 19 ?_
 refine re0 19 2 hH rfl (.st af (ah (((encR ah (aeW l) f y) ((4*(((i/4)+(i%4))%4))+(i%4))).toNat)) (aU (S:=sBy) (C:=(ac 16)) rfl hi12) (aQ (upF i (shifted (boxed ah (encR ah (aeW l) f y))) (fun _=>0)) (ah (((encR ah (aeW l) f y) ((4*(((i/4)+(i%4))%4))+(i%4))).toNat)) hi12)) trivial (pgo [] (pgo [] (.nil _ []))) ?_
 clear hH
 rintro _ _ w rfl hH
 refine ⟨an,bQ (by kernel_rfl) ?_⟩
 refine aN (ag (aC (zv (.add ((i+1:Nat):Int)) 7 ?_)))
 refine zv .mv 1 ?_
 refine aD ?_
 have he13:(ac 16).enc (upF (i+1) (shifted (boxed ah (encR ah (aeW l) f y))) (fun _=>0))=(ac 16).enc (stF (upF i (shifted (boxed ah (encR ah (aeW l) f y))) (fun _=>0)) i (ah (((encR ah (aeW l) f y) ((4*(((i/4)+(i%4))%4))+(i%4))).toNat))):=aB (fun j _=>(congrFun (bi i (shifted (boxed ah (encR ah (aeW l) f y))) (fun _=>0) (by rw[show 4*(((i/4)+(i%4))%4)+(i%4)=(i+i%4*4)%16 by omega];rfl)) j).symm)
 replace hH:HH w0 [] [[bl g1 51 ((ac 16).enc (encR ah (aeW l) f y))],[bl g2 51 ((ac 16).enc (fun _=>0))],[bl g6 51 ((ac 16).enc (upF (i+1) (shifted (boxed ah (encR ah (aeW l) f y))) (fun _=>0)))],[bl g7 51 ((ac 16).enc (fun _=>0))]] w:=by rw[he13];exact hH
 exact zR1 (i+1) ⟨hH,(by omega)⟩ (by omega)
 refine aJ (ak (ak (aR (ag ?_))))
 obtain rfl:i=16:=by omega
 have he14:(ac 16).enc (shifted (boxed ah (encR ah (aeW l) f y)))=(ac 16).enc (upF 16 (shifted (boxed ah (encR ah (aeW l) f y))) (fun _=>0)):=aB (fun j hj=>(bz _ _ hj).symm)
 replace hH:HH w0 [] [[bl g1 51 ((ac 16).enc (encR ah (aeW l) f y))],[bl g2 51 ((ac 16).enc (fun _=>0))],[bl g6 51 ((ac 16).enc (shifted (boxed ah (encR ah (aeW l) f y))))],[bl g7 51 ((ac 16).enc (fun _=>0))]] w:=by rw[he14];exact hH
 refine zr (zs (hH.q 2 rfl) (.l0 (ac 16) (shifted (boxed ah (encR ah (aeW l) f y)))) 3 ?_)
 refine zW 3 hH rfl (shifted (boxed ah (encR ah (aeW l) f y))) ?_
 clear hH
 intro w hH
 refine zn (aj (zr (zv .mv 1 ?_)))
 refine zv .mv 0 ?_
 refine zv .nc 1 ?_
 refine zv (.fld 752) 1 ?_
 refine zs (hH.ob hR) (.ld (eX .i64) (l.length/4+6) (fun _ hS=>(((ae hS).snd).snd).snd)) 1 ?_
 refine zv (.lt (y+1<(l.length/4+6))) 3 ?_
 refine zn ?_
 refine zP (fun hc15 => ?_) (fun hc15 => ?_)
 refine zr (zv .mv 1 ?_)
 refine zn (ai ?_)
 have he16:(ac 16).enc (upF 0 (mixed (shifted (boxed ah (encR ah (aeW l) f y)))) (shifted (boxed ah (encR ah (aeW l) f y))))=(ac 16).enc (shifted (boxed ah (encR ah (aeW l) f y))):=aB (fun j _=>by rw[bw])
 replace hH:HH w0 [] [[bl g1 51 ((ac 16).enc (encR ah (aeW l) f y))],[bl g2 51 ((ac 16).enc (fun _=>0))],[bl g6 51 ((ac 16).enc (shifted (boxed ah (encR ah (aeW l) f y))))],[bl g7 51 ((ac 16).enc (upF 0 (mixed (shifted (boxed ah (encR ah (aeW l) f y)))) (shifted (boxed ah (encR ah (aeW l) f y)))))]] w:=by rw[he16];exact hH
 refine zL1 (fun (i:Nat)=>[(52,(.int .i64 i)),(7,(.pointer (some ⟨g7,0,none⟩))),(6,(.pointer (some ⟨g6,0,none⟩))),(5,(.int .i64 (((y+1):Nat):Int))),(4,(.pointer (some ⟨g2,0,none⟩))),(3,(.pointer (some ⟨g1,0,none⟩))),(0,(.pointer (some ⟨g,0,none⟩)))]) (fun i w=>HH w0 [] [[bl g1 51 ((ac 16).enc (encR ah (aeW l) f y))],[bl g2 51 ((ac 16).enc (fun _=>0))],[bl g6 51 ((ac 16).enc (shifted (boxed ah (encR ah (aeW l) f y))))],[bl g7 51 ((ac 16).enc (upF i (mixed (shifted (boxed ah (encR ah (aeW l) f y)))) (shifted (boxed ah (encR ah (aeW l) f y)))))]] w∧(i≤16)) (fun i=>16-i) 0 ⟨hH,(Nat.zero_le _)⟩ ?_
 clear hH
 rintro i w ⟨hH,hi⟩
 refine zr (zv (.lt (i<16)) 0 ?_)
 refine zn (aj ?_)
 refine zP (fun hc17 => ?_) (fun hc17 => ?_)
 refine aA (ag (aj (ai (zr (zv .mv 1 ?_)))))
 refine zv .mv 1 ?_
 refine zn (zr (zv .mv 0 ?_))
 refine zv (v:=(.int .i64 (((i/4):Nat):Int))) (fun _ _ hF=>cM (z:=((i/4:Nat):Int)) rfl (hF.ev 0 rfl) rfl (by omega) (wI dO (by omega) (by omega))) 1 ?_
 refine zv (.mul ((4*(i/4):Nat):Int)) 1 ?_
 refine zv .mv 1 ?_
 refine zn (br mixedOrders (by kernel_rfl) ?_)
 replace hH:=hH.drew
 refine rv 0 .mv 0 ?_
 refine rv 1 .mv 0 ?_
 have hi18:i<16:=by omega
 refine rv 2 (.ia 1 16 i (hi:=hi18)) 1 ?_
 refine rld 3 (hH.q 2 rfl) (.ld af ((shifted (boxed ah (encR ah (aeW l) f y))) i) (fun _ hS=>((ae hS).elt hi18))) 1 ?_
 refine rv 5 .mv 0 ?_
 refine rv 6 .mv 0 ?_
 refine rv 7 (.add ((i+1:Nat):Int)) 1 ?_
 refine rv 8 (v:=(.int .i64 ((((i+1)%4):Nat):Int))) (fun _ _ hF=>bm (z:=(((i+1)%4:Nat):Int)) rfl (hF.ev 0 rfl) rfl (by omega) bW) 1 ?_
 refine rv 9 (.add (((4*(i/4))+((i+1)%4):Nat):Int)) 3 ?_
 have hi19:(4*(i/4))+((i+1)%4)<16:=by omega
 refine rv 10 (.ia 1 16 ((4*(i/4))+((i+1)%4)) (hi:=hi19)) 1 ?_
 refine rld 11 (hH.q 2 rfl) (.ld af ((shifted (boxed ah (encR ah (aeW l) f y))) ((4*(i/4))+((i+1)%4))) (fun _ hS=>((ae hS).elt hi19))) 1 ?_
 refine rv 14 .mv 0 ?_
 refine rv 15 .mv 0 ?_
 refine rv 16 (.add ((i+2:Nat):Int)) 1 ?_
 refine rv 17 (v:=(.int .i64 ((((i+2)%4):Nat):Int))) (fun _ _ hF=>bm (z:=(((i+2)%4:Nat):Int)) rfl (hF.ev 0 rfl) rfl (by omega) bW) 1 ?_
 refine rv 18 (.add (((4*(i/4))+((i+2)%4):Nat):Int)) 3 ?_
 have hi20:(4*(i/4))+((i+2)%4)<16:=by omega
 refine rv 19 (.ia 1 16 ((4*(i/4))+((i+2)%4)) (hi:=hi20)) 1 ?_
 refine rld 20 (hH.q 2 rfl) (.ld af ((shifted (boxed ah (encR ah (aeW l) f y))) ((4*(i/4))+((i+2)%4))) (fun _ hS=>((ae hS).elt hi20))) 1 ?_
 refine rv 22 .mv 16 ?_
 refine rv 23 .mv 32 ?_
 refine rv 24 (.add ((i+3:Nat):Int)) 1 ?_
 refine rv 25 (v:=(.int .i64 ((((i+3)%4):Nat):Int))) (fun _ _ hF=>bm (z:=(((i+3)%4:Nat):Int)) rfl (hF.ev 0 rfl) rfl (by omega) bW) 1 ?_
 refine rv 26 (.add (((4*(i/4))+((i+3)%4):Nat):Int)) 3 ?_
 have hi21:(4*(i/4))+((i+3)%4)<16:=by omega
 refine rv 27 (.ia 1 16 ((4*(i/4))+((i+3)%4)) (hi:=hi21)) 1 ?_
 refine rld 28 (hH.q 2 rfl) (.ld af ((shifted (boxed ah (encR ah (aeW l) f y))) ((4*(i/4))+((i+3)%4))) (fun _ hS=>((ae hS).elt hi21))) 1 ?_
 refine ao 4 (rpc 4 Tryz.func79 (eD 2 ((shifted (boxed ah (encR ah (aeW l) f y))) i)) trivial hH 8 (.keep (.keep (.keep (pgo [] (.nil _ []))))) ?_)
 clear hH
 intro w hH
 refine ⟨am (hH.blk 2 rfl) (am (hH.blk 2 rfl) (am (hH.blk 2 rfl) an)),?_⟩
 refine ao 12 (rpc 12 Tryz.func79 (eD 3 ((shifted (boxed ah (encR ah (aeW l) f y))) ((4*(i/4))+((i+1)%4)))) trivial hH 8 (.keep (.keep (pgo [] (.nil _ [])))) ?_)
 clear hH
 intro w hH
 refine ⟨am (hH.blk 2 rfl) (am (hH.blk 2 rfl) an),?_⟩
 refine rv 13 (.xb ((tmB 2 ((shifted (boxed ah (encR ah (aeW l) f y))) i))^^^(tmB 3 ((shifted (boxed ah (encR ah (aeW l) f y))) ((4*(i/4))+((i+1)%4))))) (u:=(tmB 2 ((shifted (boxed ah (encR ah (aeW l) f y))) i))) (v:=(tmB 3 ((shifted (boxed ah (encR ah (aeW l) f y))) ((4*(i/4))+((i+1)%4)))))) 3 ?_
 refine rv 21 (.xb (((tmB 2 ((shifted (boxed ah (encR ah (aeW l) f y))) i))^^^(tmB 3 ((shifted (boxed ah (encR ah (aeW l) f y))) ((4*(i/4))+((i+1)%4)))))^^^((shifted (boxed ah (encR ah (aeW l) f y))) ((4*(i/4))+((i+2)%4)))) (u:=((tmB 2 ((shifted (boxed ah (encR ah (aeW l) f y))) i))^^^(tmB 3 ((shifted (boxed ah (encR ah (aeW l) f y))) ((4*(i/4))+((i+1)%4)))))) (v:=((shifted (boxed ah (encR ah (aeW l) f y))) ((4*(i/4))+((i+2)%4))))) 5 ?_
 refine rv 29 (.xb ((((tmB 2 ((shifted (boxed ah (encR ah (aeW l) f y))) i))^^^(tmB 3 ((shifted (boxed ah (encR ah (aeW l) f y))) ((4*(i/4))+((i+1)%4)))))^^^((shifted (boxed ah (encR ah (aeW l) f y))) ((4*(i/4))+((i+2)%4))))^^^((shifted (boxed ah (encR ah (aeW l) f y))) ((4*(i/4))+((i+3)%4)))) (u:=(((tmB 2 ((shifted (boxed ah (encR ah (aeW l) f y))) i))^^^(tmB 3 ((shifted (boxed ah (encR ah (aeW l) f y))) ((4*(i/4))+((i+1)%4)))))^^^((shifted (boxed ah (encR ah (aeW l) f y))) ((4*(i/4))+((i+2)%4))))) (v:=((shifted (boxed ah (encR ah (aeW l) f y))) ((4*(i/4))+((i+3)%4))))) 3 ?_
 have hi22:i<16:=by omega
 refine rv 30 (.ia 1 16 i (hi:=hi22)) 2 ?_
 refine ao 31 ?_
 refine re0 31 3 hH rfl (.st af ((((tmB 2 ((shifted (boxed ah (encR ah (aeW l) f y))) i))^^^(tmB 3 ((shifted (boxed ah (encR ah (aeW l) f y))) ((4*(i/4))+((i+1)%4)))))^^^((shifted (boxed ah (encR ah (aeW l) f y))) ((4*(i/4))+((i+2)%4))))^^^((shifted (boxed ah (encR ah (aeW l) f y))) ((4*(i/4))+((i+3)%4)))) (aU (S:=sBy) (C:=(ac 16)) rfl hi22) (aQ (upF i (mixed (shifted (boxed ah (encR ah (aeW l) f y)))) (shifted (boxed ah (encR ah (aeW l) f y)))) ((((tmB 2 ((shifted (boxed ah (encR ah (aeW l) f y))) i))^^^(tmB 3 ((shifted (boxed ah (encR ah (aeW l) f y))) ((4*(i/4))+((i+1)%4)))))^^^((shifted (boxed ah (encR ah (aeW l) f y))) ((4*(i/4))+((i+2)%4))))^^^((shifted (boxed ah (encR ah (aeW l) f y))) ((4*(i/4))+((i+3)%4)))) hi22)) trivial (pgo [] (pgo [] (.nil _ []))) ?_
 clear hH
 rintro _ _ w rfl hH
 refine ⟨an,bQ (by kernel_rfl) ?_⟩
 refine aN (ag (aC (zv (.add ((i+1:Nat):Int)) 7 ?_)))
 refine zv .mv 1 ?_
 refine aD ?_
 have he23:(ac 16).enc (upF (i+1) (mixed (shifted (boxed ah (encR ah (aeW l) f y)))) (shifted (boxed ah (encR ah (aeW l) f y))))=(ac 16).enc (stF (upF i (mixed (shifted (boxed ah (encR ah (aeW l) f y)))) (shifted (boxed ah (encR ah (aeW l) f y)))) i ((((tmB 2 ((shifted (boxed ah (encR ah (aeW l) f y))) i))^^^(tmB 3 ((shifted (boxed ah (encR ah (aeW l) f y))) ((4*(i/4))+((i+1)%4)))))^^^((shifted (boxed ah (encR ah (aeW l) f y))) ((4*(i/4))+((i+2)%4))))^^^((shifted (boxed ah (encR ah (aeW l) f y))) ((4*(i/4))+((i+3)%4))))):=aB (fun j _=>(congrFun (bi i (mixed (shifted (boxed ah (encR ah (aeW l) f y)))) (shifted (boxed ah (encR ah (aeW l) f y))) (by rw[show 4*(i/4)=i-i%4 by omega];exact uX (shifted (boxed ah (encR ah (aeW l) f y))) i)) j).symm)
 replace hH:HH w0 [] [[bl g1 51 ((ac 16).enc (encR ah (aeW l) f y))],[bl g2 51 ((ac 16).enc (fun _=>0))],[bl g6 51 ((ac 16).enc (shifted (boxed ah (encR ah (aeW l) f y))))],[bl g7 51 ((ac 16).enc (upF (i+1) (mixed (shifted (boxed ah (encR ah (aeW l) f y)))) (shifted (boxed ah (encR ah (aeW l) f y)))))]] w:=by rw[he23];exact hH
 exact zR1 (i+1) ⟨hH,(by omega)⟩ (by omega)
 refine aJ (ak (ak (aR (ag ?_))))
 obtain rfl:i=16:=by omega
 have he24:(ac 16).enc (mixed (shifted (boxed ah (encR ah (aeW l) f y))))=(ac 16).enc (upF 16 (mixed (shifted (boxed ah (encR ah (aeW l) f y)))) (shifted (boxed ah (encR ah (aeW l) f y)))):=aB (fun j hj=>(bz _ _ hj).symm)
 replace hH:HH w0 [] [[bl g1 51 ((ac 16).enc (encR ah (aeW l) f y))],[bl g2 51 ((ac 16).enc (fun _=>0))],[bl g6 51 ((ac 16).enc (shifted (boxed ah (encR ah (aeW l) f y))))],[bl g7 51 ((ac 16).enc (mixed (shifted (boxed ah (encR ah (aeW l) f y)))))]] w:=by rw[he24];exact hH
 refine aC (zv .mv 11 ?_)
 refine zs (hH.q 3 rfl) (.l0 (ac 16) (mixed (shifted (boxed ah (encR ah (aeW l) f y))))) 2 ?_
 refine zv .mv 0 ?_
 refine zc Tryz.func80 (oH g l hk (mixed (shifted (boxed ah (encR ah (aeW l) f y)))) (y+1) (by omega)) (hH.oldBlk hR (by simp)) hH 7 ?_
 clear hH
 intro w hH
 refine zW 0 hH rfl (added (mixed (shifted (boxed ah (encR ah (aeW l) f y)))) (rk (aeW l) (y+1))) ?_
 clear hH
 intro w hH
 refine aD (aN (ag (aC (zv .mv 3 ?_))))
 refine zv (.add (((y+1+1):Nat):Int)) 1 ?_
 refine zv .mv 1 ?_
 refine aD ?_
 replace hH:HH w0 [] [[bl g1 51 ((ac 16).enc (added (mixed (shifted (boxed ah (encR ah (aeW l) f y)))) (rk (aeW l) (y+1))))],[bl g2 51 ((ac 16).enc (fun _=>0))]] w:=hH.only [true,true,false,false]
 have he25:(ac 16).enc (eRd l f (y+1))=(ac 16).enc (added (mixed (shifted (boxed ah (encR ah (aeW l) f y)))) (rk (aeW l) (y+1))):=aB (fun q _=>congrFun (pT (by omega)) q)
 replace hH:HH w0 [] [[bl g1 51 ((ac 16).enc (eRd l f (y+1)))],[bl g2 51 ((ac 16).enc (fun _=>0))]] w:=by rw[he25];exact hH
 exact zR1 (y+1) ⟨hH,(by omega)⟩ (by omega)
 refine aA (ag (aC (zv .mv 5 ?_)))
 refine zs (hH.q 3 rfl) (.l0 (ac 16) (shifted (boxed ah (encR ah (aeW l) f y)))) 2 ?_
 refine zv .mv 0 ?_
 refine zc Tryz.func80 (oH g l hk (shifted (boxed ah (encR ah (aeW l) f y))) (y+1) (by omega)) (hH.oldBlk hR (by simp)) hH 7 ?_
 clear hH
 intro w hH
 refine zW 0 hH rfl (added (shifted (boxed ah (encR ah (aeW l) f y))) (rk (aeW l) (y+1))) ?_
 clear hH
 intro w hH
 refine aD (aN (ag (aC (zv .mv 3 ?_))))
 refine zv (.add (((y+1+1):Nat):Int)) 1 ?_
 refine zv .mv 1 ?_
 refine aD ?_
 replace hH:HH w0 [] [[bl g1 51 ((ac 16).enc (added (shifted (boxed ah (encR ah (aeW l) f y))) (rk (aeW l) (y+1))))],[bl g2 51 ((ac 16).enc (fun _=>0))]] w:=hH.only [true,true,false,false]
 have he26:(ac 16).enc (eRd l f (y+1))=(ac 16).enc (added (shifted (boxed ah (encR ah (aeW l) f y))) (rk (aeW l) (y+1))):=aB (fun q _=>congrFun (vj (by omega)) q)
 replace hH:HH w0 [] [[bl g1 51 ((ac 16).enc (eRd l f (y+1)))],[bl g2 51 ((ac 16).enc (fun _=>0))]] w:=by rw[he26];exact hH
 exact zR1 (y+1) ⟨hH,(by omega)⟩ (by omega)
 refine aJ (ak (ak (aR (ag ?_))))
 obtain rfl:y=(l.length/4+6):=by omega
 have he27:(ac 16).enc (aeE l f)=(ac 16).enc (eRd l f (l.length/4+6)):=aB (fun q _=>(congrFun xA q).symm)
 replace hH:HH w0 [] [[bl g1 51 ((ac 16).enc (aeE l f))],[bl g2 51 ((ac 16).enc (fun _=>0))]] w:=by rw[he27];exact hH
 refine zr (zs (hH.q 0 rfl) (.l0 (ac 16) (aeE l f)) 27 ?_)
 refine zW 1 hH rfl (aeE l f) ?_
 clear hH
 intro w hH
 refine zn (ar (aI 1 (hH.blk 1 rfl) rfl rfl (by kernel_rfl) (Cod.size _ _) (by kernel_rfl) ?_))
 exact zE hH
theorem Ce(g:Nat)(l:List UInt8)(hk:l.length=16∨l.length=32)(f:Nat→UInt8):Pure Tryz.prog 50 #[(.pointer (some ⟨g,0,none⟩)),((ac 16).val f)] (fun w=>w.heap[g]?=some (.cells (cCi.enc (ah,bk ah 256,(upF (16*(l.length/4+7)) (aeW l) fun _=>0),(l.length/4+6))) 107 (0,0))) ((ac 16).val (aeD l f)):=by
 refine pU Tryz.func50 Tryz.ntmps50 ?_
 intro w0 hH hR
 refine zr (zB hH (ac 16) f 2 ?_)
 clear hH
 intro g1 w hH
 refine zA hH (ac 16) (fun _=>0) 0 ?_
 clear hH
 intro g2 w hH
 refine zn (aj (zr (zv .mv 0 ?_)))
 refine zv .nc 1 ?_
 refine zv (.fld 752) 1 ?_
 refine zs (hH.ob hR) (.ld (eX .i64) (l.length/4+6) (fun _ hS=>(((ae hS).snd).snd).snd)) 1 ?_
 refine zv .mv 1 ?_
 refine zn (ai ?_)
 have he3:(ac 16).enc (dRd l f 0)=(ac 16).enc f:=aB (fun _ _=>rfl)
 replace hH:HH w0 [] [[bl g1 51 ((ac 16).enc (dRd l f 0))],[bl g2 51 ((ac 16).enc (fun _=>0))]] w:=by rw[he3];exact hH
 refine zL1 (fun (q:Nat)=>[(5,(.int .i64 ((((l.length/4+6)-q):Nat):Int))),(4,(.pointer (some ⟨g2,0,none⟩))),(3,(.pointer (some ⟨g1,0,none⟩))),(0,(.pointer (some ⟨g,0,none⟩)))]) (fun q w=>HH w0 [] [[bl g1 51 ((ac 16).enc (dRd l f q))],[bl g2 51 ((ac 16).enc (fun _=>0))]] w∧(q≤(l.length/4+6))) (fun q=>(l.length/4+6)-q) 0 ⟨hH,(Nat.zero_le _)⟩ ?_
 clear hH
 rintro q w ⟨hH,hq⟩
 refine aj (zr (zv .mv 0 ?_))
 refine zv (.ge ((l.length/4+6)-q ≥ 1)) 1 ?_
 refine zn ?_
 refine zP (fun hc4 => ?_) (fun hc4 => ?_)
 refine aA (ag (aj (ai (zr (zv .mv 1 ?_)))))
 refine zs (hH.q 0 rfl) (.l0 (ac 16) (dRd l f q)) 0 ?_
 refine zv .mv 0 ?_
 refine zc Tryz.func80 (oH g l hk (dRd l f q) ((l.length/4+6)-q) (by omega)) (hH.oldBlk hR (by simp)) hH 7 ?_
 clear hH
 intro w hH
 refine zA hH (ac 16) (fun _=>0) 0 ?_
 clear hH
 intro g5 w hH
 refine zW 2 hH rfl (added (dRd l f q) (rk (aeW l) ((l.length/4+6)-q))) ?_
 clear hH
 intro w hH
 refine zn (zr (zs (hH.q 2 rfl) (.l0 (ac 16) (added (dRd l f q) (rk (aeW l) ((l.length/4+6)-q)))) 2 ?_))
 refine zA hH (ac 16) (fun _=>0) 0 ?_
 clear hH
 intro g6 w hH
 refine zW 3 hH rfl (added (dRd l f q) (rk (aeW l) ((l.length/4+6)-q))) ?_
 clear hH
 intro w hH
 refine zn ?_
 refine gZ (σ:=(Nat→UInt8)) (fun x=>[(7,(.pointer (some ⟨g6,0,none⟩))),(5,(.int .i64 ((((l.length/4+6)-q):Nat):Int))),(4,(.pointer (some ⟨g2,0,none⟩))),(3,(.pointer (some ⟨g1,0,none⟩))),(0,(.pointer (some ⟨g,0,none⟩)))]) (fun x w=>HH w0 [] [[bl g1 51 ((ac 16).enc (dRd l f q))],[bl g2 51 ((ac 16).enc (fun _=>0))],[bl g6 51 ((ac 16).enc x)]] w∧(∀ j,j<16→(boxed (bk ah 256) (unshifted x)) j=dRd l f (q+1) j)) ?_ ?_
 refine zr (zv .mv 2 ?_)
 refine zv .mv 0 ?_
 refine zv .nc 1 ?_
 refine zv (.fld 752) 1 ?_
 refine zs (hH.ob hR) (.ld (eX .i64) (l.length/4+6) (fun _ hS=>(((ae hS).snd).snd).snd)) 1 ?_
 refine zv (.lt ((l.length/4+6)-q<(l.length/4+6))) 3 ?_
 refine zn ?_
 refine zP (fun hc7 => ?_) (fun hc7 => ?_)
 refine zr (zv .mv 1 ?_)
 refine zn (ai ?_)
 have he8:(ac 16).enc (upF 0 (unmixed (added (dRd l f q) (rk (aeW l) ((l.length/4+6)-q)))) (added (dRd l f q) (rk (aeW l) ((l.length/4+6)-q))))=(ac 16).enc (added (dRd l f q) (rk (aeW l) ((l.length/4+6)-q))):=aB (fun j _=>by rw[bw])
 replace hH:HH w0 [] [[bl g1 51 ((ac 16).enc (dRd l f q))],[bl g2 51 ((ac 16).enc (fun _=>0))],[bl g5 51 ((ac 16).enc (added (dRd l f q) (rk (aeW l) ((l.length/4+6)-q))))],[bl g6 51 ((ac 16).enc (upF 0 (unmixed (added (dRd l f q) (rk (aeW l) ((l.length/4+6)-q)))) (added (dRd l f q) (rk (aeW l) ((l.length/4+6)-q)))))]] w:=by rw[he8];exact hH
 refine zL1 (fun (i:Nat)=>[(30,(.int .i64 i)),(7,(.pointer (some ⟨g6,0,none⟩))),(6,(.pointer (some ⟨g5,0,none⟩))),(5,(.int .i64 ((((l.length/4+6)-q):Nat):Int))),(4,(.pointer (some ⟨g2,0,none⟩))),(3,(.pointer (some ⟨g1,0,none⟩))),(0,(.pointer (some ⟨g,0,none⟩)))]) (fun i w=>HH w0 [] [[bl g1 51 ((ac 16).enc (dRd l f q))],[bl g2 51 ((ac 16).enc (fun _=>0))],[bl g5 51 ((ac 16).enc (added (dRd l f q) (rk (aeW l) ((l.length/4+6)-q))))],[bl g6 51 ((ac 16).enc (upF i (unmixed (added (dRd l f q) (rk (aeW l) ((l.length/4+6)-q)))) (added (dRd l f q) (rk (aeW l) ((l.length/4+6)-q)))))]] w∧(i≤16)) (fun i=>16-i) 0 ⟨hH,(Nat.zero_le _)⟩ ?_
 clear hH
 rintro i w ⟨hH,hi⟩
 refine zr (zv (.lt (i<16)) 0 ?_)
 refine zn (aj ?_)
 refine zP (fun hc9 => ?_) (fun hc9 => ?_)
 refine aA (ag (aj (ai (zr (zv .mv 1 ?_)))))
 refine zv .mv 1 ?_
 refine zn (zr (zv .mv 0 ?_))
 refine zv (v:=(.int .i64 (((i/4):Nat):Int))) (fun _ _ hF=>cM (z:=((i/4:Nat):Int)) rfl (hF.ev 0 rfl) rfl (by omega) (wI dO (by omega) (by omega))) 1 ?_
 refine zv (.mul ((4*(i/4):Nat):Int)) 1 ?_
 refine zv .mv 1 ?_
 refine zn (br mixedOrders (by kernel_rfl) ?_)
 replace hH:=hH.drew
 refine rv 0 .mv 0 ?_
 refine rv 1 .mv 0 ?_
 have hi10:i<16:=by omega
 refine rv 2 (.ia 1 16 i (hi:=hi10)) 1 ?_
 refine rld 3 (hH.q 2 rfl) (.ld af ((added (dRd l f q) (rk (aeW l) ((l.length/4+6)-q))) i) (fun _ hS=>((ae hS).elt hi10))) 1 ?_
 refine rv 5 .mv 0 ?_
 refine rv 6 .mv 0 ?_
 refine rv 7 (.add ((i+1:Nat):Int)) 1 ?_
 refine rv 8 (v:=(.int .i64 ((((i+1)%4):Nat):Int))) (fun _ _ hF=>bm (z:=(((i+1)%4:Nat):Int)) rfl (hF.ev 0 rfl) rfl (by omega) bW) 1 ?_
 refine rv 9 (.add (((4*(i/4))+((i+1)%4):Nat):Int)) 3 ?_
 have hi11:(4*(i/4))+((i+1)%4)<16:=by omega
 refine rv 10 (.ia 1 16 ((4*(i/4))+((i+1)%4)) (hi:=hi11)) 1 ?_
 refine rld 11 (hH.q 2 rfl) (.ld af ((added (dRd l f q) (rk (aeW l) ((l.length/4+6)-q))) ((4*(i/4))+((i+1)%4))) (fun _ hS=>((ae hS).elt hi11))) 1 ?_
 refine rv 14 .mv 0 ?_
 refine rv 15 .mv 0 ?_
 refine rv 16 (.add ((i+2:Nat):Int)) 1 ?_
 refine rv 17 (v:=(.int .i64 ((((i+2)%4):Nat):Int))) (fun _ _ hF=>bm (z:=(((i+2)%4:Nat):Int)) rfl (hF.ev 0 rfl) rfl (by omega) bW) 1 ?_
 refine rv 18 (.add (((4*(i/4))+((i+2)%4):Nat):Int)) 3 ?_
 have hi12:(4*(i/4))+((i+2)%4)<16:=by omega
 refine rv 19 (.ia 1 16 ((4*(i/4))+((i+2)%4)) (hi:=hi12)) 1 ?_
 refine rld 20 (hH.q 2 rfl) (.ld af ((added (dRd l f q) (rk (aeW l) ((l.length/4+6)-q))) ((4*(i/4))+((i+2)%4))) (fun _ hS=>((ae hS).elt hi12))) 1 ?_
 refine rv 23 .mv 16 ?_
 refine rv 24 .mv 32 ?_
 refine rv 25 (.add ((i+3:Nat):Int)) 1 ?_
 refine rv 26 (v:=(.int .i64 ((((i+3)%4):Nat):Int))) (fun _ _ hF=>bm (z:=(((i+3)%4:Nat):Int)) rfl (hF.ev 0 rfl) rfl (by omega) bW) 1 ?_
 refine rv 27 (.add (((4*(i/4))+((i+3)%4):Nat):Int)) 3 ?_
 have hi13:(4*(i/4))+((i+3)%4)<16:=by omega
 refine rv 28 (.ia 1 16 ((4*(i/4))+((i+3)%4)) (hi:=hi13)) 1 ?_
 refine rld 29 (hH.q 2 rfl) (.ld af ((added (dRd l f q) (rk (aeW l) ((l.length/4+6)-q))) ((4*(i/4))+((i+3)%4))) (fun _ hS=>((ae hS).elt hi13))) 1 ?_
 refine ao 4 (rpc 4 Tryz.func79 (eD 14 ((added (dRd l f q) (rk (aeW l) ((l.length/4+6)-q))) i)) trivial hH 8 (.keep (.keep (.keep (pgo [] (.nil _ []))))) ?_)
 clear hH
 intro w hH
 refine ⟨am (hH.blk 2 rfl) (am (hH.blk 2 rfl) (am (hH.blk 2 rfl) an)),?_⟩
 refine ao 12 (rpc 12 Tryz.func79 (eD 11 ((added (dRd l f q) (rk (aeW l) ((l.length/4+6)-q))) ((4*(i/4))+((i+1)%4)))) trivial hH 8 (.keep (.keep (pgo [] (.nil _ [])))) ?_)
 clear hH
 intro w hH
 refine ⟨am (hH.blk 2 rfl) (am (hH.blk 2 rfl) an),?_⟩
 refine rv 13 (.xb ((tmB 14 ((added (dRd l f q) (rk (aeW l) ((l.length/4+6)-q))) i))^^^(tmB 11 ((added (dRd l f q) (rk (aeW l) ((l.length/4+6)-q))) ((4*(i/4))+((i+1)%4))))) (u:=(tmB 14 ((added (dRd l f q) (rk (aeW l) ((l.length/4+6)-q))) i))) (v:=(tmB 11 ((added (dRd l f q) (rk (aeW l) ((l.length/4+6)-q))) ((4*(i/4))+((i+1)%4)))))) 3 ?_
 refine ao 21 (rpc 21 Tryz.func79 (eD 13 ((added (dRd l f q) (rk (aeW l) ((l.length/4+6)-q))) ((4*(i/4))+((i+2)%4)))) trivial hH 4 (.keep (pgo [] (.nil _ []))) ?_)
 clear hH
 intro w hH
 refine ⟨am (hH.blk 2 rfl) an,?_⟩
 refine rv 22 (.xb (((tmB 14 ((added (dRd l f q) (rk (aeW l) ((l.length/4+6)-q))) i))^^^(tmB 11 ((added (dRd l f q) (rk (aeW l) ((l.length/4+6)-q))) ((4*(i/4))+((i+1)%4)))))^^^(tmB 13 ((added (dRd l f q) (rk (aeW l) ((l.length/4+6)-q))) ((4*(i/4))+((i+2)%4))))) (u:=((tmB 14 ((added (dRd l f q) (rk (aeW l) ((l.length/4+6)-q))) i))^^^(tmB 11 ((added (dRd l f q) (rk (aeW l) ((l.length/4+6)-q))) ((4*(i/4))+((i+1)%4)))))) (v:=(tmB 13 ((added (dRd l f q) (rk (aeW l) ((l.length/4+6)-q))) ((4*(i/4))+((i+2)%4)))))) 3 ?_
 refine ao 30 (rpc 30 Tryz.func79 (eD 9 ((added (dRd l f q) (rk (aeW l) ((l.length/4+6)-q))) ((4*(i/4))+((i+3)%4)))) trivial hH 2 (pgo [] (.nil _ [])) ?_)
 clear hH
 intro w hH
 refine ⟨an,rv 31 (.xb ((((tmB 14 ((added (dRd l f q) (rk (aeW l) ((l.length/4+6)-q))) i))^^^(tmB 11 ((added (dRd l f q) (rk (aeW l) ((l.length/4+6)-q))) ((4*(i/4))+((i+1)%4)))))^^^(tmB 13 ((added (dRd l f q) (rk (aeW l) ((l.length/4+6)-q))) ((4*(i/4))+((i+2)%4)))))^^^(tmB 9 ((added (dRd l f q) (rk (aeW l) ((l.length/4+6)-q))) ((4*(i/4))+((i+3)%4))))) (u:=(((tmB 14 ((added (dRd l f q) (rk (aeW l) ((l.length/4+6)-q))) i))^^^(tmB 11 ((added (dRd l f q) (rk (aeW l) ((l.length/4+6)-q))) ((4*(i/4))+((i+1)%4)))))^^^(tmB 13 ((added (dRd l f q) (rk (aeW l) ((l.length/4+6)-q))) ((4*(i/4))+((i+2)%4)))))) (v:=(tmB 9 ((added (dRd l f q) (rk (aeW l) ((l.length/4+6)-q))) ((4*(i/4))+((i+3)%4)))))) 3 ?_⟩
 have hi14:i<16:=by omega
 refine rv 32 (.ia 1 16 i (hi:=hi14)) 2 ?_
 refine ao 33 ?_
 refine re0 33 3 hH rfl (.st af ((((tmB 14 ((added (dRd l f q) (rk (aeW l) ((l.length/4+6)-q))) i))^^^(tmB 11 ((added (dRd l f q) (rk (aeW l) ((l.length/4+6)-q))) ((4*(i/4))+((i+1)%4)))))^^^(tmB 13 ((added (dRd l f q) (rk (aeW l) ((l.length/4+6)-q))) ((4*(i/4))+((i+2)%4)))))^^^(tmB 9 ((added (dRd l f q) (rk (aeW l) ((l.length/4+6)-q))) ((4*(i/4))+((i+3)%4))))) (aU (S:=sBy) (C:=(ac 16)) rfl hi14) (aQ (upF i (unmixed (added (dRd l f q) (rk (aeW l) ((l.length/4+6)-q)))) (added (dRd l f q) (rk (aeW l) ((l.length/4+6)-q)))) ((((tmB 14 ((added (dRd l f q) (rk (aeW l) ((l.length/4+6)-q))) i))^^^(tmB 11 ((added (dRd l f q) (rk (aeW l) ((l.length/4+6)-q))) ((4*(i/4))+((i+1)%4)))))^^^(tmB 13 ((added (dRd l f q) (rk (aeW l) ((l.length/4+6)-q))) ((4*(i/4))+((i+2)%4)))))^^^(tmB 9 ((added (dRd l f q) (rk (aeW l) ((l.length/4+6)-q))) ((4*(i/4))+((i+3)%4))))) hi14)) trivial (.nil _ []) ?_
 clear hH
 rintro _ _ w rfl hH
 refine ⟨an,bQ (by kernel_rfl) ?_⟩
 refine aN (ag (aC (zv (.add ((i+1:Nat):Int)) 7 ?_)))
 refine zv .mv 1 ?_
 refine aD ?_
 have he15:(ac 16).enc (upF (i+1) (unmixed (added (dRd l f q) (rk (aeW l) ((l.length/4+6)-q)))) (added (dRd l f q) (rk (aeW l) ((l.length/4+6)-q))))=(ac 16).enc (stF (upF i (unmixed (added (dRd l f q) (rk (aeW l) ((l.length/4+6)-q)))) (added (dRd l f q) (rk (aeW l) ((l.length/4+6)-q)))) i ((((tmB 14 ((added (dRd l f q) (rk (aeW l) ((l.length/4+6)-q))) i))^^^(tmB 11 ((added (dRd l f q) (rk (aeW l) ((l.length/4+6)-q))) ((4*(i/4))+((i+1)%4)))))^^^(tmB 13 ((added (dRd l f q) (rk (aeW l) ((l.length/4+6)-q))) ((4*(i/4))+((i+2)%4)))))^^^(tmB 9 ((added (dRd l f q) (rk (aeW l) ((l.length/4+6)-q))) ((4*(i/4))+((i+3)%4)))))):=aB (fun j _=>(congrFun (bi i (unmixed (added (dRd l f q) (rk (aeW l) ((l.length/4+6)-q)))) (added (dRd l f q) (rk (aeW l) ((l.length/4+6)-q))) (by rw[show 4*(i/4)=i-i%4 by omega];exact pM (added (dRd l f q) (rk (aeW l) ((l.length/4+6)-q))) i)) j).symm)
 replace hH:HH w0 [] [[bl g1 51 ((ac 16).enc (dRd l f q))],[bl g2 51 ((ac 16).enc (fun _=>0))],[bl g5 51 ((ac 16).enc (added (dRd l f q) (rk (aeW l) ((l.length/4+6)-q))))],[bl g6 51 ((ac 16).enc (upF (i+1) (unmixed (added (dRd l f q) (rk (aeW l) ((l.length/4+6)-q)))) (added (dRd l f q) (rk (aeW l) ((l.length/4+6)-q)))))]] w:=by rw[he15];exact hH
 exact zR1 (i+1) ⟨hH,(by omega)⟩ (by omega)
 refine aJ (ak (ak (aR ?_)))
 replace hH:HH w0 [] [[bl g1 51 ((ac 16).enc (dRd l f q))],[bl g2 51 ((ac 16).enc (fun _=>0))],[bl g6 51 ((ac 16).enc (upF i (unmixed (added (dRd l f q) (rk (aeW l) ((l.length/4+6)-q)))) (added (dRd l f q) (rk (aeW l) ((l.length/4+6)-q)))))]] w:=HH.sel hH [0,1,3] rfl (by decide)
 obtain rfl:i=16:=by omega
 have he16:(ac 16).enc (unmixed (added (dRd l f q) (rk (aeW l) ((l.length/4+6)-q))))=(ac 16).enc (upF 16 (unmixed (added (dRd l f q) (rk (aeW l) ((l.length/4+6)-q)))) (added (dRd l f q) (rk (aeW l) ((l.length/4+6)-q)))):=aB (fun j hj=>(bz _ _ hj).symm)
 replace hH:HH w0 [] [[bl g1 51 ((ac 16).enc (dRd l f q))],[bl g2 51 ((ac 16).enc (fun _=>0))],[bl g6 51 ((ac 16).enc (unmixed (added (dRd l f q) (rk (aeW l) ((l.length/4+6)-q)))))]] w:=by rw[he16];exact hH
 have hq1:0<q:=by omega
 exact dw (unmixed (added (dRd l f q) (rk (aeW l) ((l.length/4+6)-q)))) ⟨hH,(fun j _=>(congrFun (xB hq1) j).symm)⟩ (bU [2,4,5,6,7] rfl)
 refine aA ?_
 replace hH:HH w0 [] [[bl g1 51 ((ac 16).enc (dRd l f q))],[bl g2 51 ((ac 16).enc (fun _=>0))],[bl g6 51 ((ac 16).enc (added (dRd l f q) (rk (aeW l) ((l.length/4+6)-q))))]] w:=HH.sel hH [0,1,3] rfl (by decide)
 obtain rfl:q=0:=by omega
 exact dw (added (dRd l f 0) (rk (aeW l) ((l.length/4+6)-0))) ⟨hH,(fun j _=>rfl)⟩ (bU [1,3,4,5,6] rfl)
 clear hH
 rintro u w ⟨hH,hu⟩
 change CX _ _ _ _ [(7,(.pointer (some ⟨g6,0,none⟩))),(5,(.int .i64 ((((l.length/4+6)-q):Nat):Int))),(4,(.pointer (some ⟨g2,0,none⟩))),(3,(.pointer (some ⟨g1,0,none⟩))),(0,(.pointer (some ⟨g,0,none⟩)))] _
 replace hH:HH w0 [] [[bl g1 51 ((ac 16).enc (dRd l f q))],[bl g2 51 ((ac 16).enc (fun _=>0))],[bl g6 51 ((ac 16).enc u)]] w:=hH
 replace hu:∀ j,j<16→(boxed (bk ah 256) (unshifted u)) j=dRd l f (q+1) j:=hu
 refine zr (zv .mv 0 ?_)
 refine zn (ai ?_)
 have he17:(ac 16).enc (prU 0 (boxed (bk ah 256) (unshifted u)) (dRd l f q))=(ac 16).enc (dRd l f q):=aB (fun j _=>if_neg (Nat.not_lt_zero _))
 replace hH:HH w0 [] [[bl g1 51 ((ac 16).enc (prU 0 (boxed (bk ah 256) (unshifted u)) (dRd l f q)))],[bl g2 51 ((ac 16).enc (fun _=>0))],[bl g6 51 ((ac 16).enc u)]] w:=by rw[he17];exact hH
 refine zL1 (fun (i:Nat)=>[(70,(.int .i64 i)),(7,(.pointer (some ⟨g6,0,none⟩))),(5,(.int .i64 ((((l.length/4+6)-q):Nat):Int))),(4,(.pointer (some ⟨g2,0,none⟩))),(3,(.pointer (some ⟨g1,0,none⟩))),(0,(.pointer (some ⟨g,0,none⟩)))]) (fun i w=>HH w0 [] [[bl g1 51 ((ac 16).enc (prU i (boxed (bk ah 256) (unshifted u)) (dRd l f q)))],[bl g2 51 ((ac 16).enc (fun _=>0))],[bl g6 51 ((ac 16).enc u)]] w∧(i≤16)) (fun i=>16-i) 0 ⟨hH,(Nat.zero_le _)⟩ ?_
 clear hH
 rintro i w ⟨hH,hi⟩
 refine zr (zv (.lt (i<16)) 0 ?_)
 refine zn (aj ?_)
 refine zP (fun hc18 => ?_) (fun hc18 => ?_)
 refine aA (ag (aj (ai (zr (zv .mv 1 ?_)))))
 refine zv .mv 1 ?_
 refine zn (br mixedOrders (by kernel_rfl) ?_)
 replace hH:=hH.drew
 refine rv 0 .mv 0 ?_
 refine rv 1 (v:=(.int .i64 (((i/4):Nat):Int))) (fun _ _ hF=>cM (z:=((i/4:Nat):Int)) rfl (hF.ev 0 rfl) rfl (by omega) (wI dO (by omega) (by omega))) 1 ?_
 refine rv 2 .mv 0 ?_
 refine rv 3 (v:=(.int .i64 (((i%4):Nat):Int))) (fun _ _ hF=>bm (z:=((i%4:Nat):Int)) rfl (hF.ev 0 rfl) rfl (by omega) bW) 1 ?_
 refine rv 4 (.add (((i/4)+(i%4):Nat):Int)) 3 ?_
 refine rv 5 (v:=(.int .i64 (((((i/4)+(i%4))%4):Nat):Int))) (fun _ _ hF=>bm (z:=((((i/4)+(i%4))%4:Nat):Int)) rfl (hF.ev 0 rfl) rfl (by omega) bW) 1 ?_
 refine rv 6 (.mul ((4*(((i/4)+(i%4))%4):Nat):Int)) 1 ?_
 refine rv 7 .mv 0 ?_
 refine rv 8 (v:=(.int .i64 (((i%4):Nat):Int))) (fun _ _ hF=>bm (z:=((i%4:Nat):Int)) rfl (hF.ev 0 rfl) rfl (by omega) bW) 1 ?_
 refine rv 9 (.add (((4*(((i/4)+(i%4))%4))+(i%4):Nat):Int)) 3 ?_
 refine rv 10 .mv 0 ?_
 refine rv 11 .mv 4 ?_
 have hi19:i<16:=by omega
 refine rv 12 (.ia 1 16 i (hi:=hi19)) 1 ?_
 refine rld 13 (hH.q 2 rfl) (.ld af (u i) (fun _ hS=>((ae hS).elt hi19))) 1 ?_
 refine rv 14 .nc 2 ?_
 refine rv 15 (.fld 256) 1 ?_
 have hi20:(u i).toNat<256:=UInt8.toNat_lt _
 refine rv 16 (.ia 1 256 ((u i).toNat) (hi:=hi20)) 3 ?_
 refine rld 17 (hH.ob hR) (.ld af ((bk ah 256) ((u i).toNat)) (fun _ hS=>(((ae hS).snd).fst.elt hi20))) 1 ?_
 have hi21:(4*(((i/4)+(i%4))%4))+(i%4)<16:=by omega
 refine rv 18 (.ia 1 16 ((4*(((i/4)+(i%4))%4))+(i%4)) (hi:=hi21)) 2 ?_
 refine ao 19 ?_
 refine re0 19 0 hH rfl (.st af ((bk ah 256) ((u i).toNat)) (aU (S:=sBy) (C:=(ac 16)) rfl hi21) (aQ (prU i (boxed (bk ah 256) (unshifted u)) (dRd l f q)) ((bk ah 256) ((u i).toNat)) hi21)) trivial (pgo [] (pgo [] (.nil _ []))) ?_
 clear hH
 rintro _ _ w rfl hH
 refine ⟨an,bQ (by kernel_rfl) ?_⟩
 refine aN (ag (aC (zv (.add ((i+1:Nat):Int)) 7 ?_)))
 refine zv .mv 1 ?_
 refine aD ?_
 have he22:(ac 16).enc (prU (i+1) (boxed (bk ah 256) (unshifted u)) (dRd l f q))=(ac 16).enc (stF (prU i (boxed (bk ah 256) (unshifted u)) (dRd l f q)) ((4*(((i/4)+(i%4))%4))+(i%4)) ((bk ah 256) ((u i).toNat))):=aB (vl (by omega) (vm _ (by omega)))
 replace hH:HH w0 [] [[bl g1 51 ((ac 16).enc (prU (i+1) (boxed (bk ah 256) (unshifted u)) (dRd l f q)))],[bl g2 51 ((ac 16).enc (fun _=>0))],[bl g6 51 ((ac 16).enc u)]] w:=by rw[he22];exact hH
 exact zR1 (i+1) ⟨hH,(by omega)⟩ (by omega)
 refine aJ (ak (ak (aR (aN (ag (aC (zv .mv 15 ?_)))))))
 refine zv (.sub ((((l.length/4+6)-(q+1)):Nat):Int)) 1 ?_
 refine zv .mv 1 ?_
 refine aD ?_
 replace hH:HH w0 [] [[bl g1 51 ((ac 16).enc (prU i (boxed (bk ah 256) (unshifted u)) (dRd l f q)))],[bl g2 51 ((ac 16).enc (fun _=>0))]] w:=hH.only [true,true,false]
 obtain rfl:i=16:=by omega
 have he23:(ac 16).enc (dRd l f (q+1))=(ac 16).enc (prU 16 (boxed (bk ah 256) (unshifted u)) (dRd l f q)):=aB (fun j hj=>(hu j hj).symm.trans (xC _ _ j))
 replace hH:HH w0 [] [[bl g1 51 ((ac 16).enc (dRd l f (q+1)))],[bl g2 51 ((ac 16).enc (fun _=>0))]] w:=by rw[he23];exact hH
 exact zR1 (q+1) ⟨hH,(by omega)⟩ (by omega)
 refine aJ (ak (ak (aR (ag ?_))))
 obtain rfl:q=(l.length/4+6):=by omega
 refine zr (zv .mv 19 ?_)
 refine zs (hH.q 0 rfl) (.l0 (ac 16) (dRd l f (l.length/4+6))) 4 ?_
 refine zc Tryz.func80 (oH g l hk (dRd l f (l.length/4+6)) 0 (by omega)) (hH.oldBlk hR (by simp)) hH 3 ?_
 clear hH
 intro w hH
 refine zW 1 hH rfl (added (dRd l f (l.length/4+6)) (rk (aeW l) 0)) ?_
 clear hH
 intro w hH
 refine zn (ar (aI 1 (hH.blk 1 rfl) rfl rfl (by kernel_rfl) (Cod.size _ _) (by kernel_rfl) ?_))
 exact zE hH
theorem oI{T k:Nat}{X:Nat→UInt8}(hT:T<256)(hk:k<8):upF k (aL X T) X k^^^UInt8.ofNat (T/2^(56-8*k))=aL X T k:=by
 rw[gP]
 unfold aL
 by_cases h:k=7
 ·subst h;rw[if_pos rfl,show 56-8*7=0 from rfl,Nat.pow_zero,Nat.div_one];rfl
 ·rw[if_neg h,Nat.div_eq_of_lt (Nat.lt_of_lt_of_le hT (by
   have:=Nat.pow_le_pow_right (show 0<2 by decide) (show 8≤56-8*k by omega)
   exact this))]
  exact UInt8.xor_zero
theorem rK(X:Nat→UInt8)(T j:Nat):aL X T j=upF 8 (aL X T) X j:=by
 by_cases h:j<8
 ·rw[bz _ _ h]
 ·rw[yK _ _ (by omega)]
  exact if_neg (by omega)
theorem rL{α:Type}{C:Cod α}{w:World}{A:Option Addr}{n c:Nat}{l:List α}(h:Vu C w A n c l)(hA:A=none):n=0∧c=0:=by
 have h1:=h.nil hA
 have h2:=h.cap
 exact ⟨by omega,h1⟩
theorem rM{n j i:Nat}(hi:i<n):(n*j+i)*8%(8*n)=8*i:=by
 rw[Nat.mul_comm,Nat.mul_mod_mul_left,Nat.mul_add_mod,Nat.mod_eq_of_lt hi]
section
variable{o d Q:List UInt8}{A P X:Nat→UInt8}{m k:Nat}
theorem oJ(hol:o.length=8+m)(hA:∀ j,j<8→o[j]?=some (A j))(hP:∀ j,j<m→o[8+j]?=some (P j))(hk:k+8≤m):E16 (ovA 8 (((o.take (8+k+8)).drop (8+k)).take 8) (ovr ((o.take 8).take 8) fun _=>0)) (ca A fun j=>P (k+j)):=fun j hj=>by
 have hl:((o.take (8+k+8)).drop (8+k)).length=8:=by rw[List.length_drop,List.length_take];omega
 rw[show ovA 8 (((o.take (8+k+8)).drop (8+k)).take 8) (ovr ((o.take 8).take 8) fun _=>0) j=ovA 8 (((o.take (8+k+8)).drop (8+k)).take 8) (ovr ((lst 8 A).take 8) fun _=>0) j from ?_,← rB A _ hl j hj]
 ·exact iU (fun _ _=>rfl) (fun j hj=>hJ hP hk j hj) j hj
 ·rw[show o.take 8=lst 8 A from bR (fun j hj=>by rw[List.getElem?_take,if_pos hj];exact hA j hj) (by rw[List.length_take];omega)]
theorem oK(h8:8≤o.length)(hQ:Q=o.take 0++((lst 16 X).take 8++o.drop (0+((lst 16 X).take 8).length))):Q.length=o.length∧(∀ j,j<8→Q[j]?=some (X j)) ∧ ∀ j,Q[8+j]?=o[8+j]?:=by
 have hl:((lst 16 X).take 8).length=8:=by rw[List.length_take,ap];rfl
 rw[List.take_zero,List.nil_append,hl,Nat.zero_add]at hQ
 subst hQ
 refine ⟨by rw[List.length_append,hl,List.length_drop];omega,fun j hj => ?_,fun j => ?_⟩
 ·rw[List.getElem?_append_left (by omega),List.getElem?_take,if_pos hj,bB (by omega)]
 ·rw[List.getElem?_append_right (by omega),hl,List.getElem?_drop]
  congr 1
  omega
theorem mr{a j:Nat}{R:List UInt8}(ha:8≤a)(hj:j<8)(h8:8≤Q.length):(Q.take a++R)[j]?=Q[j]?:=by
 rw[List.getElem?_append_left (by rw[List.length_take];omega),List.getElem?_take,if_pos (by omega)]
theorem lf(hol:Q.length=8+m)(hk:k+8≤m)(h:∀ j,j<m→Q[8+j]?=some (P j))(hX:∀ j,8≤j→X j=A j)(j:Nat)(hj:j<m):
  (Q.take (8+k)++((lst 16 X).drop 8++Q.drop (8+k+((lst 16 X).drop 8).length)))[8+j]?=some (cpy k 8 P (fun j=>A (8+j)) j):=by
 rw[k6 hol hk h j hj]
 unfold cpy
 by_cases hh:k≤j∧j<k+8
 ·rw[if_pos hh,if_pos hh];exact congrArg some (hX _ (by omega))
 ·rw[if_neg hh,if_neg hh]
end
theorem Dg(d:List UInt8):([166,166,166,166,166,166,166,166]++d).length=8+d.length:=by rw[List.length_append];rfl
theorem Ay(d:List UInt8)(j:Nat)(hj:j<8):([166,166,166,166,166,166,166,166]++d)[j]?=some (dq j):=by
 rw[List.getElem?_append_left (by exact hj)]
 rcases (by omega:j=0∨j=1∨j=2∨j=3∨j=4∨j=5∨j=6∨j=7) with rfl | rfl | rfl | rfl | rfl | rfl | rfl | rfl<;>rfl
theorem Az(d:List UInt8)(j:Nat)(hj:j<d.length):([166,166,166,166,166,166,166,166]++d)[8+j]?=some (cutF d 0 j):=by
 rw[List.getElem?_append_right (by exact Nat.le_add_right _ _)]
 show d[8+j-8]?=_
 rw[Nat.add_sub_cancel_left]
 exact gC hj
theorem xD{o:List UInt8}{A P:Nat→UInt8}{m:Nat}(hol:o.length=8+m)(hA:∀ j,j<8→o[j]?=some (A j))(hP:∀ j,j<m→o[8+j]?=some (P j)):o=lst 8 A++lst m P:=by
 rw[← List.take_append_drop 8 o]
 congr 1
 ·exact bR (fun j hj=>by rw[List.getElem?_take,if_pos hj];exact hA j hj) (by rw[List.length_take];omega)
 ·exact bR (fun j hj=>by rw[List.getElem?_drop];exact hP j hj) (by rw[List.length_drop];omega)
theorem xE(A:Option Addr)(z:Nat)(l:List UInt8)(hk:l.length=16∨l.length=32)(B:Option Addr)(y:Nat)(d:List UInt8)(hd:16≤d.length∧d.length≤128)(h8:d.length%8=0):Does Tryz.prog 22 #[(.slice A l.length z),(.slice B d.length y)] [] (fun w=>Vu af w A l.length z l∧Vu af w B d.length y d) (fun v E' => ∃ s,v=.tuple #[s,.int .i64 0]∧OwnT af 5 s (cd l d) E'):=by
 refine dU Tryz.func22 Tryz.ntmps22 ?_
 intro w0 hH hR
 replace hH:HH w0 [] [] w0:=hH.only [false]
 have hlk:=hR.1.len;have hld:=hR.2.len
 refine zr (zv .mv 0 ?_)
 refine zv .mv 1 ?_
 refine zn (zr (zv .mv 3 ?_))
 refine zm hH (.call Tryz.func40 (yD A z l hk)) (hH.vu hR.1 (by decide) (Off.nil _ _)) 1 ?_
 clear hH
 rintro _ _ w ⟨g1,rfl,rfl⟩ hH
 refine zv .mv 1 ?_
 refine zv .ext 0 ?_
 refine zv .ext 2 ?_
 refine zv .mv 2 ?_
 refine zv .mv 2 ?_
 refine zn (aj (zr (zv .mv 1 ?_)))
 refine zv (v:=(.bool false)) (fun _ _ hF=>ej rfl (hF.ev 0 rfl) rfl) 1 ?_
 refine zv .mv 1 ?_
 refine pxV (v:=(.slice B d.length y)) (fun _ _ hF=>bo rfl (hF.ev 2 rfl)) rfl (gOn 0 rfl rfl rfl (by decide)) (kA rfl) (by decide) ?_
 refine pxV (v:=(.int .i64 d.length)) (fun _ _ hF=>fj (e:=5) rfl (by kernel_rfl) (hF.ev 0 rfl)) rfl (gOn 1 rfl rfl rfl (by decide)) (kM [false,true,true,true] rfl rfl) (by decide) ?_
 refine pxV (v:=(.bool false)) (fun _ _ hF=>jv rfl (hF.ev 0 rfl) rfl (decide_eq_false (by omega))) rfl (gOn 1 rfl rfl rfl (by decide)) (kM [false,true,true,true] rfl rfl) (by decide) ?_
 refine zv (v:=(.bool false)) (fun _ _ hF=>cv rfl (hF.ev 1 rfl) (hF.ev 0 rfl)) 3 ?_
 refine zv .mv 1 ?_
 refine pxV (v:=(.slice B d.length y)) (fun _ _ hF=>bo rfl (hF.ev 2 rfl)) rfl (gOn 0 rfl rfl rfl (by decide)) (kA rfl) (by decide) ?_
 refine pxV (v:=(.int .i64 d.length)) (fun _ _ hF=>fj (e:=5) rfl (by kernel_rfl) (hF.ev 0 rfl)) rfl (gOn 1 rfl rfl rfl (by decide)) (kM [false,true,true,true] rfl rfl) (by decide) ?_
 refine pxV (v:=(.bool false)) (fun _ _ hF=>nB rfl (hF.ev 0 rfl) rfl (decide_eq_false (by omega))) rfl (gOn 1 rfl rfl rfl (by decide)) (kM [false,true,true,true] rfl rfl) (by decide) ?_
 refine zv (v:=(.bool false)) (fun _ _ hF=>cv rfl (hF.ev 1 rfl) (hF.ev 0 rfl)) 3 ?_
 refine zv .mv 1 ?_
 refine pxV (v:=(.slice B d.length y)) (fun _ _ hF=>bo rfl (hF.ev 2 rfl)) rfl (gOn 0 rfl rfl rfl (by decide)) (kA rfl) (by decide) ?_
 refine pxV (v:=(.int .i64 d.length)) (fun _ _ hF=>fj (e:=5) rfl (by kernel_rfl) (hF.ev 0 rfl)) rfl (gOn 1 rfl rfl rfl (by decide)) (kM [false,true,true,true] rfl rfl) (by decide) ?_
 refine pxV (v:=(.int .i64 (((d.length%8):Nat):Int))) (fun _ _ hF=>bm (z:=((d.length%8:Nat):Int)) rfl (hF.ev 0 rfl) rfl (by omega) bW) rfl (gOn 1 rfl rfl rfl (by decide)) (kM [false,true,true,true] rfl rfl) (by decide) ?_
 refine pxV (v:=(.bool false)) (fun _ _ hF=>ic rfl (hF.ev 0 rfl) rfl (decide_eq_false (by omega))) rfl (gOn 1 rfl rfl rfl (by decide)) (kM [false,true,true,true] rfl rfl) (by decide) ?_
 refine zv (v:=(.bool false)) (fun _ _ hF=>cv rfl (hF.ev 1 rfl) (hF.ev 0 rfl)) 3 ?_
 refine zn (zF ?_)
 refine aA (ag (zr (zm hH (fun _ hF=>cY (C:=af) (e:=5) (z:=(.int .u8 0)) (by_:=1) [166,166,166,166,166,166,166,166] rfl (by kernel_rfl) (by kernel_rfl) (EvP.cons (v:=af.val 166) rfl (EvP.cons (v:=af.val 166) rfl (EvP.cons (v:=af.val 166) rfl (EvP.cons (v:=af.val 166) rfl (EvP.cons (v:=af.val 166) rfl (EvP.cons (v:=af.val 166) rfl (EvP.cons (v:=af.val 166) rfl (EvP.cons (v:=af.val 166) rfl EvP.nil)))))))) rfl (ltb rfl) (leb rfl) rfl) trivial 1 ?_)))
 clear hH
 rintro _ _ w ⟨g2,rfl,rfl⟩ hH
 refine zv .mv 0 ?_
 refine ze 1 hH rfl (fun _ hF=>cf (C:=af) (l:=[166,166,166,166,166,166,166,166]) (m:=d) (e:=5) (z:=(.int .u8 0)) (by_:=1) rfl (by kernel_rfl) (by kernel_rfl) rfl (ltb rfl) (hF.ev 1 rfl) ((Bk.lits (C:=af) [166,166,166,166,166,166,166,166] (by show 8≤_;unfold maxLen;decide)).own 5 g2 rfl) (hF.ev 0 rfl) rfl (rL hR.2) (by show 8+_≤maxLen;unfold maxLen;omega) (by show (8+_)*1≤_;omega)) (hH.vu hR.2 (by decide) (Off.nil _ _)) 3 ?_
 clear hH
 rintro v5 E6 w ⟨hO7,_⟩ hH
 replace hO7:OwnT af 5 v5 ([166,166,166,166,166,166,166,166]++d) E6:=hO7
 obtain ⟨A3,c4,rfl⟩:=hO7.slice
 refine zv .mv 1 ?_
 refine zn ?_
 have hln:=Dg d
 obtain ⟨g8,cap9,cur10,hv12,rfl,hB11⟩:=hO7.open (by omega)
 obtain ⟨rfl,rfl⟩:A3=some ⟨g8,0,none⟩∧c4=cap9:=by injection hv12 with h1 h2 h3;exact ⟨h1,h3⟩
 have:=hB11.le
 rw[hln]
 refine zr (zv .mv 0 ?_)
 refine zn (aj (zr (zv .mv 0 ?_)))
 refine zn (ai ?_)
 refine zL4 (fun (j:Nat) (t:Nat) (_:List UInt8) (_:Array Value)=>[(39,(.int .i64 j)),(9,(.int .u64 t)),(8,(.slice (some ⟨g8,0,none⟩) (8+d.length) c4)),(6,(.pointer (some ⟨g1,0,none⟩))),(1,(.slice B d.length y))]) (fun j t o cu w=>HH w0 [] [[bl g1 107 (cCi.enc (ah,bk ah 256,(upF (16*(l.length/4+7)) (aeW l) fun _=>0),(l.length/4+6)))],[bl g8 5 cu]] w∧(j≤6)∧(t=(d.length/8)*j)∧(o.length=8+d.length)∧(∀ j,j<8→o[j]?=some ((bv (aeE l) d.length dq (cutF d 0) t).1 j))∧(∀ j,j<d.length→o[8+j]?=some ((bv (aeE l) d.length dq (cutF d 0) t).2 j))∧(Bk af c4 cu o)) (fun j _ _ _=>6-j) 0 0 ([166,166,166,166,166,166,166,166]++d) cur10 ⟨hH,(Nat.zero_le _),(Nat.mul_zero _).symm,hln,(Ay d),(Az d),hB11⟩ ?_
 clear hH
 rintro j t o cu w ⟨hH,hj,ht,hol,hoA,hoP,hB⟩
 refine zr (zv (.lt (j<6)) 0 ?_)
 refine zn (aj ?_)
 refine zP (fun hc13 => ?_) (fun hc13 => ?_)
 refine aA (ag (aj (ai (zr (zv .mv 1 ?_)))))
 refine zn (ai ?_)
 have htb:t+(d.length/8)≤(d.length/8)*6:=by rw[ht,← Nat.mul_succ];exact Nat.mul_le_mul_left _ (by omega)
 refine zL3 (fun (i:Nat) (_:List UInt8) (_:Array Value)=>[(39,(.int .i64 j)),(10,(.int .i64 (((i+1):Nat):Int))),(9,(.int .u64 (((t+i):Nat):Int))),(8,(.slice (some ⟨g8,0,none⟩) (8+d.length) c4)),(6,(.pointer (some ⟨g1,0,none⟩))),(1,(.slice B d.length y))]) (fun i o2 cu2 w=>HH w0 [] [[bl g1 107 (cCi.enc (ah,bk ah 256,(upF (16*(l.length/4+7)) (aeW l) fun _=>0),(l.length/4+6)))],[bl g8 5 cu2]] w∧(i≤(d.length/8))∧(o2.length=8+d.length)∧(∀ j,j<8→o2[j]?=some ((bv (aeE l) d.length dq (cutF d 0) (t+i)).1 j))∧(∀ j,j<d.length→o2[8+j]?=some ((bv (aeE l) d.length dq (cutF d 0) (t+i)).2 j))∧(Bk af c4 cu2 o2)) (fun i _ _=>(d.length/8)-i) 0 o cu ⟨hH,(Nat.zero_le _),hol,hoA,hoP,hB⟩ ?_
 clear hH
 rintro i o2 cu2 w ⟨hH,hi,hol2,hoA2,hoP2,hB2⟩
 refine aj (zr (zv .mv 0 ?_))
 refine zv .mv 0 ?_
 refine zv .len 1 ?_
 refine zv (v:=(.int .i64 (((d.length/8):Nat):Int))) (fun _ _ hF=>cM (z:=((d.length/8:Nat):Int)) rfl (hF.ev 0 rfl) rfl (by omega) (wI dO (by omega) (by omega))) 1 ?_
 refine zv (.le (i+1≤d.length/8)) 3 ?_
 refine zn ?_
 refine zP (fun hc14 => ?_) (fun hc14 => ?_)
 refine aA (ag (aj (ai (zr (zA hH (ac 16) (fun _=>0) 1 ?_)))))
 clear hH
 intro g15 w hH
 refine zn ?_
 have he8:8*(i+1)=8+8*i:=by omega
 refine zx ?_
 replace hH:=hH.drew
 refine rv 0 (v:=(.slice (some ⟨g15,0,none⟩) 16 16)) (fun _ _ hF=>aV (n:=16) (e:=5) (sz:=1) rfl (by kernel_rfl) (by kernel_rfl) (hF.ev 0 rfl)) 0 ?_
 refine rv 1 .mv 0 ?_
 refine rv 2 (v:=(.slice (some ⟨g8,0,none⟩) 8 c4)) (fun _ _ hF=>eY (h:=8) (e:=5) (sz:=1) rfl (by kernel_rfl) (by kernel_rfl) (hF.ev 0 rfl) rfl rfl (by omega)) 1 ?_
 refine ao 3 ?_
 refine re 3 2 hH rfl (fun _ hF=>eg (C:=af) (m:=(o2.take 8)) (e:=5) 8 rfl rfl (by kernel_rfl) (by kernel_rfl) (ltb rfl) (hF.ev 1 rfl) (hF.ev 0 rfl) (by rw[List.length_take];omega) (by rw[Cod.size];show 0+8*1≤16;omega) (gn _ _)) ((hB2.vu (n:=(8+d.length)) (hH.blk 1 rfl) hol2).head (m:=8) (by omega)) 3 (.nil _ []) ?_
 clear hH
 rintro _ _ w ⟨rfl,rfl⟩ hH
 refine ⟨an,rn ?_⟩
 refine zx ?_
 replace hH:=hH.drew
 refine rv 0 (v:=(.slice (some ⟨g15,0+8*1,none⟩) (16-8) (16-8))) (fun _ _ hF=>dh (m:=16) (l:=8) (e:=5) (sz:=1) rfl (by kernel_rfl) (by kernel_rfl) (hF.ev 1 rfl) rfl rfl (by omega)) 1 ?_
 refine rv 1 .mv 0 ?_
 refine rv 2 .mv 0 ?_
 refine rv 3 (.mul ((8*(i+1):Nat):Int)) 1 ?_
 refine rv 4 .mv 0 ?_
 refine rv 5 (.mul ((8*(i+1):Nat):Int)) 1 ?_
 refine rv 6 (.add (((8*(i+1))+8:Nat):Int)) 1 ?_
 refine rv 7 (v:=(.slice (some ⟨g8,0+(8*(i+1))*1,none⟩) (((8*(i+1))+8)-(8*(i+1))) (c4-(8*(i+1))))) (fun _ _ hF=>mA (k:=8*(i+1)) (h:=(8*(i+1))+8) (e:=5) (sz:=1) rfl (by kernel_rfl) (by kernel_rfl) (hF.ev 2 rfl) (hF.ev 1 rfl) (hF.ev 0 rfl) rfl rfl (by omega) (by omega) (by omega)) 7 ?_
 refine ao 8 ?_
 refine re 8 2 hH rfl (fun _ hF=>eg (C:=af) (m:=((o2.take ((8*(i+1))+8)).drop (8*(i+1)))) (e:=5) 8 (show min (8*(i+1)+8-8*(i+1)) (16-8)=8 by omega) rfl (by kernel_rfl) (by kernel_rfl) (ltb rfl) (hF.ev 1 rfl) (hF.ev 0 rfl) (by rw[List.length_drop,List.length_take];omega) (by rw[Cod.size];show 0+8*1+8*1≤16;omega) (ng 8 _ _)) (bu (sz:=1) (b:=g8) (off:=0) (c:=c4) (k:=8*(i+1)) (by omega)▸((hB2.vu (n:=(8+d.length)) (hH.blk 1 rfl) hol2).cut (k:=8*(i+1)) (m:=(8*(i+1))+8) (by omega) (by omega))) 3 (.nil _ []) ?_
 clear hH
 rintro _ _ w ⟨rfl,rfl⟩ hH
 refine ⟨an,rn ?_⟩
 refine zr (zv .mv 1 ?_)
 refine zs (hH.q 2 rfl) (.l0 (ac 16) (ovA 8 (((o2.take ((8*(i+1))+8)).drop (8*(i+1))).take 8) (ovr ((o2.take 8).take 8) (fun _=>0)))) 0 ?_
 refine zc Tryz.func41 (Cd g1 l hk (ovA 8 (((o2.take ((8*(i+1))+8)).drop (8*(i+1))).take 8) (ovr ((o2.take 8).take 8) (fun _=>0)))) (hH.blk 0 rfl) hH 3 ?_
 clear hH
 intro w hH
 refine zW 2 hH rfl (aeE l (ovA 8 (((o2.take ((8*(i+1))+8)).drop (8*(i+1))).take 8) (ovr ((o2.take 8).take 8) (fun _=>0)))) ?_
 clear hH
 intro w hH
 refine zn ?_
 have hat:(t+i)*8%d.length=8*i:=by rw[ht];exact (congrArg (fun q=>((d.length/8)*j+i)*8%q) (show d.length=8*(d.length/8) by omega)).trans (rM (by omega))
 obtain ⟨X,hX⟩:∃ X,X=wrB (aeE l) d.length dq (cutF d 0) (t+i):=⟨_,rfl⟩
 have he16:(ac 16).enc X=(ac 16).enc (aeE l (ovA 8 (((o2.take ((8*(i+1))+8)).drop (8*(i+1))).take 8) (ovr ((o2.take 8).take 8) (fun _=>0)))):=aB (fun j hj=>by rw[hX,he8];unfold wrB;rw[hat];exact (rp l (by unfold aeR;omega) (oJ hol2 hoA2 hoP2 (by omega)) j hj).symm)
 replace hH:HH w0 [] [[bl g1 107 (cCi.enc (ah,bk ah 256,(upF (16*(l.length/4+7)) (aeW l) fun _=>0),(l.length/4+6)))],[bl g8 5 cu2],[bl g15 51 ((ac 16).enc X)]] w:=by rw[he16];exact hH
 refine zr (zv .mv 17 ?_)
 refine zv (v:=(.int .u64 (((t+i+1):Nat):Int))) (fun _ _ hF=>f7 (m:=t+i) (j:=1) (z:=(t+i+1)) rfl rfl (hF.ev 0 rfl) rfl (Nat.mod_eq_of_lt (by show _<18446744073709551616;omega))) 1 ?_
 refine zv .mv 1 ?_
 refine zn (aj (zr (zv .mv 0 ?_)))
 refine zn (ai ?_)
 have he17:(ac 16).enc (upF 0 (aL X (t+i+1)) X)=(ac 16).enc X:=aB (fun j _=>by rw[bw])
 replace hH:HH w0 [] [[bl g1 107 (cCi.enc (ah,bk ah 256,(upF (16*(l.length/4+7)) (aeW l) fun _=>0),(l.length/4+6)))],[bl g8 5 cu2],[bl g15 51 ((ac 16).enc (upF 0 (aL X (t+i+1)) X))]] w:=by rw[he17];exact hH
 refine zL1 (fun (v8:Nat)=>[(66,(.int .i64 v8)),(39,(.int .i64 j)),(11,(.pointer (some ⟨g15,0,none⟩))),(10,(.int .i64 (((i+1):Nat):Int))),(9,(.int .u64 (((t+i+1):Nat):Int))),(8,(.slice (some ⟨g8,0,none⟩) (8+d.length) c4)),(6,(.pointer (some ⟨g1,0,none⟩))),(1,(.slice B d.length y))]) (fun v8 w=>HH w0 [] [[bl g1 107 (cCi.enc (ah,bk ah 256,(upF (16*(l.length/4+7)) (aeW l) fun _=>0),(l.length/4+6)))],[bl g8 5 cu2],[bl g15 51 ((ac 16).enc (upF v8 (aL X (t+i+1)) X))]] w∧(v8≤8)) (fun v8=>8-v8) 0 ⟨hH,(Nat.zero_le _)⟩ ?_
 clear hH
 rintro v8 w ⟨hH,hk8⟩
 refine zr (zv (.lt (v8<8)) 0 ?_)
 refine zn (aj ?_)
 refine zP (fun hc18 => ?_) (fun hc18 => ?_)
 refine aA (ag (aj (ai (zr (zv .mv 1 ?_)))))
 refine zv .mv 1 ?_
 refine zn (br mixedOrders (by kernel_rfl) ?_)
 replace hH:=hH.drew
 refine rv 0 .mv 0 ?_
 refine rv 1 .mv 0 ?_
 have hi19:v8<16:=by omega
 refine rv 2 (.ia 1 16 v8 (hi:=hi19)) 1 ?_
 refine rld 3 (hH.q 2 rfl) (.ld af ((upF v8 (aL X (t+i+1)) X) v8) (fun _ hS=>((ae hS).elt hi19))) 1 ?_
 refine rv 4 .mv 0 ?_
 refine rv 5 .mv 8 ?_
 refine rv 6 (.mul ((8*v8:Nat):Int)) 1 ?_
 refine rv 7 (.sub (((56-8*v8):Nat):Int)) 1 ?_
 refine rv 8 (v:=(.int .u64 ((((t+i+1)/2^(56-8*v8)):Nat):Int))) (fun _ _ hF=>du (n:=56-8*v8) (z:=((t+i+1)/2^(56-8*v8))) rfl (hF.ev 1 rfl) (hF.ev 0 rfl) (by show _≤64;omega) (rfl)) 3 ?_
 refine rv 9 .cb 1 ?_
 refine rv 10 (.xb (((upF v8 (aL X (t+i+1)) X) v8)^^^(UInt8.ofNat ((t+i+1)/2^(56-8*v8)))) (u:=((upF v8 (aL X (t+i+1)) X) v8)) (v:=(UInt8.ofNat ((t+i+1)/2^(56-8*v8))))) 3 ?_
 have hi20:v8<16:=by omega
 refine rv 11 (.ia 1 16 v8 (hi:=hi20)) 2 ?_
 refine ao 12 ?_
 refine re0 12 2 hH rfl (.st af (((upF v8 (aL X (t+i+1)) X) v8)^^^(UInt8.ofNat ((t+i+1)/2^(56-8*v8)))) (aU (S:=sBy) (C:=(ac 16)) rfl hi20) (aQ (upF v8 (aL X (t+i+1)) X) (((upF v8 (aL X (t+i+1)) X) v8)^^^(UInt8.ofNat ((t+i+1)/2^(56-8*v8)))) hi20)) trivial (pgo [] (.nil _ [])) ?_
 clear hH
 rintro _ _ w rfl hH
 refine ⟨an,bQ (by kernel_rfl) ?_⟩
 refine aN (ag (aC (zv (.add ((v8+1:Nat):Int)) 7 ?_)))
 refine zv .mv 1 ?_
 refine aD ?_
 have he21:(ac 16).enc (upF (v8+1) (aL X (t+i+1)) X)=(ac 16).enc (stF (upF v8 (aL X (t+i+1)) X) v8 (((upF v8 (aL X (t+i+1)) X) v8)^^^(UInt8.ofNat ((t+i+1)/2^(56-8*v8))))):=aB (fun j _=>(congrFun (bi v8 _ X (oI (by omega) (by omega))) j).symm)
 replace hH:HH w0 [] [[bl g1 107 (cCi.enc (ah,bk ah 256,(upF (16*(l.length/4+7)) (aeW l) fun _=>0),(l.length/4+6)))],[bl g8 5 cu2],[bl g15 51 ((ac 16).enc (upF (v8+1) (aL X (t+i+1)) X))]] w:=by rw[he21];exact hH
 exact zR1 (v8+1) ⟨hH,(by omega)⟩ (by omega)
 refine aJ (ak (ak (aR (ag ?_))))
 obtain rfl:v8=8:=by omega
 have he22:(ac 16).enc (aL X (t+i+1))=(ac 16).enc (upF 8 (aL X (t+i+1)) X):=aB (fun j _=>rK _ _ j)
 replace hH:HH w0 [] [[bl g1 107 (cCi.enc (ah,bk ah 256,(upF (16*(l.length/4+7)) (aeW l) fun _=>0),(l.length/4+6)))],[bl g8 5 cu2],[bl g15 51 ((ac 16).enc (aL X (t+i+1)))]] w:=by rw[he22];exact hH
 refine zx ?_
 replace hH:=hH.drew
 refine rv 0 .mv 3 ?_
 refine rv 1 (v:=(.slice (some ⟨g8,0,none⟩) 8 c4)) (fun _ _ hF=>eY (h:=8) (e:=5) (sz:=1) rfl (by kernel_rfl) (by kernel_rfl) (hF.ev 0 rfl) rfl rfl (by omega)) 1 ?_
 refine rv 2 (v:=(.slice (some ⟨g15,0,none⟩) 8 16)) (fun _ _ hF=>dW (m:=16) (h:=8) (e:=5) (sz:=1) rfl (by kernel_rfl) (by kernel_rfl) (hF.ev 2 rfl) rfl rfl (by omega)) 0 ?_
 obtain ⟨cur24,hcs25,hB23⟩:∃ cs,bJ cu2 (0) (be af ((lst 16 (aL X (t+i+1))).take 8))=cs∧Bk af c4 cs (o2.take 0++(((lst 16 (aL X (t+i+1))).take 8)++o2.drop (0+((lst 16 (aL X (t+i+1))).take 8).length))):=⟨_,rfl,hB2.copy 0 ((lst 16 (aL X (t+i+1))).take 8) (by rw[List.length_take,ap];show 0+8≤_;omega)⟩
 refine ao 3 ?_
 refine re 3 1 hH rfl (fun _ hF=>ef (C:=af) (m:=((lst 16 (aL X (t+i+1))).take 8)) (e:=5) rfl (by kernel_rfl) (by kernel_rfl) (ltb rfl) (hF.ev 1 rfl) (hF.ev 0 rfl) (by omega) (by rw[List.length_take,ap];rfl) (fE hB2 (k:=0) (n:=8) (by omega)) hcs25) ((bp (hH.blk 2 rfl)).head (m:=8) (by omega)) 3 (.nil _ []) ?_
 clear hH
 rintro _ _ w ⟨rfl,rfl⟩ hH
 refine ⟨an,rn ?_⟩
 obtain ⟨o3,ho3⟩:∃ o3,o3=(o2.take 0++(((lst 16 (aL X (t+i+1))).take 8)++o2.drop (0+((lst 16 (aL X (t+i+1))).take 8).length))):=⟨_,rfl⟩
 rw[← ho3]at hB23
 obtain ⟨hq1,hq2,hq3⟩:=oK (by omega) ho3
 refine br mixedOrders (by kernel_rfl) ?_
 replace hH:=hH.drew
 refine rv 0 .mv 1 ?_
 refine rv 1 .mv 0 ?_
 refine rv 2 (.mul ((8*(i+1):Nat):Int)) 1 ?_
 refine rv 3 (v:=(.slice (some ⟨g8,0+(8*(i+1))*1,none⟩) ((8+d.length)-(8*(i+1))) (c4-(8*(i+1))))) (fun _ _ hF=>eu (k:=8*(i+1)) (e:=5) (sz:=1) rfl (by kernel_rfl) (by kernel_rfl) (hF.ev 1 rfl) (hF.ev 0 rfl) rfl (by omega) (by omega)) 3 ?_
 refine rv 4 (v:=(.slice (some ⟨g15,0+8*1,none⟩) (16-8) (16-8))) (fun _ _ hF=>dh (m:=16) (l:=8) (e:=5) (sz:=1) rfl (by kernel_rfl) (by kernel_rfl) (hF.ev 2 rfl) rfl rfl (by omega)) 4 ?_
 obtain ⟨cur27,hcs28,hB26⟩:∃ cs,bJ cur24 (0+(8*(i+1))*1) (be af ((lst 16 (aL X (t+i+1))).drop 8))=cs∧Bk af c4 cs (o3.take (8*(i+1))++(((lst 16 (aL X (t+i+1))).drop 8)++o3.drop (8*(i+1)+((lst 16 (aL X (t+i+1))).drop 8).length))):=⟨_,rfl,hB23.copy (8*(i+1)) ((lst 16 (aL X (t+i+1))).drop 8) (by rw[List.length_drop,ap];omega)⟩
 refine ao 5 ?_
 refine re 5 1 hH rfl (fun _ hF=>ef (C:=af) (m:=((lst 16 (aL X (t+i+1))).drop 8)) (e:=5) rfl (by kernel_rfl) (by kernel_rfl) (ltb rfl) (hF.ev 1 rfl) (hF.ev 0 rfl) (by omega) (by rw[List.length_drop,ap]) (fE hB23 (k:=8*(i+1)) (n:=16-8) (by omega)) hcs28) (bu (sz:=1) (b:=g15) (off:=0) (c:=16) (k:=8) (by omega)▸((bp (hH.blk 2 rfl)).from (k:=8) (by omega))) 3 (.nil _ []) ?_
 clear hH
 rintro _ _ w ⟨rfl,rfl⟩ hH
 refine ⟨an,bQ (by kernel_rfl) ?_⟩
 refine aN (ag (aC (zv .mv 5 ?_)))
 refine zv (.add (((i+1+1):Nat):Int)) 1 ?_
 refine zv .mv 1 ?_
 refine aD ?_
 replace hH:HH w0 [] [[bl g1 107 (cCi.enc (ah,bk ah 256,(upF (16*(l.length/4+7)) (aeW l) fun _=>0),(l.length/4+6)))],[bl g8 5 cur27]] w:=hH.only [true,true,false]
 have hsu:=k5 (e:=aeE l) (m:=d.length) (A:=dq) (P:=cutF d 0) (t:=t+i)
 rw[hat,← hX]at hsu
 exact zR3 (i+1) (o3.take (8*(i+1))++(((lst 16 (aL X (t+i+1))).drop 8)++o3.drop (8*(i+1)+((lst 16 (aL X (t+i+1))).drop 8).length))) cur27 ⟨hH,(by omega),(by rw[j2 (by omega)];omega),(fun j hj=>by rw[mr (by omega) hj (by omega),hq2 j hj,← Nat.add_assoc,hsu]),(fun j hj=>by rw[← Nat.add_assoc,hsu,he8];exact lf (by omega) (by omega) (fun j hj=>(hq3 j).trans (hoP2 j hj)) (fun j hj=>if_neg (by omega)) j hj),hB26⟩ (by omega)
 refine aJ (ak (ak (aR (aN (ag ?_)))))
 obtain rfl:i=(d.length/8):=by omega
 refine aC (zv (.add ((j+1:Nat):Int)) 7 ?_)
 refine zv .mv 1 ?_
 refine aD ?_
 exact zR4 (j+1) (t+(d.length/8)) o2 cu2 ⟨hH,(by omega),(by rw[ht];exact (Nat.mul_succ _ _).symm),hol2,hoA2,hoP2,hB2⟩ (by omega)
 refine aJ (ak (ak (aR (ag ?_))))
 obtain rfl:j=6:=by omega
 refine zr (zv .mv 63 ?_)
 refine zv .mv 1 ?_
 refine zv .mv 0 ?_
 refine zn (ar (eF 1 0 rfl rfl rfl ?_))
 have hfin:=hB
 rw[xD hol hoA hoP,ht,Nat.mul_comm]at hfin
 exact ⟨_,_,rfl,⟨_,rfl,hfin.own 5 g8 (by rw[List.length_append,ap,ap])⟩,hH.out1 [false,true] rfl⟩
theorem ni{n j q:Nat}(hj:j<6)(hq:q<n):(6*n-(n*j+q)-1)*8%(8*n)=8*(n-q-1):=by
 obtain ⟨r,hr⟩:∃ r,6*n-(n*j+q)-1=n*r+(n-q-1):=by
  rcases (by omega:j=0∨j=1∨j=2∨j=3∨j=4∨j=5) with rfl | rfl | rfl | rfl | rfl | rfl
  ·exact ⟨5,by omega⟩
  ·exact ⟨4,by omega⟩
  ·exact ⟨3,by omega⟩
  ·exact ⟨2,by omega⟩
  ·exact ⟨1,by omega⟩
  ·exact ⟨0,by omega⟩
 rw[hr,rM (by omega)]
theorem te{n j:Nat}(hj:j<6):n*j+n≤6*n:=by
 rw[← Nat.mul_succ,Nat.mul_comm 6 n]
 exact Nat.mul_le_mul_left _ hj
section
variable{o d:List UInt8}{A P:Nat→UInt8}{m k:Nat}
theorem vn(hol:o.length=8+m)(hA:∀ j,j<8→o[j]?=some (A j))(hP:∀ j,j<m→o[8+j]?=some (P j))(hk:k+8≤m)(t:Nat)(Y:Nat→UInt8)(hY:Y=ovA 8 (((o.take (8+k+8)).drop (8+k)).take 8) (ovr ((o.take 8).take 8) fun _=>0)):E16 (aL Y t) (ca (aL A t) fun j=>P (k+j)):=fun j hj=>by
 have h:=oJ hol hA hP hk
 rw[← hY]at h
 unfold aL ca
 by_cases h7:j=7
 ·dsimp only
  rw[if_pos h7,if_pos (by omega),if_pos h7,h 7 (by decide)];rfl
 ·rw[if_neg h7,h j hj]
  unfold ca
  by_cases h8:j<8
  ·dsimp only
   rw[if_pos h8,if_pos h8,if_neg h7]
  ·dsimp only
   rw[if_neg h8,if_neg h8]
theorem Cf(hol:o.length=8+m)(hP:∀ j,j<m→o[8+j]?=some (P j)):o.drop 8=lst m P :=
 bR (fun j hj=>by rw[List.getElem?_drop];exact hP j hj) (by rw[List.length_drop];omega)
theorem xF{i:Nat}{x:UInt8}(hA:∀ j,j<8→o[j]?=some (A j))(hi:i<8)(hx:o[i]?=some x)(hne:x.toNat≠166):lst 8 A≠lst 8 dq:=fun h=>by
 have h1:=congrArg (fun l=>l[i]?) h
 simp only[bB hi]at h1
 rw[hA i hi]at hx
 rw[← Option.some.inj hx,Option.some.inj h1]at hne
 exact hne rfl
end
theorem pV{α:Type}{o:List α}{i:Nat}{c:α}(h:∀ j,j<i→o[j]?=some c)(hx:o[i]?=some c):∀ j,j<i+1→o[j]?=some c:=fun j hj=>by
 by_cases he:j=i
 ·rw[he];exact hx
 ·exact h j (by omega)
theorem ms(A:Option Addr)(z:Nat)(l:List UInt8)(hk:l.length=16∨l.length=32)(B:Option Addr)(y:Nat)(d:List UInt8)(hd:24≤d.length∧d.length≤136)(h8:d.length%8=0):Does Tryz.prog 30 #[(.slice A l.length z),(.slice B d.length y)] [] (fun w=>Vu af w A l.length z l∧Vu af w B d.length y d) (fun v E'=>(unE l d=0 → ∃ g cap cur o,v=.tuple #[.slice (some ⟨g,0+8*1,none⟩) (d.length-8) (cap-8),.int .i64 0]∧E'=[bl g 5 cur]∧Bk af cap cur o∧o.length=d.length∧o.drop 8=unL l d)∧(unE l d≠0→v=.tuple #[.slice none 0 0,.int .i64 5]∧E'=[])):=by
 refine dU Tryz.func30 Tryz.ntmps30 ?_
 intro w0 hH hR
 replace hH:HH w0 [] [] w0:=hH.only [false]
 have hlk:=hR.1.len;have hld:=hR.2.len
 refine zr (zv .mv 0 ?_)
 refine zv .mv 1 ?_
 refine zn (zr (zv .mv 3 ?_))
 refine zm hH (.call Tryz.func40 (yD A z l hk)) (hH.vu hR.1 (by decide) (Off.nil _ _)) 1 ?_
 clear hH
 rintro _ _ w ⟨g1,rfl,rfl⟩ hH
 refine zv .mv 1 ?_
 refine zv .ext 0 ?_
 refine zv .ext 2 ?_
 refine zv .mv 2 ?_
 refine zv .mv 2 ?_
 refine zn (aj (zr (zv .mv 1 ?_)))
 refine zv (v:=(.bool false)) (fun _ _ hF=>ej rfl (hF.ev 0 rfl) rfl) 1 ?_
 refine zv .mv 1 ?_
 refine pxV (v:=(.slice B d.length y)) (fun _ _ hF=>bo rfl (hF.ev 2 rfl)) rfl (gOn 0 rfl rfl rfl (by decide)) (kA rfl) (by decide) ?_
 refine pxV (v:=(.int .i64 d.length)) (fun _ _ hF=>fj (e:=5) rfl (by kernel_rfl) (hF.ev 0 rfl)) rfl (gOn 1 rfl rfl rfl (by decide)) (kM [false,true,true,true] rfl rfl) (by decide) ?_
 refine pxV (v:=(.bool false)) (fun _ _ hF=>jv rfl (hF.ev 0 rfl) rfl (decide_eq_false (by omega))) rfl (gOn 1 rfl rfl rfl (by decide)) (kM [false,true,true,true] rfl rfl) (by decide) ?_
 refine zv (v:=(.bool false)) (fun _ _ hF=>cv rfl (hF.ev 1 rfl) (hF.ev 0 rfl)) 3 ?_
 refine zv .mv 1 ?_
 refine pxV (v:=(.slice B d.length y)) (fun _ _ hF=>bo rfl (hF.ev 2 rfl)) rfl (gOn 0 rfl rfl rfl (by decide)) (kA rfl) (by decide) ?_
 refine pxV (v:=(.int .i64 d.length)) (fun _ _ hF=>fj (e:=5) rfl (by kernel_rfl) (hF.ev 0 rfl)) rfl (gOn 1 rfl rfl rfl (by decide)) (kM [false,true,true,true] rfl rfl) (by decide) ?_
 refine pxV (v:=(.bool false)) (fun _ _ hF=>nB rfl (hF.ev 0 rfl) rfl (decide_eq_false (by omega))) rfl (gOn 1 rfl rfl rfl (by decide)) (kM [false,true,true,true] rfl rfl) (by decide) ?_
 refine zv (v:=(.bool false)) (fun _ _ hF=>cv rfl (hF.ev 1 rfl) (hF.ev 0 rfl)) 3 ?_
 refine zv .mv 1 ?_
 refine pxV (v:=(.slice B d.length y)) (fun _ _ hF=>bo rfl (hF.ev 2 rfl)) rfl (gOn 0 rfl rfl rfl (by decide)) (kA rfl) (by decide) ?_
 refine pxV (v:=(.int .i64 d.length)) (fun _ _ hF=>fj (e:=5) rfl (by kernel_rfl) (hF.ev 0 rfl)) rfl (gOn 1 rfl rfl rfl (by decide)) (kM [false,true,true,true] rfl rfl) (by decide) ?_
 refine pxV (v:=(.int .i64 (((d.length%8):Nat):Int))) (fun _ _ hF=>bm (z:=((d.length%8:Nat):Int)) rfl (hF.ev 0 rfl) rfl (by omega) bW) rfl (gOn 1 rfl rfl rfl (by decide)) (kM [false,true,true,true] rfl rfl) (by decide) ?_
 refine pxV (v:=(.bool false)) (fun _ _ hF=>ic rfl (hF.ev 0 rfl) rfl (decide_eq_false (by omega))) rfl (gOn 1 rfl rfl rfl (by decide)) (kM [false,true,true,true] rfl rfl) (by decide) ?_
 refine zv (v:=(.bool false)) (fun _ _ hF=>cv rfl (hF.ev 1 rfl) (hF.ev 0 rfl)) 3 ?_
 refine zn (zF ?_)
 refine aA (ag (zr (zm hH (fun _ hF=>j8 (e:=5) rfl (by kernel_rfl) (by kernel_rfl)) trivial 1 ?_)))
 clear hH
 rintro _ _ w ⟨g2,rfl,rfl⟩ hH
 refine zv .mv 0 ?_
 refine ze 1 hH rfl (fun _ hF=>cf (C:=af) (l:=[]) (m:=d) (e:=5) (z:=(.int .u8 0)) (by_:=1) rfl (by kernel_rfl) (by kernel_rfl) rfl (ltb rfl) (hF.ev 1 rfl) ((Bk.lit0 (C:=af)).own 5 g2 rfl) (hF.ev 0 rfl) rfl (rL hR.2) (by rw[List.length_nil];unfold maxLen;omega) (by rw[List.length_nil];omega)) (hH.vu hR.2 (by decide) (Off.nil _ _)) 3 ?_
 clear hH
 rintro v5 E6 w ⟨hO7,_⟩ hH
 replace hO7:OwnT af 5 v5 d E6:=hO7
 obtain ⟨A3,c4,rfl⟩:=hO7.slice
 refine zv .mv 1 ?_
 refine zn (zr (zv .mv 4 ?_))
 refine zv .len 1 ?_
 refine zv (v:=(.int .i64 (((d.length/8):Nat):Int))) (fun _ _ hF=>cM (z:=((d.length/8:Nat):Int)) rfl (hF.ev 0 rfl) rfl (by omega) (wI dO (by omega) (by omega))) 1 ?_
 refine zv (.sub ((((d.length/8-1)):Nat):Int)) 1 ?_
 refine zv .mv 1 ?_
 refine zn (zr (zv .mv 0 ?_))
 refine zv (.mul ((6*(d.length/8-1):Nat):Int)) 1 ?_
 refine zv (.cu .u64) 1 ?_
 refine zv .mv 1 ?_
 refine zn (aj ?_)
 obtain ⟨g8,cap9,cur10,hv12,rfl,hB11⟩:=hO7.open (by omega)
 obtain ⟨rfl,rfl⟩:A3=some ⟨g8,0,none⟩∧c4=cap9:=by injection hv12 with h1 h2 h3;exact ⟨h1,h3⟩
 have:=hB11.le
 refine zr (zv .mv 0 ?_)
 refine zn (ai ?_)
 refine zL4 (fun (j:Nat) (k:Nat) (_:List UInt8) (_:Array Value)=>[(48,(.int .i64 j)),(10,(.int .u64 (((6*(d.length/8-1)-k):Nat):Int))),(9,(.int .i64 ((((d.length/8-1)):Nat):Int))),(8,(.slice (some ⟨g8,0,none⟩) d.length c4)),(6,(.pointer (some ⟨g1,0,none⟩)))]) (fun j k o cu w=>HH w0 [] [[bl g1 107 (cCi.enc (ah,bk ah 256,(upF (16*(l.length/4+7)) (aeW l) fun _=>0),(l.length/4+6)))],[bl g8 5 cu]] w∧(j≤6)∧(k=(d.length/8-1)*j)∧(o.length=8+(d.length-8))∧(∀ j,j<8→o[j]?=some ((unR (aeD l) (d.length-8) (6*(d.length/8-1)) (cutF d 0) (cutF d 8) k).1 j))∧(∀ j,j<(d.length-8)→o[8+j]?=some ((unR (aeD l) (d.length-8) (6*(d.length/8-1)) (cutF d 0) (cutF d 8) k).2 j))∧(Bk af c4 cu o)) (fun j _ _ _=>6-j) 0 0 d cur10 ⟨hH,(Nat.zero_le _),(Nat.mul_zero _).symm,(by omega),(fun j hj=>gC (by omega)),(fun j hj=>j3 (by omega)),hB11⟩ ?_
 clear hH
 rintro j k o cu w ⟨hH,hj,hkj,hol,hoA,hoP,hB⟩
 refine zr (zv (.lt (j<6)) 0 ?_)
 refine zn (aj ?_)
 refine zP (fun hc13 => ?_) (fun hc13 => ?_)
 refine aA (ag (aj (ai (zr (zv .mv 1 ?_)))))
 refine zv .mv 1 ?_
 refine zn (ai ?_)
 have htb:k+(d.length/8-1)≤6*(d.length/8-1):=by rw[hkj];exact te (by omega)
 refine zL3 (fun (q:Nat) (_:List UInt8) (_:Array Value)=>[(48,(.int .i64 j)),(11,(.int .i64 ((((d.length/8-1)-q):Nat):Int))),(10,(.int .u64 (((6*(d.length/8-1)-(k+q)):Nat):Int))),(9,(.int .i64 ((((d.length/8-1)):Nat):Int))),(8,(.slice (some ⟨g8,0,none⟩) d.length c4)),(6,(.pointer (some ⟨g1,0,none⟩)))]) (fun q o2 cu2 w=>HH w0 [] [[bl g1 107 (cCi.enc (ah,bk ah 256,(upF (16*(l.length/4+7)) (aeW l) fun _=>0),(l.length/4+6)))],[bl g8 5 cu2]] w∧(q≤(d.length/8-1))∧(o2.length=8+(d.length-8))∧(∀ j,j<8→o2[j]?=some ((unR (aeD l) (d.length-8) (6*(d.length/8-1)) (cutF d 0) (cutF d 8) (k+q)).1 j))∧(∀ j,j<(d.length-8)→o2[8+j]?=some ((unR (aeD l) (d.length-8) (6*(d.length/8-1)) (cutF d 0) (cutF d 8) (k+q)).2 j))∧(Bk af c4 cu2 o2)) (fun q _ _=>(d.length/8-1)-q) 0 o cu ⟨hH,(Nat.zero_le _),hol,hoA,hoP,hB⟩ ?_
 clear hH
 rintro q o2 cu2 w ⟨hH,hq,hol2,hoA2,hoP2,hB2⟩
 refine aj (zr (zv .mv 0 ?_))
 refine zv (.ge ((d.length/8-1)-q ≥ 1)) 1 ?_
 refine zn ?_
 refine zP (fun hc14 => ?_) (fun hc14 => ?_)
 refine aA (ag (aj (ai (zr (zA hH (ac 16) (fun _=>0) 1 ?_)))))
 clear hH
 intro g15 w hH
 refine zn ?_
 have he8:8*((d.length/8-1)-q)=8+8*((d.length/8-1)-q-1):=by omega
 refine zx ?_
 replace hH:=hH.drew
 refine rv 0 (v:=(.slice (some ⟨g15,0,none⟩) 16 16)) (fun _ _ hF=>aV (n:=16) (e:=5) (sz:=1) rfl (by kernel_rfl) (by kernel_rfl) (hF.ev 0 rfl)) 0 ?_
 refine rv 1 .mv 0 ?_
 refine rv 2 (v:=(.slice (some ⟨g8,0,none⟩) 8 c4)) (fun _ _ hF=>eY (h:=8) (e:=5) (sz:=1) rfl (by kernel_rfl) (by kernel_rfl) (hF.ev 0 rfl) rfl rfl (by omega)) 1 ?_
 refine ao 3 ?_
 refine re 3 2 hH rfl (fun _ hF=>eg (C:=af) (m:=(o2.take 8)) (e:=5) 8 rfl rfl (by kernel_rfl) (by kernel_rfl) (ltb rfl) (hF.ev 1 rfl) (hF.ev 0 rfl) (by rw[List.length_take];omega) (by rw[Cod.size];show 0+8*1≤16;omega) (gn _ _)) ((hB2.vu (n:=d.length) (hH.blk 1 rfl) (hol2.trans (by omega))).head (m:=8) (by omega)) 3 (.nil _ []) ?_
 clear hH
 rintro _ _ w ⟨rfl,rfl⟩ hH
 refine ⟨an,rn ?_⟩
 refine zx ?_
 replace hH:=hH.drew
 refine rv 0 (v:=(.slice (some ⟨g15,0+8*1,none⟩) (16-8) (16-8))) (fun _ _ hF=>dh (m:=16) (l:=8) (e:=5) (sz:=1) rfl (by kernel_rfl) (by kernel_rfl) (hF.ev 1 rfl) rfl rfl (by omega)) 1 ?_
 refine rv 1 .mv 0 ?_
 refine rv 2 .mv 0 ?_
 refine rv 3 (.mul ((8*((d.length/8-1)-q):Nat):Int)) 1 ?_
 refine rv 4 .mv 0 ?_
 refine rv 5 (.mul ((8*((d.length/8-1)-q):Nat):Int)) 1 ?_
 refine rv 6 (.add (((8*((d.length/8-1)-q))+8:Nat):Int)) 1 ?_
 refine rv 7 (v:=(.slice (some ⟨g8,0+(8*((d.length/8-1)-q))*1,none⟩) (((8*((d.length/8-1)-q))+8)-(8*((d.length/8-1)-q))) (c4-(8*((d.length/8-1)-q))))) (fun _ _ hF=>mA (k:=8*((d.length/8-1)-q)) (h:=(8*((d.length/8-1)-q))+8) (e:=5) (sz:=1) rfl (by kernel_rfl) (by kernel_rfl) (hF.ev 2 rfl) (hF.ev 1 rfl) (hF.ev 0 rfl) rfl rfl (by omega) (by omega) (by omega)) 7 ?_
 refine ao 8 ?_
 refine re 8 2 hH rfl (fun _ hF=>eg (C:=af) (m:=((o2.take ((8*((d.length/8-1)-q))+8)).drop (8*((d.length/8-1)-q)))) (e:=5) 8 (show min (8*((d.length/8-1)-q)+8-8*((d.length/8-1)-q)) (16-8)=8 by omega) rfl (by kernel_rfl) (by kernel_rfl) (ltb rfl) (hF.ev 1 rfl) (hF.ev 0 rfl) (by rw[List.length_drop,List.length_take];omega) (by rw[Cod.size];show 0+8*1+8*1≤16;omega) (ng 8 _ _)) (bu (sz:=1) (b:=g8) (off:=0) (c:=c4) (k:=8*((d.length/8-1)-q)) (by omega)▸((hB2.vu (n:=d.length) (hH.blk 1 rfl) (hol2.trans (by omega))).cut (k:=8*((d.length/8-1)-q)) (m:=(8*((d.length/8-1)-q))+8) (by omega) (by omega))) 3 (.nil _ []) ?_
 clear hH
 rintro _ _ w ⟨rfl,rfl⟩ hH
 refine ⟨an,rn ?_⟩
 refine aj ?_
 obtain ⟨Y,hY⟩:∃ Y,Y=(ovA 8 (((o2.take ((8*((d.length/8-1)-q))+8)).drop (8*((d.length/8-1)-q))).take 8) (ovr ((o2.take 8).take 8) (fun _=>0))):=⟨_,rfl⟩
 have he16:(ac 16).enc Y=(ac 16).enc (ovA 8 (((o2.take ((8*((d.length/8-1)-q))+8)).drop (8*((d.length/8-1)-q))).take 8) (ovr ((o2.take 8).take 8) (fun _=>0))):=aB (fun j hj=>by rw[hY])
 replace hH:HH w0 [] [[bl g1 107 (cCi.enc (ah,bk ah 256,(upF (16*(l.length/4+7)) (aeW l) fun _=>0),(l.length/4+6)))],[bl g8 5 cu2],[bl g15 51 ((ac 16).enc Y)]] w:=by rw[he16];exact hH
 refine zr (zv .mv 1 ?_)
 refine zn (ai ?_)
 have he17:(ac 16).enc (upF 0 (aL Y (6*(d.length/8-1)-(k+q))) Y)=(ac 16).enc Y:=aB (fun j _=>by rw[bw])
 replace hH:HH w0 [] [[bl g1 107 (cCi.enc (ah,bk ah 256,(upF (16*(l.length/4+7)) (aeW l) fun _=>0),(l.length/4+6)))],[bl g8 5 cu2],[bl g15 51 ((ac 16).enc (upF 0 (aL Y (6*(d.length/8-1)-(k+q))) Y))]] w:=by rw[he17];exact hH
 refine zL1 (fun (v8:Nat)=>[(68,(.int .i64 v8)),(48,(.int .i64 j)),(12,(.pointer (some ⟨g15,0,none⟩))),(11,(.int .i64 ((((d.length/8-1)-q):Nat):Int))),(10,(.int .u64 (((6*(d.length/8-1)-(k+q)):Nat):Int))),(9,(.int .i64 ((((d.length/8-1)):Nat):Int))),(8,(.slice (some ⟨g8,0,none⟩) d.length c4)),(6,(.pointer (some ⟨g1,0,none⟩)))]) (fun v8 w=>HH w0 [] [[bl g1 107 (cCi.enc (ah,bk ah 256,(upF (16*(l.length/4+7)) (aeW l) fun _=>0),(l.length/4+6)))],[bl g8 5 cu2],[bl g15 51 ((ac 16).enc (upF v8 (aL Y (6*(d.length/8-1)-(k+q))) Y))]] w∧(v8≤8)) (fun v8=>8-v8) 0 ⟨hH,(Nat.zero_le _)⟩ ?_
 clear hH
 rintro v8 w ⟨hH,hk8⟩
 refine zr (zv (.lt (v8<8)) 0 ?_)
 refine zn (aj ?_)
 refine zP (fun hc18 => ?_) (fun hc18 => ?_)
 refine aA (ag (aj (ai (zr (zv .mv 1 ?_)))))
 refine zv .mv 1 ?_
 refine zn (br mixedOrders (by kernel_rfl) ?_)
 replace hH:=hH.drew
 refine rv 0 .mv 0 ?_
 refine rv 1 .mv 0 ?_
 have hi19:v8<16:=by omega
 refine rv 2 (.ia 1 16 v8 (hi:=hi19)) 1 ?_
 refine rld 3 (hH.q 2 rfl) (.ld af ((upF v8 (aL Y (6*(d.length/8-1)-(k+q))) Y) v8) (fun _ hS=>((ae hS).elt hi19))) 1 ?_
 refine rv 4 .mv 0 ?_
 refine rv 5 .mv 8 ?_
 refine rv 6 (.mul ((8*v8:Nat):Int)) 1 ?_
 refine rv 7 (.sub (((56-8*v8):Nat):Int)) 1 ?_
 refine rv 8 (v:=(.int .u64 ((((6*(d.length/8-1)-(k+q))/2^(56-8*v8)):Nat):Int))) (fun _ _ hF=>du (n:=56-8*v8) (z:=((6*(d.length/8-1)-(k+q))/2^(56-8*v8))) rfl (hF.ev 1 rfl) (hF.ev 0 rfl) (by show _≤64;omega) (rfl)) 3 ?_
 refine rv 9 .cb 1 ?_
 refine rv 10 (.xb (((upF v8 (aL Y (6*(d.length/8-1)-(k+q))) Y) v8)^^^(UInt8.ofNat ((6*(d.length/8-1)-(k+q))/2^(56-8*v8)))) (u:=((upF v8 (aL Y (6*(d.length/8-1)-(k+q))) Y) v8)) (v:=(UInt8.ofNat ((6*(d.length/8-1)-(k+q))/2^(56-8*v8))))) 3 ?_
 have hi20:v8<16:=by omega
 refine rv 11 (.ia 1 16 v8 (hi:=hi20)) 2 ?_
 refine ao 12 ?_
 refine re0 12 2 hH rfl (.st af (((upF v8 (aL Y (6*(d.length/8-1)-(k+q))) Y) v8)^^^(UInt8.ofNat ((6*(d.length/8-1)-(k+q))/2^(56-8*v8)))) (aU (S:=sBy) (C:=(ac 16)) rfl hi20) (aQ (upF v8 (aL Y (6*(d.length/8-1)-(k+q))) Y) (((upF v8 (aL Y (6*(d.length/8-1)-(k+q))) Y) v8)^^^(UInt8.ofNat ((6*(d.length/8-1)-(k+q))/2^(56-8*v8)))) hi20)) trivial (pgo [] (.nil _ [])) ?_
 clear hH
 rintro _ _ w rfl hH
 refine ⟨an,bQ (by kernel_rfl) ?_⟩
 refine aN (ag (aC (zv (.add ((v8+1:Nat):Int)) 7 ?_)))
 refine zv .mv 1 ?_
 refine aD ?_
 have he21:(ac 16).enc (upF (v8+1) (aL Y (6*(d.length/8-1)-(k+q))) Y)=(ac 16).enc (stF (upF v8 (aL Y (6*(d.length/8-1)-(k+q))) Y) v8 (((upF v8 (aL Y (6*(d.length/8-1)-(k+q))) Y) v8)^^^(UInt8.ofNat ((6*(d.length/8-1)-(k+q))/2^(56-8*v8))))):=aB (fun j _=>(congrFun (bi v8 _ Y (oI (by omega) (by omega))) j).symm)
 replace hH:HH w0 [] [[bl g1 107 (cCi.enc (ah,bk ah 256,(upF (16*(l.length/4+7)) (aeW l) fun _=>0),(l.length/4+6)))],[bl g8 5 cu2],[bl g15 51 ((ac 16).enc (upF (v8+1) (aL Y (6*(d.length/8-1)-(k+q))) Y))]] w:=by rw[he21];exact hH
 exact zR1 (v8+1) ⟨hH,(by omega)⟩ (by omega)
 refine aJ (ak (ak (aR (ag ?_))))
 obtain rfl:v8=8:=by omega
 have he22:(ac 16).enc (aL Y (6*(d.length/8-1)-(k+q)))=(ac 16).enc (upF 8 (aL Y (6*(d.length/8-1)-(k+q))) Y):=aB (fun j _=>rK _ _ j)
 replace hH:HH w0 [] [[bl g1 107 (cCi.enc (ah,bk ah 256,(upF (16*(l.length/4+7)) (aeW l) fun _=>0),(l.length/4+6)))],[bl g8 5 cu2],[bl g15 51 ((ac 16).enc (aL Y (6*(d.length/8-1)-(k+q))))]] w:=by rw[he22];exact hH
 refine zr (zv .mv 35 ?_)
 refine zv (v:=(.int .u64 (((6*(d.length/8-1)-(k+(q+1))):Nat):Int))) (fun _ _ hF=>f8 (m:=6*(d.length/8-1)-(k+q)) (j:=1) (z:=(6*(d.length/8-1)-(k+(q+1)))) rfl rfl (hF.ev 0 rfl) rfl (by show 1≤18446744073709551616;omega) (by show (6*(d.length/8-1)-(k+q)+(18446744073709551616-1))%18446744073709551616=_;omega)) 1 ?_
 refine zv .mv 1 ?_
 refine zn (zr (zv .mv 0 ?_))
 refine zs (hH.q 2 rfl) (.l0 (ac 16) (aL Y (6*(d.length/8-1)-(k+q)))) 0 ?_
 refine zc Tryz.func50 (Ce g1 l hk (aL Y (6*(d.length/8-1)-(k+q)))) (hH.blk 0 rfl) hH 3 ?_
 clear hH
 intro w hH
 refine zW 2 hH rfl (aeD l (aL Y (6*(d.length/8-1)-(k+q)))) ?_
 clear hH
 intro w hH
 refine zn ?_
 have hat:(6*(d.length/8-1)-(k+q)-1)*8%(d.length-8)=8*((d.length/8-1)-q-1):=by rw[hkj];exact (congrArg (fun p=>(6*(d.length/8-1)-((d.length/8-1)*j+q)-1)*8%p) (show (d.length-8)=8*(d.length/8-1) by omega)).trans (ni (by omega) (by omega))
 obtain ⟨X,hX⟩:∃ X,X=aeD l (ca (aL (unR (aeD l) (d.length-8) (6*(d.length/8-1)) (cutF d 0) (cutF d 8) (k+q)).1 (6*(d.length/8-1)-(k+q))) fun j=>(unR (aeD l) (d.length-8) (6*(d.length/8-1)) (cutF d 0) (cutF d 8) (k+q)).2 (8*((d.length/8-1)-q-1)+j)):=⟨_,rfl⟩
 have he23:(ac 16).enc X=(ac 16).enc (aeD l (aL Y (6*(d.length/8-1)-(k+q)))):=aB (fun j hj=>by rw[hX];exact (j0 l (vn hol2 hoA2 hoP2 (by omega) _ Y (by rw[hY,he8])) j hj).symm)
 replace hH:HH w0 [] [[bl g1 107 (cCi.enc (ah,bk ah 256,(upF (16*(l.length/4+7)) (aeW l) fun _=>0),(l.length/4+6)))],[bl g8 5 cu2],[bl g15 51 ((ac 16).enc X)]] w:=by rw[he23];exact hH
 refine zx ?_
 replace hH:=hH.drew
 refine rv 0 .mv 1 ?_
 refine rv 1 (v:=(.slice (some ⟨g8,0,none⟩) 8 c4)) (fun _ _ hF=>eY (h:=8) (e:=5) (sz:=1) rfl (by kernel_rfl) (by kernel_rfl) (hF.ev 0 rfl) rfl rfl (by omega)) 1 ?_
 refine rv 2 (v:=(.slice (some ⟨g15,0,none⟩) 8 16)) (fun _ _ hF=>dW (m:=16) (h:=8) (e:=5) (sz:=1) rfl (by kernel_rfl) (by kernel_rfl) (hF.ev 3 rfl) rfl rfl (by omega)) 0 ?_
 obtain ⟨cur25,hcs26,hB24⟩:∃ cs,bJ cu2 (0) (be af ((lst 16 X).take 8))=cs∧Bk af c4 cs (o2.take 0++(((lst 16 X).take 8)++o2.drop (0+((lst 16 X).take 8).length))):=⟨_,rfl,hB2.copy 0 ((lst 16 X).take 8) (by rw[List.length_take,ap];show 0+8≤_;omega)⟩
 refine ao 3 ?_
 refine re 3 1 hH rfl (fun _ hF=>ef (C:=af) (m:=((lst 16 X).take 8)) (e:=5) rfl (by kernel_rfl) (by kernel_rfl) (ltb rfl) (hF.ev 1 rfl) (hF.ev 0 rfl) (by omega) (by rw[List.length_take,ap];rfl) (fE hB2 (k:=0) (n:=8) (by omega)) hcs26) ((bp (hH.blk 2 rfl)).head (m:=8) (by omega)) 3 (.nil _ []) ?_
 clear hH
 rintro _ _ w ⟨rfl,rfl⟩ hH
 refine ⟨an,rn ?_⟩
 obtain ⟨o3,ho3⟩:∃ o3,o3=(o2.take 0++(((lst 16 X).take 8)++o2.drop (0+((lst 16 X).take 8).length))):=⟨_,rfl⟩
 rw[← ho3]at hB24
 obtain ⟨hq1,hq2,hq3⟩:=oK (by omega) ho3
 refine br mixedOrders (by kernel_rfl) ?_
 replace hH:=hH.drew
 refine rv 0 .mv 1 ?_
 refine rv 1 .mv 0 ?_
 refine rv 2 (.mul ((8*((d.length/8-1)-q):Nat):Int)) 1 ?_
 refine rv 3 (v:=(.slice (some ⟨g8,0+(8*((d.length/8-1)-q))*1,none⟩) (d.length-(8*((d.length/8-1)-q))) (c4-(8*((d.length/8-1)-q))))) (fun _ _ hF=>eu (k:=8*((d.length/8-1)-q)) (e:=5) (sz:=1) rfl (by kernel_rfl) (by kernel_rfl) (hF.ev 1 rfl) (hF.ev 0 rfl) rfl (by omega) (by omega)) 3 ?_
 refine rv 4 (v:=(.slice (some ⟨g15,0+8*1,none⟩) (16-8) (16-8))) (fun _ _ hF=>dh (m:=16) (l:=8) (e:=5) (sz:=1) rfl (by kernel_rfl) (by kernel_rfl) (hF.ev 3 rfl) rfl rfl (by omega)) 8 ?_
 obtain ⟨cur28,hcs29,hB27⟩:∃ cs,bJ cur25 (0+(8*((d.length/8-1)-q))*1) (be af ((lst 16 X).drop 8))=cs∧Bk af c4 cs (o3.take (8*((d.length/8-1)-q))++(((lst 16 X).drop 8)++o3.drop (8*((d.length/8-1)-q)+((lst 16 X).drop 8).length))):=⟨_,rfl,hB24.copy (8*((d.length/8-1)-q)) ((lst 16 X).drop 8) (by rw[List.length_drop,ap];omega)⟩
 refine ao 5 ?_
 refine re 5 1 hH rfl (fun _ hF=>ef (C:=af) (m:=((lst 16 X).drop 8)) (e:=5) rfl (by kernel_rfl) (by kernel_rfl) (ltb rfl) (hF.ev 1 rfl) (hF.ev 0 rfl) (by omega) (by rw[List.length_drop,ap]) (fE hB24 (k:=8*((d.length/8-1)-q)) (n:=16-8) (by omega)) hcs29) (bu (sz:=1) (b:=g15) (off:=0) (c:=16) (k:=8) (by omega)▸((bp (hH.blk 2 rfl)).from (k:=8) (by omega))) 3 (.nil _ []) ?_
 clear hH
 rintro _ _ w ⟨rfl,rfl⟩ hH
 refine ⟨an,bQ (by kernel_rfl) ?_⟩
 refine aN (ag (aC (zv .mv 9 ?_)))
 refine zv (.sub ((((d.length/8-1)-(q+1)):Nat):Int)) 1 ?_
 refine zv .mv 1 ?_
 refine aD ?_
 replace hH:HH w0 [] [[bl g1 107 (cCi.enc (ah,bk ah 256,(upF (16*(l.length/4+7)) (aeW l) fun _=>0),(l.length/4+6)))],[bl g8 5 cur28]] w:=hH.only [true,true,false]
 have hsu:unR (aeD l) (d.length-8) (6*(d.length/8-1)) (cutF d 0) (cutF d 8) (k+q+1)=(X,cpy (8*((d.length/8-1)-q-1)) 8 (unR (aeD l) (d.length-8) (6*(d.length/8-1)) (cutF d 0) (cutF d 8) (k+q)).2 fun j=>X (8+j)):=by rw[iT,hX];unfold unB;rw[hat]
 exact zR3 (q+1) (o3.take (8*((d.length/8-1)-q))++(((lst 16 X).drop 8)++o3.drop (8*((d.length/8-1)-q)+((lst 16 X).drop 8).length))) cur28 ⟨hH,(by omega),(by rw[j2 (by omega)];omega),(fun j hj=>by rw[mr (by omega) hj (by omega),hq2 j hj,← Nat.add_assoc,hsu]),(fun j hj=>by rw[← Nat.add_assoc,hsu,he8];exact lf (by omega) (by omega) (fun j hj=>(hq3 j).trans (hoP2 j hj)) (fun j hj=>rfl) j hj),hB27⟩ (by omega)
 refine aJ (ak (ak (aR (aN (ag ?_)))))
 obtain rfl:q=(d.length/8-1):=by omega
 refine aC (zv (.add ((j+1:Nat):Int)) 7 ?_)
 refine zv .mv 1 ?_
 refine aD ?_
 exact zR4 (j+1) (k+(d.length/8-1)) o2 cu2 ⟨hH,(by omega),(by rw[hkj];exact (Nat.mul_succ _ _).symm),hol2,hoA2,hoP2,hB2⟩ (by omega)
 refine aJ (ak (ak (aR (ag (aj ?_)))))
 obtain rfl:j=6:=by omega
 obtain rfl:k=6*(d.length/8-1):=by rw[hkj,Nat.mul_comm]
 have hN:unS l d=unR (aeD l) (d.length-8) (6*(d.length/8-1)) (cutF d 0) (cutF d 8) (6*(d.length/8-1)):=by unfold unS;rw[show 6*((d.length-8)/8)=6*(d.length/8-1) by omega]
 rw[← hN]at hoA hoP
 refine zr (zv .mv 47 ?_)
 refine zn (ai ?_)
 refine zL1 (fun (i:Nat)=>[(100,(.int .i64 i)),(8,(.slice (some ⟨g8,0,none⟩) d.length c4))]) (fun i w=>HH w0 [] [[bl g1 107 (cCi.enc (ah,bk ah 256,(upF (16*(l.length/4+7)) (aeW l) fun _=>0),(l.length/4+6)))],[bl g8 5 cu]] w∧(i≤8)∧(∀ j,j<i→o[j]?=some 166)) (fun i=>8-i) 0 ⟨hH,(Nat.zero_le _),(fun j hj=>absurd hj (Nat.not_lt_zero _))⟩ ?_
 clear hH
 rintro i w ⟨hH,hi,h166⟩
 refine zr (zv (.lt (i<8)) 0 ?_)
 refine zn (aj ?_)
 refine zP (fun hc30 => ?_) (fun hc30 => ?_)
 refine aA (ag (aj (ai (zr (zv .mv 1 ?_)))))
 refine zv .mv 1 ?_
 refine zn (zr (zv .mv 0 ?_))
 refine zv .mv 2 ?_
 have hi31:i<d.length:=by omega
 have hj34:i<o.length:=by first | exact hi31 | (simp only[List.length_drop];omega) | (simp only[List.length_drop,List.length_take];omega) | omega
 obtain ⟨x32,hx33⟩:=ck o i hj34
 have hb35:=UInt8.toNat_lt x32
 refine zv (.ix 1 i (hi:=hi31)) 3 ?_
 refine zs (hH.q 1 rfl) (.ld af x32 (fun _ hS=>((hB.holdsL hS) i _ hx33))) 1 ?_
 refine zv (.ne (x32.toNat≠166)) 1 ?_
 refine zn ?_
 refine zP (fun hc36 => ?_) (fun hc36 => ?_)
 refine zr (zv .mv 7 ?_)
 refine zv .mv 0 ?_
 refine zn (ar (qf ?_))
 refine bj ?_
 refine bj ?_
 refine qf ?_
 refine bj ?_
 refine eF 1 0 rfl rfl rfl ?_
 have hn:=xF hoA (by omega) hx33 hc36
 have he:unE l d=5:=if_neg hn
 exact ⟨_,_,rfl,⟨fun h=>absurd h (by rw[he];decide),fun _=>⟨rfl,rfl⟩⟩,HH.out (HH.pad hH 1) [false,false,true]⟩
 refine aA (aN (ag (aC (zv (.add ((i+1:Nat):Int)) 3 ?_))))
 refine zv .mv 1 ?_
 refine aD ?_
 exact zR1 (i+1) ⟨hH,(by omega),(pV h166 (hx33.trans (congrArg some (j5 (n:=166) (Decidable.not_not.1 hc36)))))⟩ (by omega)
 refine aJ (ak (ak (aR (ag (zr (zv .mv 7 ?_))))))
 refine zv (v:=(.slice (some ⟨g8,0+8*1,none⟩) (d.length-8) (c4-8))) (fun _ _ hF=>eu (k:=8) (e:=5) (sz:=1) rfl (by kernel_rfl) (by kernel_rfl) (hF.ev 0 rfl) rfl rfl (by omega) (by omega)) 1 ?_
 refine zv .mv 1 ?_
 refine zv .mv 0 ?_
 refine zn (ar (eF 1 0 rfl rfl rfl ?_))
 have hz:lst 8 (unS l d).1=lst 8 dq:=gp fun j hj=>by have h1:=(hoA j hj).symm.trans (h166 j (by omega));exact Option.some.inj h1
 have he:unE l d=0:=if_pos hz
 have hl:unL l d=lst (d.length-8) (unS l d).2:=if_pos hz
 exact ⟨_,_,rfl,⟨fun _=>⟨g8,_,_,o,rfl,rfl,hB,by omega,by rw[hl];exact Cf hol hoP⟩,fun h=>absurd he h⟩,hH.out1 [false,true] rfl⟩
end Go.Proofs.YtajppfmjbkebfaaGreatDoor
