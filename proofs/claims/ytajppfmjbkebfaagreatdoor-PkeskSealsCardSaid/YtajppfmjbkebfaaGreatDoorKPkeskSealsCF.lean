/- What the claim leans on, part 6: plain theorems, and walks of functions of the program and of the document. -/
import Derived.Test.YtajppfmjbkebfaaGreatDoorKPkeskSealsCE
import Derived.Test.YtajppfmjbkebfaaGreatDoorKPkeskSealsCB
import Derived.Test.YtajppfmjbkebfaaGreatDoorKPkeskSealsCC
import Derived.Test.YtajppfmjbkebfaaGreatDoorKPkeskSealsCD
import Derived.Test.YtajppfmjbkebfaaGreatDoorKPkeskSealsCA
set_option maxHeartbeats 8000000
namespace Go.Proofs.YtajppfmjbkebfaaGreatDoor
open Go Go.RowKit
set_option maxRecDepth 100000
theorem wD {g o o':Nat} (h:o=o'):(some ⟨g,o,none⟩:Option Addr)=some ⟨g,o',none⟩:=by rw [h]
theorem n5 {A A':Option Addr} {n n' c c':Nat} (hA:A=A') (hn:n=n') (hc:c=c'):Value.slice A n c=.slice A' n' c':=by rw [hA,hn,hc]
theorem jL {t n:Nat} (h0:0<n) (h8:n%8=0):t*8%n+8≤n:=by
 obtain ⟨q,rfl⟩:∃ q,n=8*q:=⟨n / 8,by omega⟩
 rw [Nat.mul_comm t 8,Nat.mul_mod_mul_left]
 have:=Nat.mod_lt t (show 0<q by omega)
 omega
theorem qT (a:Nat→UInt8) (d:List UInt8) (hd:d.length=8) (j:Nat) (_:j<16):cp a (ai d 0) j=ovA 8 (d.take 8) (ovr ((lst 8 a).take 8) fun _=>0) j:=by
 unfold cp ovA
 rw [List.length_take,hd]
 by_cases h:j<8
 ·rw [if_pos h,if_neg (by omega)]
  unfold ovr
  rw [List.length_take,ao,if_pos (by omega),List.getD_eq_getElem?_getD,List.getElem?_take,if_pos h,bs h]
  rfl
 ·rw [if_neg h,if_pos (by omega),List.getD_eq_getElem?_getD,List.getElem?_take,if_pos (by omega)]
  unfold ai
  rw [Nat.zero_add,List.getD_eq_getElem?_getD]
theorem qU (A:Option Addr) (n c:Nat) (hk:n=16 ∨ n=32):Pure Tryz.prog 54 #[(.slice A n c)] (fun _=>True) (.bool true):=by
 refine pU Tryz.func54 Tryz.ntmps54 ?_
 intro w0 hH hR
 refine zr (zv .mv 0 ?_)
 refine zn (zr (zv .mv 1 ?_))
 refine zv .len 1 ?_
 refine zv (.eq (n=16)) 1 ?_
 refine zv .mv 1 ?_
 refine gY 0 rfl (l1:=[(6,(.bool true)),(0,(.slice A n c))]) (l2:=[(6,(.bool false)),(0,(.slice A n c))]) rfl rfl (fun hg1 => ?_) (fun hg1 => ?_)
 refine pxU rfl (gA 0 rfl rfl rfl (by decide)) (kM [true,false] rfl rfl) (by decide) ?_
 refine pxU rfl (gA 0 rfl rfl rfl (by decide)) (kA rfl) (by decide) ?_
 refine pxU rfl (gA 0 rfl rfl rfl (by decide)) (kA rfl) (by decide) ?_
 refine zv (v:=(.bool true)) (fun _ _ hF=>ce rfl (hF.ev 0 rfl) rfl) 1 ?_
 refine zv .mv 1 ?_
 refine zn (au (aZ 0 rfl rfl ?_))
 exact ⟨rfl,HH.toBelow hH⟩
 refine pxV (v:=(.slice A n c)) (fun _ _ hF=>bo rfl (hF.ev 1 rfl)) rfl (gOn 0 rfl rfl rfl (by decide)) (kM [true,false] rfl rfl) (by decide) ?_
 refine pxV (v:=(.int .i64 n)) (fun _ _ hF=>gr (e:=5) rfl (by kernel_rfl) (hF.ev 0 rfl)) rfl (gOn 1 rfl rfl rfl (by decide)) (kM [false,true] rfl rfl) (by decide) ?_
 refine pxV (v:=(.bool true)) (fun _ _ hF=>dH rfl (hF.ev 0 rfl) rfl (decide_eq_true (by omega))) rfl (gOn 1 rfl rfl rfl (by decide)) (kM [false,true] rfl rfl) (by decide) ?_
 refine zv (v:=(.bool true)) (fun _ _ hF=>dt rfl (hF.ev 1 rfl) (hF.ev 0 rfl)) 3 ?_
 refine zv .mv 1 ?_
 refine zn (au (aZ 0 rfl rfl ?_))
 exact ⟨rfl,HH.toBelow hH⟩
theorem xQ (m:Nat) (h1:16≤m) (h2:m≤128) (h8:m%8=0):Pure Tryz.prog 55 #[(.int .i64 m)] (fun _=>True) (.bool true):=by
 refine pU Tryz.func55 Tryz.ntmps55 ?_
 intro w0 hH hR
 refine zr (zv .mv 0 ?_)
 refine zn (zr (zv .mv 1 ?_))
 refine zv (v:=(.bool true)) (fun _ _ hF=>fC rfl (hF.ev 0 rfl) rfl (decide_eq_true (by omega))) 1 ?_
 refine zv .mv 1 ?_
 refine pxV (v:=(.int .i64 m)) (fun _ _ hF=>bo rfl (hF.ev 1 rfl)) rfl (gOn 0 rfl rfl rfl (by decide)) (kA rfl) (by decide) ?_
 refine pxV (v:=(.bool true)) (fun _ _ hF=>xe rfl (hF.ev 0 rfl) rfl (decide_eq_true (by omega))) rfl (gOn 1 rfl rfl rfl (by decide)) (kM [false,true,true] rfl rfl) (by decide) ?_
 refine zv (v:=(.bool true)) (fun _ _ hF=>ce rfl (hF.ev 1 rfl) (hF.ev 0 rfl)) 3 ?_
 refine zv .mv 1 ?_
 refine pxV (v:=(.int .i64 m)) (fun _ _ hF=>bo rfl (hF.ev 1 rfl)) rfl (gOn 0 rfl rfl rfl (by decide)) (kM [true,false] rfl rfl) (by decide) ?_
 refine pxV (v:=(.int .i64 (((m%8):Nat):Int))) (fun _ _ hF=>bu (z:=((m%8:Nat):Int)) rfl (hF.ev 0 rfl) rfl (by omega) cy) rfl (gOn 1 rfl rfl rfl (by decide)) (kM [false,true] rfl rfl) (by decide) ?_
 refine pxV (v:=(.bool true)) (fun _ _ hF=>dH rfl (hF.ev 0 rfl) rfl (decide_eq_true (by omega))) rfl (gOn 1 rfl rfl rfl (by decide)) (kM [false,true] rfl rfl) (by decide) ?_
 refine zv (v:=(.bool true)) (fun _ _ hF=>ce rfl (hF.ev 1 rfl) (hF.ev 0 rfl)) 3 ?_
 refine zv .mv 1 ?_
 refine zn (au (aZ 0 rfl rfl ?_))
 exact ⟨rfl,HH.toBelow hH⟩
theorem qV  : Pure Tryz.prog 57 #[] (fun _=>True) ((ae 8).val (fun _=>166)):=by
 refine pU Tryz.func57 Tryz.ntmps57 ?_
 intro w0 hH hR
 refine zr (zm hH (.al (ae 8) (fun _=>0)) trivial 0 ?_)
 clear hH
 rintro _ _ w ⟨g1,rfl,rfl⟩ hH
 refine zn (zr (zv (v:=((ae 8).val (fun _=>166))) (fun _ _ hF=>aG (cells:=(ae 8).enc (fun _=>166)) (vals:=[(0,(.int .u8 166)),(1,(.int .u8 166)),(2,(.int .u8 166)),(3,(.int .u8 166)),(4,(.int .u8 166)),(5,(.int .u8 166)),(6,(.int .u8 166)),(7,(.int .u8 166))]) rfl (EvP.cons (v:=(.int .u8 166)) rfl (EvP.cons (v:=(.int .u8 166)) rfl (EvP.cons (v:=(.int .u8 166)) rfl (EvP.cons (v:=(.int .u8 166)) rfl (EvP.cons (v:=(.int .u8 166)) rfl (EvP.cons (v:=(.int .u8 166)) rfl (EvP.cons (v:=(.int .u8 166)) rfl (EvP.cons (v:=(.int .u8 166)) rfl EvP.nil)))))))) (by kernel_rfl) _) 0 ?_))
 refine ze0 0 hH rfl (.sw (ae 8) (fun _=>0) (fun _=>166)) trivial ?_
 clear hH
 rintro _ _ w rfl hH
 refine zn (au (aH 1 (hH.blk 0 rfl) rfl rfl (by kernel_rfl) (Cod.size _ _) (by kernel_rfl) ?_))
 exact ⟨rfl,HH.toBelow hH⟩
theorem qW (A:Option Addr) (n c:Nat) (hn:n≤1000):Pure Tryz.prog 58 #[(.slice A n c)] (fun _=>True) (.int .i64 (((6*(n / 8)):Nat):Int)):=by
 refine pU Tryz.func58 Tryz.ntmps58 ?_
 intro w0 hH hR
 refine zr (zv .mv 0 ?_)
 refine zn (zr (zv .mv 3 ?_))
 refine zv .len 1 ?_
 refine zv (v:=(.int .i64 (((n / 8):Nat):Int))) (fun _ _ hF=>de (z:=((n / 8:Nat):Int)) rfl (hF.ev 0 rfl) rfl (by omega) (wI ej (by omega) (by omega))) 1 ?_
 refine zv (.mul ((6*(n / 8):Nat):Int)) 1 ?_
 refine zv .mv 1 ?_
 refine zn (au (aZ 0 rfl rfl ?_))
 exact ⟨rfl,HH.toBelow hH⟩
theorem n6 (A:Option Addr) (n c t:Nat) (h0:0<n∧n≤1000∧n≤c) (h8:n%8=0) (ht:t≤10000):Pure Tryz.prog 59 #[(.int .i64 (((t+1):Nat):Int)),(.slice A n c)] (fun _=>True) (.slice (ey A c (t*8%n) 1) (t*8%n+8 - t*8%n) (c - t*8%n)):=by
 refine pU Tryz.func59 Tryz.ntmps59 ?_
 intro w0 hH hR
 refine zr (zv .mv 0 ?_)
 refine zn (zr (zv .mv 3 ?_))
 refine zv (.sub ((t:Nat):Int)) 1 ?_
 refine zv (.mul ((t*8:Nat):Int)) 1 ?_
 refine zv .mv 0 ?_
 refine zv .len 1 ?_
 refine zv (v:=(.int .i64 ((((t*8)%n):Nat):Int))) (fun _ _ hF=>bu (z:=(((t*8)%n:Nat):Int)) rfl (hF.ev 1 rfl) (hF.ev 0 rfl) (by omega) cy) 3 ?_
 refine zv .mv 1 ?_
 refine zn ?_
 have hat:=jL (t:=t) h0.1 h8
 refine zr (zv .mv 2 ?_)
 refine zv .mv 0 ?_
 refine zv .mv 4 ?_
 refine zv (.add ((((t*8)%n)+8:Nat):Int)) 1 ?_
 refine zv (v:=(.slice (ey A c ((t*8)%n) 1) ((((t*8)%n)+8) - ((t*8)%n)) (c - ((t*8)%n)))) (fun _ _ hF=>l8 (k:=(t*8)%n) (h:=((t*8)%n)+8) (e:=5) (sz:=1) rfl (by kernel_rfl) (by kernel_rfl) (hF.ev 2 rfl) (hF.ev 1 rfl) (hF.ev 0 rfl) rfl rfl (by omega) (by omega)) 7 ?_
 refine zv .mv 1 ?_
 refine zn (au (aZ 0 rfl rfl ?_))
 exact ⟨rfl,HH.toBelow hH⟩
theorem uy (a:Nat→UInt8) (A:Option Addr) (n c:Nat) (d:List UInt8) (h8:n=8):Pure Tryz.prog 61 #[((ae 8).val a),(.slice A n c)] (fun w=>Vu af w A n c d) ((ae 16).val (cp a (ai d 0))):=by
 refine pU Tryz.func61 Tryz.ntmps61 ?_
 intro w0 hH hR
 have hn:=hR.len
 refine zr (zm hH (.bx (ae 8) a) trivial 1 ?_)
 clear hH
 rintro _ _ w ⟨g1,rfl,rfl⟩ hH
 refine zm hH (.al (ae 16) (fun _=>0)) trivial 0 ?_
 clear hH
 rintro _ _ w ⟨g2,rfl,rfl⟩ hH
 refine zn (zr (zm hH (.al (ae 16) (fun _=>0)) trivial 0 ?_))
 clear hH
 rintro _ _ w ⟨g3,rfl,rfl⟩ hH
 refine zn (zx ?_)
 replace hH:=hH.drew
 refine rv 0 (v:=(.slice (some ⟨g3,0,none⟩) 16 16)) (fun _ _ hF=>aY (n:=16) (e:=5) (sz:=1) rfl (by kernel_rfl) (by kernel_rfl) (hF.ev 0 rfl)) 0 ?_
 refine rv 1 (v:=(.slice (some ⟨g1,0,none⟩) 8 8)) (fun _ _ hF=>aY (n:=8) (e:=5) (sz:=1) rfl (by kernel_rfl) (by kernel_rfl) (hF.ev 3 rfl)) 8 ?_
 refine rx1k 2 ?_
 refine re 2 2 hH rfl (fun _ hF=>eM (C:=af) (m:=(lst 8 a)) (e:=5) 8 rfl rfl (by kernel_rfl) (by kernel_rfl) (ltb rfl) (hF.ev 1 rfl) (hF.ev 0 rfl) (ao _ _) (by rw [Cod.size]; show 0+8*1≤16; omega) (hJ _ _)) (bp (hH.blk 0 rfl)) 3 (.nil _ []) ?_
 clear hH
 rintro _ _ w ⟨rfl,rfl⟩ hH
 refine ⟨an,rn ?_⟩
 refine zr (zv (v:=(.slice (some ⟨g3,0+8*1,none⟩) (16 - 8) (16 - 8))) (fun _ _ hF=>dC (m:=16) (l:=8) (e:=5) (sz:=1) rfl (by kernel_rfl) (by kernel_rfl) (hF.ev 1 rfl) rfl rfl (by omega)) 1 ?_)
 refine zv .mv 8 ?_
 refine ze 2 hH rfl (fun _ hF=>eM (C:=af) (m:=d) (e:=5) 8 (show min n 8=8 by omega) rfl (by kernel_rfl) (by kernel_rfl) (ltb rfl) (hF.ev 1 rfl) (hF.ev 0 rfl) hn (by rw [Cod.size]; show 0+8*1+8*1≤16; omega) (qS 8 _ _)) (hH.vu hR (by decide) (Off.nil _ _)) 3 ?_
 clear hH
 rintro _ _ w ⟨rfl,rfl⟩ hH
 refine zn ?_
 have he4:(ae 16).enc (cp a (ai d 0))=(ae 16).enc (ovA 8 (d.take 8) (ovr ((lst 8 a).take 8) (fun _=>0))):=aB (qT a d (by omega))
 replace hH:HH w0 [] [[bl g1 84 ((ae 8).enc a)],[bl g2 51 ((ae 16).enc (fun _=>0))],[bl g3 51 ((ae 16).enc (cp a (ai d 0)))]] w:=by rw [he4]; exact hH
 refine zr (zs (hH.q 2 rfl) (.ld (ae 16) (cp a (ai d 0)) (fun _=>ac)) 3 ?_)
 refine ze0 1 hH rfl (.sw (ae 16) (fun _=>0) (cp a (ai d 0))) trivial ?_
 clear hH
 rintro _ _ w rfl hH
 refine zn (au (aH 1 (hH.blk 1 rfl) rfl rfl (by kernel_rfl) (Cod.size _ _) (by kernel_rfl) ?_))
 exact ⟨rfl,HH.toBelow hH⟩
theorem lV (a:Nat→UInt8) (s:Nat):Pure Tryz.prog 62 #[((ae 8).val a),(.int .i64 s)] (fun _=>True) ((ae 8).val (aT a s)):=by
 refine pU Tryz.func62 Tryz.ntmps62 ?_
 intro w0 hH hR
 refine zr (zm hH (.bx (ae 8) a) trivial 1 ?_)
 clear hH
 rintro _ _ w ⟨g1,rfl,rfl⟩ hH
 refine zm hH (.al (ae 8) (fun _=>0)) trivial 0 ?_
 clear hH
 rintro _ _ w ⟨g2,rfl,rfl⟩ hH
 refine zn (zr ?_)
 have hi3:7<8:=by omega
 refine zv (.ia 1 8 7 (hi:=hi3)) 0 ?_
 refine zs (hH.q 0 rfl) (.ld af (a 7) (fun _ hS=>((ac hS).elt hi3))) 1 ?_
 refine zv .mv 8 ?_
 refine zv .cb 1 ?_
 refine zv (.xb ((a 7) ^^^ (UInt8.ofNat s)) (u:=(a 7)) (v:=(UInt8.ofNat s))) 3 ?_
 have hi4:7<8:=by omega
 refine zv (.ia 1 8 7 (hi:=hi4)) 0 ?_
 refine ze0 0 hH rfl (.st af ((a 7) ^^^ (UInt8.ofNat s)) (aW (S:=sBy) (C:=(ae 8)) rfl hi4) (aQ a ((a 7) ^^^ (UInt8.ofNat s)) hi4)) trivial ?_
 clear hH
 rintro _ _ w rfl hH
 refine zn (zr (zs (hH.q 0 rfl) (.ld (ae 8) (stF a 7 ((a 7) ^^^ (UInt8.ofNat s))) (fun _=>ac)) 11 ?_))
 refine ze0 1 hH rfl (.sw (ae 8) (fun _=>0) (stF a 7 ((a 7) ^^^ (UInt8.ofNat s)))) trivial ?_
 clear hH
 rintro _ _ w rfl hH
 refine zn (au (aH 1 (hH.blk 1 rfl) rfl rfl (by kernel_rfl) (Cod.size _ _) (by kernel_rfl) ?_))
 exact ⟨rfl,HH.toBelow hH⟩
section
variable {e d':(Nat→UInt8)→Nat→UInt8} {m t k:Nat} {A P B:Nat→UInt8} {o:List UInt8}
def wrB (e:(Nat→UInt8)→Nat→UInt8) (m:Nat) (A P:Nat→UInt8) (t:Nat):Nat→UInt8:=e (cp (br e m A P t).1 fun j=>(br e m A P t).2 (t*8%m+j))
theorem ky:br e m A P (t+1)=(aT (wrB e m A P t) (t+1),cpy (t*8%m) 8 (br e m A P t).2 fun j=>wrB e m A P t (8+j)):=rfl
def unB (e:(Nat→UInt8)→Nat→UInt8) (m N:Nat) (A P:Nat→UInt8) (k:Nat):Nat→UInt8:=e (cp (aT (unR e m N A P k).1 (N - k)) fun j=>(unR e m N A P k).2 ((N - k - 1)*8%m+j))
theorem kz {N:Nat}:unR e m N A P (k+1)=(unB e m N A P k,cpy ((N - k - 1)*8%m) 8 (unR e m N A P k).2 fun j=>unB e m N A P k (8+j)):=rfl
theorem iG {A A' P Q:Nat→UInt8} (hA:∀ j,j<8→A j=A' j) (h:∀ j,j<8→P j=Q j):E16 (cp A P) (cp A' Q):=fun j hj=>by
 unfold cp
 by_cases h8:j<8
 ·rw [if_pos h8,if_pos h8,hA j h8]
 ·rw [if_neg h8,if_neg h8,h _ (by omega)]
theorem uz {o:List UInt8} {b k j:Nat} (hj:j<8):ai ((o.take (b+k+8)).drop (b+k)) 0 j=o.getD (b+(k+j)) 0:=by
 unfold ai
 rw [List.getD_eq_getElem?_getD,List.getElem?_drop,List.getElem?_take,if_pos (by omega),List.getD_eq_getElem?_getD]
 congr 2
 omega
theorem gQ {b:Nat} (h:∀ j,j<m→o[b+j]?=some (P j)) (hk:k+8≤m) (j:Nat) (hj:j<8):ai ((o.take (b+k+8)).drop (b+k)) 0 j=P (k+j):=by
 rw [uz hj,List.getD_eq_getElem?_getD,h _ (by omega)]
 rfl
theorem n7 (h:∀ j,j<m→o[j]?=some (P j)) (hk:k+8≤m) (j:Nat) (hj:j<8):ai ((o.take (k+8)).drop k) 0 j=P (k+j):=by
 have:=gQ (b:=0) (fun j hj=>by rw [Nat.zero_add]; exact h j hj) hk j hj
 rwa [Nat.zero_add] at this
theorem kC {b:Nat} (hol:o.length=b+m) (hk:k+8≤m) (h:∀ j,j<m→o[b+j]?=some (P j)) (j:Nat) (hj:j<m) :
  (o.take (b+k)++((lst 16 B).drop 8++o.drop (b+k+((lst 16 B).drop 8).length)))[b+j]?=some (cpy k 8 P (fun j=>B (8+j)) j):=by
 have hl:((lst 16 B).drop 8).length=8:=by rw [List.length_drop,ao]
 unfold cpy
 by_cases h1:j<k
 ·rw [List.getElem?_append_left (by rw [List.length_take]; omega),List.getElem?_take,if_pos (by omega),if_neg (by omega),h j hj]
 ·rw [List.getElem?_append_right (by rw [List.length_take]; omega),List.length_take,Nat.min_eq_left (by omega)]
  by_cases h2:j<k+8
  ·rw [List.getElem?_append_left (by omega),List.getElem?_drop,bs (by omega),if_pos (by omega)]
   congr 2
   omega
  ·rw [List.getElem?_append_right (by omega),hl,List.getElem?_drop,if_neg (by omega),← h j hj]
   congr 1
   omega
theorem sy (hol:o.length=m) (hk:k+8≤m) (h:∀ j,j<m→o[j]?=some (P j)) (j:Nat) (hj:j<m) :
  (o.take k++((lst 16 B).drop 8++o.drop (k+((lst 16 B).drop 8).length)))[j]?=some (cpy k 8 P (fun j=>B (8+j)) j):=by
 have:=kC (o:=o) (b:=0) (B:=B) (by omega) hk (fun j hj=>by rw [Nat.zero_add]; exact h j hj) j hj
 rwa [Nat.zero_add,Nat.zero_add] at this
theorem mN {b:Nat} (hb:b+8≤o.length):(o.take b++((lst 16 B).drop 8++o.drop (b+((lst 16 B).drop 8).length))).length=o.length:=by
 have hl:((lst 16 B).drop 8).length=8:=by rw [List.length_drop,ao]
 rw [List.length_append,List.length_append,hl,List.length_take,List.length_drop]
 omega
theorem pi (B:Nat→UInt8) (t j:Nat) (hj:j<8):aT B t j=aT (ai ((lst 16 B).take 8) 0) t j:=fB (fun i hi=>by
 unfold ai
 rw [Nat.zero_add,List.getD_eq_getElem?_getD,List.getElem?_take,if_pos hi,bs (by omega)]
 rfl) t j hj
theorem Bp (B:Nat→UInt8) (j:Nat) (hj:j<8):B j=ai ((lst 16 B).take 8) 0 j:=by
 unfold ai
 rw [Nat.zero_add,List.getD_eq_getElem?_getD,List.getElem?_take,if_pos hj,bs (by omega)]
 rfl
theorem uA (hol:o.length=8+m) (h:∀ j,j<m→o[8+j]?=some (P j)):o.take 0++(lst 8 A++o.drop (0+(lst 8 A).length))=lst 8 A++lst m P:=by
 rw [List.take_zero,List.nil_append,ao]
 congr 1
 exact co (fun j hj=>by rw [List.getElem?_drop]; exact h j hj) (by rw [List.length_drop]; omega)
end
def dq:Nat→UInt8:=fun _=>166
def wrS (l d:List UInt8):(Nat→UInt8)×(Nat→UInt8):=br (aeE l) d.length dq (ai d 0) (6*(d.length / 8))
def bW (l d:List UInt8):List UInt8:=lst 8 (wrS l d).1++lst d.length (wrS l d).2
def unS (l d:List UInt8):(Nat→UInt8)×(Nat→UInt8):=unR (aeD l) (d.length - 8) (6*((d.length - 8) / 8)) (ai d 0) (ai d 8) (6*((d.length - 8) / 8))
def unE (l d:List UInt8):Nat:=if lst 8 (unS l d).1=lst 8 dq then 0 else 5
def unL (l d:List UInt8):List UInt8:=if lst 8 (unS l d).1=lst 8 dq then lst (d.length - 8) (unS l d).2 else []
theorem n8 {e:(Nat→UInt8)→Nat→UInt8} (he:∀ x y,E16 x y→E16 (e x) (e y)) {m N:Nat} {A A' P P':Nat→UInt8} (h0:0<m) (h8:m%8=0) (hA:∀ j,j<8→A j=A' j) (hP:∀ j,j<m→P j=P' j):∀ k,zq m (unR e m N A P k) (unR e m N A' P' k)
 | 0=>⟨hA,hP⟩
 | k+1=>by
  have ih:=n8 he (N:=N) h0 h8 hA hP k
  have hat:=jL (t:=N - k - 1) h0 h8
  have hB:E16 (unB e m N A P k) (unB e m N A' P' k):=he _ _ (iG (fun j hj=>fB ih.1 _ j hj) (fun j hj=>ih.2 _ (by omega)))
  rw [kz,kz]
  refine ⟨fun j hj=>hB j (by omega),fun j hj => ?_⟩
  dsimp only
  unfold cpy
  by_cases h:(N - k - 1)*8%m≤j∧j<(N - k - 1)*8%m+8
  ·rw [if_pos h,if_pos h]; exact hB _ (by omega)
  ·rw [if_neg h,if_neg h,ih.2 j hj]
theorem kE (l d:List UInt8) (h0:0<d.length) (h8:d.length%8=0):unE l (bW l d)=0∧unL l (bW l d)=d:=by
 have hlen:(bW l d).length=8+d.length:=by unfold bW; rw [List.length_append,ao,ao]
 have hm:(bW l d).length - 8=d.length:=by omega
 have hu:=n4 (e:=aeE l) (d:=aeD l) (fun x y h=>mJ l h) (fun x=>wA l x) d.length (6*(d.length / 8)) h8 h0 dq (ai d 0)
 have hA:∀ j,j<8→ai (bW l d) 0 j=(wrS l d).1 j:=fun j hj=>by
  unfold ai bW
  rw [Nat.zero_add,List.getD_eq_getElem?_getD,List.getElem?_append_left (by rw [ao]; omega),bs hj]
  rfl
 have hP:∀ j,j<d.length→ai (bW l d) 8 j=(wrS l d).2 j:=fun j hj=>by
  unfold ai bW
  rw [List.getD_eq_getElem?_getD,List.getElem?_append_right (by rw [ao]; omega),ao,bs (by omega),show 8+j - 8=j by omega]
  rfl
 have hc:zq d.length (unS l (bW l d)) (unR (aeD l) d.length (6*(d.length / 8)) (wrS l d).1 (wrS l d).2 (6*(d.length / 8))):=by
  have:=n8 (e:=aeD l) (fun x y h=>mJ l h) (N:=6*(d.length / 8)) h0 h8 hA hP (6*(d.length / 8))
  unfold unS
  rw [hm]
  exact this
 have h1:lst 8 (unS l (bW l d)).1=lst 8 dq:=eu fun j hj=>(hc.1 j hj).trans (hu.1 j hj)
 unfold unE unL
 rw [if_pos h1,if_pos h1,hm]
 refine ⟨rfl,(co (fun j hj => ?_) rfl).symm⟩
 rw [hc.2 j hj,show (unR (aeD l) d.length (6*(d.length / 8)) (wrS l d).1 (wrS l d).2 (6*(d.length / 8))).2 j=_ from hu.2 j hj]
 unfold ai
 rw [Nat.zero_add,List.getD_eq_getElem?_getD,List.getElem?_eq_getElem hj]
 rfl
theorem i7 {d:List UInt8} {j:Nat} (hj:j<d.length):d[j]?=some (ai d 0 j):=by
 unfold ai
 rw [Nat.zero_add,List.getD_eq_getElem?_getD,List.getElem?_eq_getElem hj]
 rfl
theorem zC (A:Option Addr) (z:Nat) (l:List UInt8) (hk:l.length=16 ∨ l.length=32) (B:Option Addr) (y:Nat) (d:List UInt8) (hd:16≤d.length∧d.length≤128) (h8:d.length%8=0):Does Tryz.prog 32 #[(.slice A l.length z),(.slice B d.length y)] [] (fun w=>w.heap[0]?=some (.cells ((ae 256).enc ag) 103 (0,0))∧Vu af w A l.length z l∧Vu af w B d.length y d) (fun v E' => ∃ s,v=.tuple #[s,.int .i64 0]∧OwnT af 5 s (bW l d) E'):=by
 refine dU Tryz.func32 Tryz.ntmps32 ?_
 intro w0 hH hR
 replace hH:HH w0 [] [] w0:=hH.only [false]
 have hlk:=hR.2.1.len; have hld:=hR.2.2.len
 refine zr (zv .mv 0 ?_)
 refine zv .mv 1 ?_
 refine zn (ak (zr (zv .mv 1 ?_)))
 refine zc Tryz.func54 (qU A l.length z hk) trivial hH 1 ?_
 clear hH
 intro w hH
 refine zv (v:=(.bool false)) (fun _ _ hF=>el rfl (hF.ev 0 rfl) rfl) 1 ?_
 refine zv .mv 1 ?_
 refine pxV (v:=(.slice B d.length y)) (fun _ _ hF=>bo rfl (hF.ev 2 rfl)) rfl (gOn 0 rfl rfl rfl (by decide)) (kA rfl) (by decide) ?_
 refine pxV (v:=(.int .i64 d.length)) (fun _ _ hF=>gr (e:=5) rfl (by kernel_rfl) (hF.ev 0 rfl)) rfl (gOn 1 rfl rfl rfl (by decide)) (kM [false,true,true,true] rfl rfl) (by decide) ?_
 refine pxM hH (fun _ hF=>Does.small ((xQ d.length (by omega) (by omega) (by omega)).does) (fun w=>om rfl Tryz.func55 rfl rfl (Evs.cons (v:=(.int .i64 d.length)) (hF.ev 0 rfl) Evs.nil) w)) trivial rfl (gOn 1 rfl rfl rfl (by decide)) (kM [false,true,true,true] rfl rfl) (by decide) ?_
 clear hH
 rintro _ _ w ⟨rfl,rfl⟩ hH
 replace hH:HH w0 [] [] w:=hH.unpad
 refine pxV (v:=(.bool false)) (fun _ _ hF=>el rfl (hF.ev 0 rfl) rfl) rfl (gOn 1 rfl rfl rfl (by decide)) (kM [false,true,true,true] rfl rfl) (by decide) ?_
 refine zv (v:=(.bool false)) (fun _ _ hF=>dt rfl (hF.ev 1 rfl) (hF.ev 0 rfl)) 3 ?_
 refine zn (zF ?_)
 refine av (ah (zr (zv .mv 3 ?_)))
 refine zm hH (.call Tryz.func56 (ju A z l hk)) (⟨(hH.oldBlk hR.1 (by simp)),(hH.vu hR.2.1 (by decide) (Off.nil _ _))⟩) 1 ?_
 clear hH
 rintro v E3 w hO4 hH
 replace hO4:OwnT (ae 16) 51 v (aeK l) E3:=hO4
 obtain ⟨A1,c2,rfl⟩:=hO4.slice
 refine zv .mv 1 ?_
 refine zn (zr (zc Tryz.func57 (qV ) trivial hH 0 ?_))
 clear hH
 intro w hH
 refine zm hH (.al (ae 8) (fun _=>0)) trivial 0 ?_
 clear hH
 rintro _ _ w ⟨g5,rfl,rfl⟩ hH
 refine ze0 1 hH rfl (.sw (ae 8) (fun _=>0) (fun _=>166)) trivial ?_
 clear hH
 rintro _ _ w rfl hH
 refine zn (zr (zv .mv 2 ?_))
 refine zv .len 1 ?_
 refine zv (.add ((8+d.length:Nat):Int)) 1 ?_
 refine zm hH (fun _ hF=>fT (e:=5) (n:=8+d.length) (sz:=1) (by_:=1) (z:=(.int .u8 0)) (cs:=madeCells (af.enc 0) ((8+d.length)*1)) rfl (by kernel_rfl) (by kernel_rfl) (hF.ev 0 rfl) (hF.ev 0 rfl) rfl rfl (by omega) (by omega) rfl) trivial 1 ?_
 clear hH
 rintro _ _ w ⟨g6,rfl,rfl⟩ hH
 refine zv .mv 1 ?_
 refine zn (zr (zv .mv 0 ?_))
 refine zv (v:=(.slice (some ⟨g6,0+8*1,none⟩) ((8+d.length) - 8) ((8+d.length) - 8))) (fun _ _ hF=>fV (k:=8) (e:=5) (sz:=1) rfl (by kernel_rfl) (by kernel_rfl) (hF.ev 0 rfl) rfl rfl (by omega) (by omega)) 1 ?_
 refine zv .mv 1 ?_
 refine zn ?_
 rw [show 8+d.length - 8=d.length by omega]
 refine zr (zv .mv 0 ?_)
 refine zv .mv 32 ?_
 obtain ⟨cur8,hcs9,hB7⟩:∃ cs,bJ (madeCells (af.enc 0) ((8+d.length)*1)) (0+8*1) (bi af d)=cs∧Bk af (8+d.length) cs ((List.replicate (8+d.length) 0).take 8++(d++(List.replicate (8+d.length) 0).drop (8+d.length))):=⟨_,rfl,(Bk.make (C:=af) 0 (8+d.length) (ltb rfl) (by unfold maxLen; omega)).copy 8 d (by rw [List.length_replicate]; omega)⟩
 refine ze 2 hH rfl (fun _ hF=>eL (C:=af) (m:=d) (e:=5) rfl (by kernel_rfl) (by kernel_rfl) (ltb rfl) (hF.ev 1 rfl) (hF.ev 0 rfl) (by omega) rfl (by rw [size_madeCells]; show 0+8*1+d.length*1≤(8+d.length)*1; omega) hcs9) (hH.vu hR.2.2 (by decide) (Off.nil _ _)) 3 ?_
 clear hH
 rintro _ _ w ⟨rfl,rfl⟩ hH
 refine zn (ak (zr (zv .mv 1 ?_)))
 refine zn (aj ?_)
 have he10:(ae 8).enc ((br (aeE l) d.length dq (ai d 0) 0).1)=(ae 8).enc (fun _=>166):=aB (fun j _=>rfl)
 replace hH:HH w0 [] [E3,[bl g5 84 ((ae 8).enc ((br (aeE l) d.length dq (ai d 0) 0).1))],[bl g6 5 cur8]] w:=by rw [he10]; exact hH
 refine zL3 (fun (t:Nat) (_:List UInt8) (_:Array Value)=>[(10,(.int .i64 (((t+1):Nat):Int))),(9,(.slice (some ⟨g6,0+8*1,none⟩) d.length d.length)),(8,(.slice (some ⟨g6,0,none⟩) (8+d.length) (8+d.length))),(7,(.pointer (some ⟨g5,0,none⟩))),(6,(.slice A1 ((aeK l).length) c2))]) (fun t o cu w=>HH w0 [] [E3,[bl g5 84 ((ae 8).enc ((br (aeE l) d.length dq (ai d 0) t).1))],[bl g6 5 cu]] w∧(t≤6*(d.length / 8))∧(o.length=8+d.length)∧(∀ j,j<d.length→o[8+j]?=some ((br (aeE l) d.length dq (ai d 0) t).2 j))∧(Bk af (8+d.length) cu o)) (fun t _ _=>6*(d.length / 8) - t) 0 ((List.replicate (8+d.length) 0).take 8++(d++(List.replicate (8+d.length) 0).drop (8+d.length))) cur8 ⟨hH,(Nat.zero_le _),(by simp; omega),(fun j hj=>by rw [List.getElem?_append_right (by simp),List.length_take,List.length_replicate,Nat.min_eq_left (by omega),List.getElem?_append_left (by omega),Nat.add_sub_cancel_left]; exact i7 hj),hB7⟩ ?_
 clear hH
 rintro t o cu w ⟨hH,ht,hol,hoP,hB⟩
 refine ak (zr (zv .mv 0 ?_))
 refine zv .mv 0 ?_
 refine zc Tryz.func58 (qW (some ⟨g6,0+8*1,none⟩) d.length d.length (by omega)) trivial hH 1 ?_
 clear hH
 intro w hH
 refine zv (.le (t+1≤6*(d.length / 8))) 3 ?_
 refine zn ?_
 refine zP (fun hc11 => ?_) (fun hc11 => ?_)
 refine av (ah (ak (aj ?_)))
 have hat:=jL (t:=t) (n:=d.length) (by omega) h8
 refine zr (zv .mv 1 ?_)
 refine zv .mv 0 ?_
 refine zc Tryz.func59 ((n6 (some ⟨g6,0+8*1,none⟩) d.length d.length t (by omega) (by omega) (by omega)).as (v:=(.slice (some ⟨g6,0+(8+t*8%d.length)*1,none⟩) (8+t*8%d.length+8 - (8+t*8%d.length)) (8+d.length - (8+t*8%d.length)))) (n5 ((bK (by omega)).trans (wD (by omega))) (by omega) (by omega))) trivial hH 3 ?_
 clear hH
 intro w hH
 refine zv .mv 1 ?_
 refine zn (zr (zv .mv 0 ?_))
 refine zs (hH.q 1 rfl) (.ld (ae 8) ((br (aeE l) d.length dq (ai d 0) t).1) (fun _=>ac)) 0 ?_
 refine zv .mv 0 ?_
 refine zc Tryz.func61 (uy ((br (aeE l) d.length dq (ai d 0) t).1) (some ⟨g6,0+(8+t*8%d.length)*1,none⟩) (8+t*8%d.length+8 - (8+t*8%d.length)) (8+d.length - (8+t*8%d.length)) ((o.take (8+t*8%d.length+8)).drop (8+t*8%d.length)) (by omega)) (bK (sz:=1) (b:=g6) (off:=0) (c:=8+d.length) (k:=8+t*8%d.length) (by omega) ▸ ((hB.vu (n:=8+d.length) (hH.blk 2 rfl) hol).cut (k:=8+t*8%d.length) (m:=8+t*8%d.length+8) (by omega) (by omega))) hH 3 ?_
 clear hH
 intro w hH
 refine zc Tryz.func60 (zA A1 ((aeK l).length) c2 l hk (mL l) (cp ((br (aeE l) d.length dq (ai d 0) t).1) (ai ((o.take (8+t*8%d.length+8)).drop (8+t*8%d.length)) 0))) (⟨(hH.oldBlk hR.1 (by simp)),(hO4.vuAt (hH.has 0 rfl))⟩) hH 3 ?_
 clear hH
 intro w hH
 refine zm hH (.al (ae 16) (fun _=>0)) trivial 0 ?_
 clear hH
 rintro _ _ w ⟨g12,rfl,rfl⟩ hH
 refine ze0 3 hH rfl (.sw (ae 16) (fun _=>0) (aeE l (cp ((br (aeE l) d.length dq (ai d 0) t).1) (ai ((o.take (8+t*8%d.length+8)).drop (8+t*8%d.length)) 0)))) trivial ?_
 clear hH
 rintro _ _ w rfl hH
 refine zn ?_
 obtain ⟨X,hX⟩:∃ X,X=(wrB (aeE l) d.length dq (ai d 0) t):=⟨_,rfl⟩
 have he13:(ae 16).enc X=(ae 16).enc (aeE l (cp ((br (aeE l) d.length dq (ai d 0) t).1) (ai ((o.take (8+t*8%d.length+8)).drop (8+t*8%d.length)) 0))):=aB (fun j hj=>hX ▸ (qM l (by unfold aeR; omega) (iG (fun _ _=>rfl) (fun j hj=>gQ hoP hat j hj)) j hj).symm)
 replace hH:HH w0 [] [E3,[bl g5 84 ((ae 8).enc ((br (aeE l) d.length dq (ai d 0) t).1))],[bl g6 5 cu],[bl g12 51 ((ae 16).enc X)]] w:=by rw [he13]; exact hH
 refine zr (zv (v:=(.slice (some ⟨g12,0,none⟩) 8 16)) (fun _ _ hF=>ex (m:=16) (h:=8) (e:=5) (sz:=1) rfl (by kernel_rfl) (by kernel_rfl) (hF.ev 0 rfl) rfl rfl (by omega)) 2 ?_)
 refine zv (v:=(.pointer (some ⟨g12,0,none⟩))) (fun _ _ hF=>cf (m:=8) (e:=5) rfl (by kernel_rfl) (hF.ev 0 rfl) (by omega)) 1 ?_
 refine zs (hH.q 3 rfl) (.ld (ae 8) (ai ((lst 16 X).take 8) 0) (fun _ hS=>(((eB hS).cut 0 8).arr 0 8 (by first | omega | (rw [ao]; omega) | (simp only [List.length_drop,List.length_take,ao]; omega) | (simp only [List.length_drop,List.length_take]; omega))))) 1 ?_
 refine zv .mv 0 ?_
 refine zc Tryz.func62 (lV (ai ((lst 16 X).take 8) 0) (t+1)) trivial hH 3 ?_
 clear hH
 intro w hH
 refine ze0 1 hH rfl (.sw (ae 8) ((br (aeE l) d.length dq (ai d 0) t).1) (aT (ai ((lst 16 X).take 8) 0) (t+1))) trivial ?_
 clear hH
 rintro _ _ w rfl hH
 refine zn ?_
 have he14:(ae 8).enc (aT X (t+1))=(ae 8).enc (aT (ai ((lst 16 X).take 8) 0) (t+1)):=aB (fun j hj=>pi _ _ j hj)
 replace hH:HH w0 [] [E3,[bl g5 84 ((ae 8).enc (aT X (t+1)))],[bl g6 5 cu],[bl g12 51 ((ae 16).enc X)]] w:=by rw [he14]; exact hH
 refine aA (zv .mv 5 ?_)
 refine zv (v:=(.slice (some ⟨g12,0+8*1,none⟩) (16 - 8) (16 - 8))) (fun _ _ hF=>dC (m:=16) (l:=8) (e:=5) (sz:=1) rfl (by kernel_rfl) (by kernel_rfl) (hF.ev 1 rfl) rfl rfl (by omega)) 2 ?_
 obtain ⟨cur16,hcs17,hB15⟩:∃ cs,bJ cu (0+(8+t*8%d.length)*1) (bi af ((lst 16 X).drop 8))=cs∧Bk af (8+d.length) cs (o.take (8+t*8%d.length)++(((lst 16 X).drop 8)++o.drop (8+t*8%d.length+((lst 16 X).drop 8).length))):=⟨_,rfl,hB.copy (8+t*8%d.length) ((lst 16 X).drop 8) (by rw [List.length_drop,ao]; omega)⟩
 refine ze 2 hH rfl (fun _ hF=>eL (C:=af) (m:=((lst 16 X).drop 8)) (e:=5) rfl (by kernel_rfl) (by kernel_rfl) (ltb rfl) (hF.ev 1 rfl) (hF.ev 0 rfl) (by omega) (by rw [List.length_drop,ao]) (gZ hB (k:=8+t*8%d.length) (n:=16 - 8) (by omega)) hcs17) (bK (sz:=1) (b:=g12) (off:=0) (c:=16) (k:=8) (by omega) ▸ ((bp (hH.blk 3 rfl)).from (k:=8) (by omega))) 3 ?_
 clear hH
 rintro _ _ w ⟨rfl,rfl⟩ hH
 refine aD (aP (ah (aA (zv .mv 3 ?_))))
 refine zv (.add (((t+1+1):Nat):Int)) 1 ?_
 refine zv .mv 1 ?_
 refine aD ?_
 replace hH:HH w0 [] [E3,[bl g5 84 ((ae 8).enc (aT X (t+1)))],[bl g6 5 cur16]] w:=hH.only [true,true,true,false]
 have he18:(ae 8).enc ((br (aeE l) d.length dq (ai d 0) (t+1)).1)=(ae 8).enc (aT X (t+1)):=aB (fun j _=>by rw [hX]; rfl)
 replace hH:HH w0 [] [E3,[bl g5 84 ((ae 8).enc ((br (aeE l) d.length dq (ai d 0) (t+1)).1))],[bl g6 5 cur16]] w:=by rw [he18]; exact hH
 exact zR3 (t+1) (o.take (8+t*8%d.length)++(((lst 16 X).drop 8)++o.drop (8+t*8%d.length+((lst 16 X).drop 8).length))) cur16 ⟨hH,(by omega),(by rw [mN (by omega)]; exact hol),(fun j hj=>by rw [ky,← hX]; exact kC hol hat hoP j hj),hB15⟩ (by omega)
 refine aK (am (am (aS (ah ?_))))
 obtain rfl:t=6*(d.length / 8):=by omega
 refine zr (zv .mv 39 ?_)
 refine zv (v:=(.slice (some ⟨g5,0,none⟩) 8 8)) (fun _ _ hF=>aY (n:=8) (e:=5) (sz:=1) rfl (by kernel_rfl) (by kernel_rfl) (hF.ev 2 rfl)) 4 ?_
 obtain ⟨cur20,hcs21,hB19⟩:∃ cs,bJ cu (0) (bi af (lst 8 ((br (aeE l) d.length dq (ai d 0) (6*(d.length / 8))).1)))=cs∧Bk af (8+d.length) cs (o.take 0++((lst 8 ((br (aeE l) d.length dq (ai d 0) (6*(d.length / 8))).1))++o.drop (0+(lst 8 ((br (aeE l) d.length dq (ai d 0) (6*(d.length / 8))).1)).length))):=⟨_,rfl,hB.copy 0 (lst 8 ((br (aeE l) d.length dq (ai d 0) (6*(d.length / 8))).1)) (by rw [ao]; omega)⟩
 refine ze 2 hH rfl (fun _ hF=>eL (C:=af) (m:=(lst 8 ((br (aeE l) d.length dq (ai d 0) (6*(d.length / 8))).1))) (e:=5) rfl (by kernel_rfl) (by kernel_rfl) (ltb rfl) (hF.ev 1 rfl) (hF.ev 0 rfl) (by omega) (ao _ _) (gZ hB (k:=0) (n:=8) (by omega)) hcs21) (bp (hH.blk 1 rfl)) 3 ?_
 clear hH
 rintro _ _ w ⟨rfl,rfl⟩ hH
 refine zn (zr (zv .mv 3 ?_))
 refine zv .mv 1 ?_
 refine zv .mv 0 ?_
 refine zn (au (fm 1 0 rfl rfl rfl ?_))
 have hfin:=hB19
 rw [uA hol hoP] at hfin
 exact ⟨_,_,rfl,⟨_,rfl,hfin.own 5 g6 (by rw [List.length_append,ao,ao])⟩,hH.out1 [false,false,true] rfl⟩
theorem qX {d:List UInt8} {k j:Nat} (hj:k+j<d.length):d[k+j]?=some (ai d k j):=by
 unfold ai
 rw [List.getD_eq_getElem?_getD,List.getElem?_eq_getElem hj]
 rfl
theorem uB (A:Option Addr) (z:Nat) (l:List UInt8) (hk:l.length=16 ∨ l.length=32) (B:Option Addr) (y:Nat) (d:List UInt8) (hd:24≤d.length∧d.length≤136) (h8:d.length%8=0):Does Tryz.prog 49 #[(.slice A l.length z),(.slice B d.length y)] [] (fun w=>w.heap[0]?=some (.cells ((ae 256).enc ag) 103 (0,0))∧Vu af w A l.length z l∧Vu af w B d.length y d) (fun v E' => ∃ s,v=.tuple #[s,.int .i64 ((unE l d:Nat):Int)]∧OwnT af 5 s (unL l d) E'):=by
 refine dU Tryz.func49 Tryz.ntmps49 ?_
 intro w0 hH hR
 replace hH:HH w0 [] [] w0:=hH.only [false]
 have hlk:=hR.2.1.len; have hld:=hR.2.2.len
 refine zr (zv .mv 0 ?_)
 refine zv .mv 1 ?_
 refine zn (ak (zr (zv .mv 1 ?_)))
 refine zc Tryz.func54 (qU A l.length z hk) trivial hH 1 ?_
 clear hH
 intro w hH
 refine zv (v:=(.bool false)) (fun _ _ hF=>el rfl (hF.ev 0 rfl) rfl) 1 ?_
 refine zv .mv 1 ?_
 refine pxV (v:=(.slice B d.length y)) (fun _ _ hF=>bo rfl (hF.ev 2 rfl)) rfl (gOn 0 rfl rfl rfl (by decide)) (kA rfl) (by decide) ?_
 refine pxV (v:=(.int .i64 d.length)) (fun _ _ hF=>gr (e:=5) rfl (by kernel_rfl) (hF.ev 0 rfl)) rfl (gOn 1 rfl rfl rfl (by decide)) (kM [false,true,true,true] rfl rfl) (by decide) ?_
 refine pxV (v:=(.int .i64 ((((d.length - 8)):Nat):Int))) (fun _ _ hF=>jf rfl (hF.ev 0 rfl) rfl (wI (by omega) (by omega) (by omega))) rfl (gOn 1 rfl rfl rfl (by decide)) (kM [false,true,true,true] rfl rfl) (by decide) ?_
 refine pxM hH (fun _ hF=>Does.small ((xQ (d.length - 8) (by omega) (by omega) (by omega)).does) (fun w=>om rfl Tryz.func55 rfl rfl (Evs.cons (v:=(.int .i64 ((((d.length - 8)):Nat):Int))) (hF.ev 0 rfl) Evs.nil) w)) trivial rfl (gOn 1 rfl rfl rfl (by decide)) (kM [false,true,true,true] rfl rfl) (by decide) ?_
 clear hH
 rintro _ _ w ⟨rfl,rfl⟩ hH
 replace hH:HH w0 [] [] w:=hH.unpad
 refine pxV (v:=(.bool false)) (fun _ _ hF=>el rfl (hF.ev 0 rfl) rfl) rfl (gOn 1 rfl rfl rfl (by decide)) (kM [false,true,true,true] rfl rfl) (by decide) ?_
 refine zv (v:=(.bool false)) (fun _ _ hF=>dt rfl (hF.ev 1 rfl) (hF.ev 0 rfl)) 3 ?_
 refine zn (zF ?_)
 refine av (ah (zr (zv .mv 3 ?_)))
 refine zm hH (.call Tryz.func56 (ju A z l hk)) (⟨(hH.oldBlk hR.1 (by simp)),(hH.vu hR.2.1 (by decide) (Off.nil _ _))⟩) 1 ?_
 clear hH
 rintro v E3 w hO4 hH
 replace hO4:OwnT (ae 16) 51 v (aeK l) E3:=hO4
 obtain ⟨A1,c2,rfl⟩:=hO4.slice
 refine zc Tryz.func91 (zw ) (hH.oldBlk hR.1 (by simp)) hH 0 ?_
 clear hH
 intro w hH
 refine zm hH (.al (ae 256) (fun _=>0)) trivial 0 ?_
 clear hH
 rintro _ _ w ⟨g5,rfl,rfl⟩ hH
 refine zv .mv 4 ?_
 refine ze0 1 hH rfl (.sw (ae 256) (fun _=>0) (bk ag 256)) trivial ?_
 clear hH
 rintro _ _ w rfl hH
 refine zn ?_
 obtain ⟨b6,off7,rfl,hL8,hb9,hR10⟩:=hR.2.2.blk (by decide) (Off.nil _ _) (by omega)
 have:=hR.2.2.cap
 refine zr (zv .mv 4 ?_)
 refine zv (v:=(.pointer (some ⟨b6,off7,none⟩))) (fun _ _ hF=>cf (m:=8) (e:=5) rfl (by kernel_rfl) (hF.ev 0 rfl) (by omega)) 1 ?_
 refine zs (S:=fun w=>HoldsL af w b6 off7 d) (hH.holdsL hL8 hb9 hR10) (.ld (ae 8) (ai d 0) (fun _ hS=>(hS.arr 0 8 (by first | omega | (rw [ao]; omega) | (simp only [List.length_drop,List.length_take,ao]; omega) | (simp only [List.length_drop,List.length_take]; omega))))) 1 ?_
 refine zm hH (.al (ae 8) (fun _=>0)) trivial 0 ?_
 clear hH
 rintro _ _ w ⟨g11,rfl,rfl⟩ hH
 refine ze0 2 hH rfl (.sw (ae 8) (fun _=>0) (ai d 0)) trivial ?_
 clear hH
 rintro _ _ w rfl hH
 refine zn (zr (zv .mv 2 ?_))
 refine zv .len 1 ?_
 refine zv (.sub ((((d.length - 8)):Nat):Int)) 1 ?_
 refine zm hH (fun _ hF=>fT (e:=5) (n:=(d.length - 8)) (sz:=1) (by_:=1) (z:=(.int .u8 0)) (cs:=madeCells (af.enc 0) ((d.length - 8)*1)) rfl (by kernel_rfl) (by kernel_rfl) (hF.ev 0 rfl) (hF.ev 0 rfl) rfl rfl (by omega) (by omega) rfl) trivial 1 ?_
 clear hH
 rintro _ _ w ⟨g12,rfl,rfl⟩ hH
 refine zv .mv 1 ?_
 refine zn (zr (zv .mv 0 ?_))
 refine zv .mv 32 ?_
 refine zv (v:=(.slice (some ⟨b6,off7+8*1,none⟩) (d.length - 8) (y - 8))) (fun _ _ hF=>fV (k:=8) (e:=5) (sz:=1) rfl (by kernel_rfl) (by kernel_rfl) (hF.ev 0 rfl) rfl rfl (by omega) (by omega)) 1 ?_
 obtain ⟨cur14,hcs15,hB13⟩:∃ cs,bJ (madeCells (af.enc 0) ((d.length - 8)*1)) (0) (bi af (d.drop 8))=cs∧Bk af (d.length - 8) cs ((List.replicate (d.length - 8) 0).take 0++((d.drop 8)++(List.replicate (d.length - 8) 0).drop (0+(d.drop 8).length))):=⟨_,rfl,(Bk.make (C:=af) 0 (d.length - 8) (ltb rfl) (by unfold maxLen; omega)).copy 0 (d.drop 8) (by rw [List.length_replicate,List.length_drop]; omega)⟩
 refine ze 3 hH rfl (fun _ hF=>eL (C:=af) (m:=(d.drop 8)) (e:=5) rfl (by kernel_rfl) (by kernel_rfl) (ltb rfl) (hF.ev 1 rfl) (hF.ev 0 rfl) (by omega) (by rw [List.length_drop]) (by rw [size_madeCells]; show 0+(d.length - 8)*1≤(d.length - 8)*1; omega) hcs15) (bK (sz:=1) (b:=b6) (off:=off7) (c:=y) (k:=8) (by omega) ▸ ((hH.vu hR.2.2 (by decide) (Off.nil _ _)).from (k:=8) (by omega))) 3 ?_
 clear hH
 rintro _ _ w ⟨rfl,rfl⟩ hH
 refine zn (ak (zr (zv .mv 1 ?_)))
 refine zc Tryz.func58 (qW (some ⟨g12,0,none⟩) (d.length - 8) (d.length - 8) (by omega)) trivial hH 1 ?_
 clear hH
 intro w hH
 refine zv .mv 1 ?_
 refine zn (aj ?_)
 have he16:(ae 8).enc ((unR (aeD l) (d.length - 8) (6*((d.length - 8) / 8)) (ai d 0) (ai d 8) 0).1)=(ae 8).enc (ai d 0):=aB (fun j _=>rfl)
 replace hH:HH w0 [] [E3,[bl g5 103 ((ae 256).enc (bk ag 256))],[bl g11 84 ((ae 8).enc ((unR (aeD l) (d.length - 8) (6*((d.length - 8) / 8)) (ai d 0) (ai d 8) 0).1))],[bl g12 5 cur14]] w:=by rw [he16]; exact hH
 refine zL3 (fun (k:Nat) (_:List UInt8) (_:Array Value)=>[(10,(.int .i64 ((((6*((d.length - 8) / 8)) - k):Nat):Int))),(9,(.slice (some ⟨g12,0,none⟩) (d.length - 8) (d.length - 8))),(8,(.pointer (some ⟨g11,0,none⟩))),(7,(.pointer (some ⟨g5,0,none⟩))),(6,(.slice A1 ((aeK l).length) c2))]) (fun k o cu w=>HH w0 [] [E3,[bl g5 103 ((ae 256).enc (bk ag 256))],[bl g11 84 ((ae 8).enc ((unR (aeD l) (d.length - 8) (6*((d.length - 8) / 8)) (ai d 0) (ai d 8) k).1))],[bl g12 5 cu]] w∧(k≤(6*((d.length - 8) / 8)))∧(o.length=(d.length - 8))∧(∀ j,j<(d.length - 8)→o[j]?=some ((unR (aeD l) (d.length - 8) (6*((d.length - 8) / 8)) (ai d 0) (ai d 8) k).2 j))∧(Bk af (d.length - 8) cu o)) (fun k _ _=>(6*((d.length - 8) / 8)) - k) 0 ((List.replicate (d.length - 8) 0).take 0++((d.drop 8)++(List.replicate (d.length - 8) 0).drop (0+(d.drop 8).length))) cur14 ⟨hH,(Nat.zero_le _),(by simp),(fun j hj=>by rw [List.take_zero,List.nil_append,List.getElem?_append_left (by rw [List.length_drop]; exact hj),List.getElem?_drop]; exact (qX (by omega))),hB13⟩ ?_
 clear hH
 rintro k o cu w ⟨hH,hk2,hol,hoP,hB⟩
 refine ak (zr (zv .mv 0 ?_))
 refine zv (.ge ((6*((d.length - 8) / 8)) - k ≥ 1)) 1 ?_
 refine zn ?_
 refine zP (fun hc17 => ?_) (fun hc17 => ?_)
 refine av (ah (ak (aj ?_)))
 obtain ⟨t,ht⟩:∃ t,(6*((d.length - 8) / 8)) - k=t+1:=⟨(6*((d.length - 8) / 8)) - k - 1,by omega⟩
 rw [ht]
 have hat:=jL (t:=t) (n:=(d.length - 8)) (by omega) (by omega)
 refine zr (zv .mv 1 ?_)
 refine zv .mv 0 ?_
 refine zc Tryz.func59 ((n6 (some ⟨g12,0,none⟩) (d.length - 8) (d.length - 8) t (by omega) (by omega) (by omega)).as (v:=(.slice (some ⟨g12,0+(t*8%(d.length - 8))*1,none⟩) (t*8%(d.length - 8)+8 - (t*8%(d.length - 8))) ((d.length - 8) - (t*8%(d.length - 8))))) (n5 (bK (by omega)) (by omega) (by omega))) trivial hH 3 ?_
 clear hH
 intro w hH
 refine zv .mv 1 ?_
 refine zn (zr (zv .mv 0 ?_))
 refine zs (hH.q 2 rfl) (.ld (ae 8) ((unR (aeD l) (d.length - 8) (6*((d.length - 8) / 8)) (ai d 0) (ai d 8) k).1) (fun _=>ac)) 0 ?_
 refine zv .mv 0 ?_
 refine zc Tryz.func62 (lV ((unR (aeD l) (d.length - 8) (6*((d.length - 8) / 8)) (ai d 0) (ai d 8) k).1) (t+1)) trivial hH 3 ?_
 clear hH
 intro w hH
 refine zv .mv 0 ?_
 refine zc Tryz.func61 (uy (aT ((unR (aeD l) (d.length - 8) (6*((d.length - 8) / 8)) (ai d 0) (ai d 8) k).1) (t+1)) (some ⟨g12,0+(t*8%(d.length - 8))*1,none⟩) (t*8%(d.length - 8)+8 - (t*8%(d.length - 8))) ((d.length - 8) - (t*8%(d.length - 8))) ((o.take (t*8%(d.length - 8)+8)).drop (t*8%(d.length - 8))) (by omega)) (bK (sz:=1) (b:=g12) (off:=0) (c:=(d.length - 8)) (k:=t*8%(d.length - 8)) (by omega) ▸ ((hB.vu (n:=(d.length - 8)) (hH.blk 3 rfl) hol).cut (k:=t*8%(d.length - 8)) (m:=t*8%(d.length - 8)+8) (by omega) (by omega))) hH 3 ?_
 clear hH
 intro w hH
 refine zc Tryz.func92 (zB g5 A1 ((aeK l).length) c2 l hk (mL l) (cp (aT ((unR (aeD l) (d.length - 8) (6*((d.length - 8) / 8)) (ai d 0) (ai d 8) k).1) (t+1)) (ai ((o.take (t*8%(d.length - 8)+8)).drop (t*8%(d.length - 8))) 0))) (⟨(hH.blk 1 rfl),(hO4.vuAt (hH.has 0 rfl))⟩) hH 3 ?_
 clear hH
 intro w hH
 refine zm hH (.al (ae 16) (fun _=>0)) trivial 0 ?_
 clear hH
 rintro _ _ w ⟨g18,rfl,rfl⟩ hH
 refine ze0 4 hH rfl (.sw (ae 16) (fun _=>0) (aeD l (cp (aT ((unR (aeD l) (d.length - 8) (6*((d.length - 8) / 8)) (ai d 0) (ai d 8) k).1) (t+1)) (ai ((o.take (t*8%(d.length - 8)+8)).drop (t*8%(d.length - 8))) 0)))) trivial ?_
 clear hH
 rintro _ _ w rfl hH
 refine zn ?_
 obtain ⟨X,hX⟩:∃ X,X=(aeD l (cp (aT (unR (aeD l) (d.length - 8) (6*((d.length - 8) / 8)) (ai d 0) (ai d 8) k).1 (t+1)) fun j=>(unR (aeD l) (d.length - 8) (6*((d.length - 8) / 8)) (ai d 0) (ai d 8) k).2 (t*8%(d.length - 8)+j))):=⟨_,rfl⟩
 have he19:(ae 16).enc X=(ae 16).enc (aeD l (cp (aT ((unR (aeD l) (d.length - 8) (6*((d.length - 8) / 8)) (ai d 0) (ai d 8) k).1) (t+1)) (ai ((o.take (t*8%(d.length - 8)+8)).drop (t*8%(d.length - 8))) 0))):=aB (fun j hj=>hX ▸ (mJ l (iG (fun _ _=>rfl) (fun j hj=>n7 hoP hat j hj)) j hj).symm)
 replace hH:HH w0 [] [E3,[bl g5 103 ((ae 256).enc (bk ag 256))],[bl g11 84 ((ae 8).enc ((unR (aeD l) (d.length - 8) (6*((d.length - 8) / 8)) (ai d 0) (ai d 8) k).1))],[bl g12 5 cu],[bl g18 51 ((ae 16).enc X)]] w:=by rw [he19]; exact hH
 refine zr (zv (v:=(.slice (some ⟨g18,0,none⟩) 8 16)) (fun _ _ hF=>ex (m:=16) (h:=8) (e:=5) (sz:=1) rfl (by kernel_rfl) (by kernel_rfl) (hF.ev 0 rfl) rfl rfl (by omega)) 2 ?_)
 refine zv (v:=(.pointer (some ⟨g18,0,none⟩))) (fun _ _ hF=>cf (m:=8) (e:=5) rfl (by kernel_rfl) (hF.ev 0 rfl) (by omega)) 1 ?_
 refine zs (hH.q 4 rfl) (.ld (ae 8) (ai ((lst 16 X).take 8) 0) (fun _ hS=>(((eB hS).cut 0 8).arr 0 8 (by first | omega | (rw [ao]; omega) | (simp only [List.length_drop,List.length_take,ao]; omega) | (simp only [List.length_drop,List.length_take]; omega))))) 1 ?_
 refine ze0 2 hH rfl (.sw (ae 8) ((unR (aeD l) (d.length - 8) (6*((d.length - 8) / 8)) (ai d 0) (ai d 8) k).1) (ai ((lst 16 X).take 8) 0)) trivial ?_
 clear hH
 rintro _ _ w rfl hH
 refine zn (aA (zv .mv 5 ?_))
 refine zv (v:=(.slice (some ⟨g18,0+8*1,none⟩) (16 - 8) (16 - 8))) (fun _ _ hF=>dC (m:=16) (l:=8) (e:=5) (sz:=1) rfl (by kernel_rfl) (by kernel_rfl) (hF.ev 1 rfl) rfl rfl (by omega)) 2 ?_
 obtain ⟨cur21,hcs22,hB20⟩:∃ cs,bJ cu (0+(t*8%(d.length - 8))*1) (bi af ((lst 16 X).drop 8))=cs∧Bk af (d.length - 8) cs (o.take (t*8%(d.length - 8))++(((lst 16 X).drop 8)++o.drop (t*8%(d.length - 8)+((lst 16 X).drop 8).length))):=⟨_,rfl,hB.copy (t*8%(d.length - 8)) ((lst 16 X).drop 8) (by rw [List.length_drop,ao]; omega)⟩
 refine ze 3 hH rfl (fun _ hF=>eL (C:=af) (m:=((lst 16 X).drop 8)) (e:=5) rfl (by kernel_rfl) (by kernel_rfl) (ltb rfl) (hF.ev 1 rfl) (hF.ev 0 rfl) (by omega) (by rw [List.length_drop,ao]) (gZ hB (k:=t*8%(d.length - 8)) (n:=16 - 8) (by omega)) hcs22) (bK (sz:=1) (b:=g18) (off:=0) (c:=16) (k:=8) (by omega) ▸ ((bp (hH.blk 4 rfl)).from (k:=8) (by omega))) 3 ?_
 clear hH
 rintro _ _ w ⟨rfl,rfl⟩ hH
 refine aD (aP (ah (aA (zv .mv 3 ?_))))
 refine zv (.sub ((((6*((d.length - 8) / 8)) - (k+1)):Nat):Int)) 1 ?_
 refine zv .mv 1 ?_
 refine aD ?_
 replace hH:HH w0 [] [E3,[bl g5 103 ((ae 256).enc (bk ag 256))],[bl g11 84 ((ae 8).enc (ai ((lst 16 X).take 8) 0))],[bl g12 5 cur21]] w:=hH.only [true,true,true,true,false]
 have hS:unR (aeD l) (d.length - 8) (6*((d.length - 8) / 8)) (ai d 0) (ai d 8) (k+1)=(X,cpy (t*8%(d.length - 8)) 8 (unR (aeD l) (d.length - 8) (6*((d.length - 8) / 8)) (ai d 0) (ai d 8) k).2 fun j=>X (8+j)):=by rw [kz]; unfold unB; rw [ht,hX]; rfl
 have he23:(ae 8).enc ((unR (aeD l) (d.length - 8) (6*((d.length - 8) / 8)) (ai d 0) (ai d 8) (k+1)).1)=(ae 8).enc (ai ((lst 16 X).take 8) 0):=aB (fun j hj=>by rw [hS]; exact Bp X j hj)
 replace hH:HH w0 [] [E3,[bl g5 103 ((ae 256).enc (bk ag 256))],[bl g11 84 ((ae 8).enc ((unR (aeD l) (d.length - 8) (6*((d.length - 8) / 8)) (ai d 0) (ai d 8) (k+1)).1))],[bl g12 5 cur21]] w:=by rw [he23]; exact hH
 exact zR3 (k+1) (o.take (t*8%(d.length - 8))++(((lst 16 X).drop 8)++o.drop (t*8%(d.length - 8)+((lst 16 X).drop 8).length))) cur21 ⟨hH,(by omega),(by rw [mN (by omega)]; exact hol),(fun j hj=>by rw [hS]; exact sy hol hat hoP j hj),hB20⟩ (by omega)
 refine aK (am (am (aS (ah (ak ?_)))))
 obtain rfl:k=(6*((d.length - 8) / 8)):=by omega
 refine zx ?_
 replace hH:=hH.drew
 refine rld 0 (hH.q 2 rfl) (.ld (ae 8) ((unR (aeD l) (d.length - 8) (6*((d.length - 8) / 8)) (ai d 0) (ai d 8) (6*((d.length - 8) / 8))).1) (fun _=>ac)) 59 ?_
 refine rx1k 1 (rpc 1 Tryz.func57 (qV ) trivial hH 0 (.keep (.nil _ [])) ?_)
 clear hH
 intro w hH
 refine ⟨pcons (hH.blk 2 rfl) an,?_⟩
 refine rv 2 (v:=(.bool (decide (lst 8 (unS l d).1≠lst 8 dq)))) (fun _ _ hF=>xk (n:=8) (e:=5) (f:=(unR (aeD l) (d.length - 8) (6*((d.length - 8) / 8)) (ai d 0) (ai d 8) (6*((d.length - 8) / 8))).1) (g:=(fun _=>166)) rfl (by kernel_rfl) (by kernel_rfl) (by kernel_rfl) (hF.ev 1 rfl) (hF.ev 0 rfl) (by kernel_rfl) Iff.rfl) 3 ?_
 refine rn ?_
 refine zP (fun hc24 => ?_) (fun hc24 => ?_)
 refine zr (zv .mv 3 ?_)
 refine zv .mv 0 ?_
 refine zn (au (bO ?_))
 refine fm 1 0 rfl rfl rfl ?_
 have he:unE l d=5:=if_neg hc24
 have hl:unL l d=[]:=if_neg hc24
 exact ⟨_,_,rfl,⟨_,by rw [he]; rfl,hl ▸ OwnT.nil _ _⟩,HH.out (HH.pad hH 1) [false,false,false,false,true]⟩
 refine av (ah (zr (zv .mv 3 ?_)))
 refine zv .mv 1 ?_
 refine zv .mv 0 ?_
 refine zn (au (fm 1 0 rfl rfl rfl ?_))
 have hz:=Decidable.not_not.1 hc24
 have he:unE l d=0:=if_pos hz
 have hl:unL l d=lst (d.length - 8) (unS l d).2:=if_pos hz
 have hfin:=hB
 rw [co hoP hol] at hfin
 exact ⟨_,_,rfl,⟨_,by rw [he]; rfl,hl ▸ hfin.own 5 g12 (ao _ _)⟩,hH.out1 [false,false,false,true] rfl⟩
def dg (p u:Bt) (w:List UInt8):List UInt8:=[6,33,6]++(lst 32 p++([25]++(lst 32 u++([40]++w))))
theorem n9 (p u:Bt) (w:List UInt8):[[6,33,6],lst 32 p,[25],lst 32 u,[40],w].flatten=dg p u w:=by
 unfold dg
 simp only [List.flatten_cons,List.flatten_nil,List.append_nil]
theorem lW (p u:Bt) (w:List UInt8):(dg p u w).length=69+w.length:=by
 unfold dg
 simp only [List.length_append,List.length_cons,List.length_nil,ao]
 omega
theorem iH {l:List UInt8} {n:Nat} (h:l.length=n):lst n (ai l 0)=l:=(co (fun _ hj=>i7 (by omega)) h).symm
theorem kF {l:List UInt8} {n k:Nat} (h:l.length=k+n):lst n (ai l k)=l.drop k:=(co (fun j hj=>by rw [List.getElem?_drop]; exact qX (by omega)) (by rw [List.length_drop]; omega)).symm
theorem i8 (l d:List UInt8):(bW l d).length=8+d.length:=by unfold bW; rw [List.length_append,ao,ao]
theorem xR {l d:List UInt8} (h:unE l d≠0):unE l d=5:=by
 unfold unE at h ⊢
 by_cases hh:lst 8 (unS l d).1=lst 8 dq
 ·rw [if_pos hh] at h; exact absurd rfl h
 ·rw [if_neg hh]
theorem qY {l d:List UInt8} (h:unE l d=0):(unL l d).length=d.length - 8:=by
 unfold unE at h
 unfold unL
 by_cases hh:lst 8 (unS l d).1=lst 8 dq
 ·rw [if_pos hh,ao]
 ·rw [if_neg hh] at h; cases h
abbrev Ct:=Nat×Bt×Bt×Bt
def pr1 (ct:Ct):Bt:=fun j=>ct.2.2.2 (32*1+j)
def skE (d:Bt) (ct:Ct):Nat:=shE (bc d ct.2.2.1)
def skW (S d:Bt) (ct:Ct):List UInt8:=bW (df (aI d) ct.2.2.1 (bc d ct.2.2.1)) (lst 32 S)
theorem mO (S d:Bt) (ct:Ct):(skW S d ct).length=40:=by unfold skW; rw [i8,ao]
def skL (S:Bt) (ct:Ct) (d:Bt):List UInt8:=if skE d ct=0 then dg (pr1 ct) (aI d) (skW S d ct) else []
def isB (l:List UInt8):Prop:=l.length=109∧l=dg (ai l 3) (ai l 36) (l.drop 69)
instance (l:List UInt8):Decidable (isB l):=by unfold isB; infer_instance
def opR (l:List UInt8) (k:Bt) (ct:Ct):Bt×Nat :=
 if isB l then
  if lst 32 (ai l 3)=lst 32 (pr1 ct) then
   if shE (bc k (ai l 36))=0 then
    if unE (df (ai l 36) (aI k) (bc k (ai l 36))) (l.drop 69)=0 then (ai (unL (df (ai l 36) (aI k) (bc k (ai l 36))) (l.drop 69)) 0,0) else (fun _=>0,5)
   else (fun _=>0,2)
  else (fun _=>0,3)
 else (fun _=>0,2)
def uwV (K:Bt) (m:List UInt8):Bt:=if unE (lst 16 K) m=0 then ai (unL (lst 16 K) m) 0 else fun _=>0
theorem Bq {r:Bt} (h:shE r≠0):shE r=2:=by
 unfold shE at h ⊢
 by_cases hh:lst 32 r=lst 32 (fun _=>0)
 ·rw [if_pos hh]
 ·rw [if_neg hh] at h; exact absurd rfl h
abbrev cSe:Cod (Bt×Bt×Bt):=bm (ae 32) (bm (ae 32) (ae 40))
theorem wE (A:Option Addr) (n z:Nat) (l:List UInt8) (hn:l.length=n) (hk:l.length=16 ∨ l.length=32) (B:Option Addr) (m y:Nat) (d:List UInt8) (hm:d.length=m) (hd:16≤d.length∧d.length≤128) (h8:d.length%8=0):Does Tryz.prog 32 #[.slice A n z,.slice B m y] [] (fun w=>w.heap[0]?=some (.cells ((ae 256).enc ag) 103 (0,0))∧Vu af w A n z l∧Vu af w B m y d) (fun v E' => ∃ s,v=.tuple #[s,.int .i64 0]∧OwnT af 5 s (bW l d) E'):=by
 subst hn hm; exact zC A z l hk B y d hd h8
theorem sA (A:Option Addr) (n z:Nat) (l:List UInt8) (hn:l.length=n) (hk:l.length=16 ∨ l.length=32) (B:Option Addr) (m y:Nat) (d:List UInt8) (hm:d.length=m) (hd:24≤d.length∧d.length≤136) (h8:d.length%8=0):Does Tryz.prog 49 #[.slice A n z,.slice B m y] [] (fun w=>w.heap[0]?=some (.cells ((ae 256).enc ag) 103 (0,0))∧Vu af w A n z l∧Vu af w B m y d) (fun v E' => ∃ s,v=.tuple #[s,.int .i64 ((unE l d:Nat):Int)]∧OwnT af 5 s (unL l d) E'):=by
 subst hn hm; exact uB A z l hk B y d hd h8
theorem lX (a b c:Nat→UInt8):Pure Tryz.prog 16 #[((ae 32).val a),((ae 32).val b),((ae 32).val c)] (fun w=>w.heap[3]?=some (.cells ((cWs 64).enc K32) 119 (0,0))∧w.heap[2]?=some (.cells ((cWs 8).enc H32) 118 (0,0))) ((ae 16).val (ai (df a b c) 0)):=by
 refine pU Tryz.func16 Tryz.ntmps16 ?_
 intro w0 hH hR
 refine zr (zm hH (.bx (ae 32) a) trivial 1 ?_)
 clear hH
 rintro _ _ w ⟨g1,rfl,rfl⟩ hH
 refine zm hH (.bx (ae 32) b) trivial 2 ?_
 clear hH
 rintro _ _ w ⟨g2,rfl,rfl⟩ hH
 refine zm hH (.bx (ae 32) c) trivial 4 ?_
 clear hH
 rintro _ _ w ⟨g3,rfl,rfl⟩ hH
 refine zm hH (.al (ae 16) (fun _=>0)) trivial 0 ?_
 clear hH
 rintro _ _ w ⟨g4,rfl,rfl⟩ hH
 refine zn (zx ?_)
 replace hH:=hH.drew
 refine rv 0 (v:=(.slice (some ⟨g1,0,none⟩) 32 32)) (fun _ _ hF=>aY (n:=32) (e:=5) (sz:=1) rfl (by kernel_rfl) (by kernel_rfl) (hF.ev 3 rfl)) 8 ?_
 refine rv 1 (v:=(.slice (some ⟨g2,0,none⟩) 32 32)) (fun _ _ hF=>aY (n:=32) (e:=5) (sz:=1) rfl (by kernel_rfl) (by kernel_rfl) (hF.ev 3 rfl)) 8 ?_
 refine rv 2 (v:=(.slice (some ⟨g3,0,none⟩) 32 32)) (fun _ _ hF=>aY (n:=32) (e:=5) (sz:=1) rfl (by kernel_rfl) (by kernel_rfl) (hF.ev 3 rfl)) 8 ?_
 refine rx1k 3 ?_
 refine rm 3 hH (fun _ hF=>cX (C:=cSl) (e:=27) (z:=(.slice none 0 0)) (by_:=24) [((some ⟨g1,0,none⟩),32,32),((some ⟨g2,0,none⟩),32,32),((some ⟨g3,0,none⟩),32,32)] rfl (by kernel_rfl) (by kernel_rfl) (EvP.cons (v:=cSl.val ((some ⟨g1,0,none⟩),32,32)) (hF.ev 2 rfl) (EvP.cons (v:=cSl.val ((some ⟨g2,0,none⟩),32,32)) (hF.ev 1 rfl) (EvP.cons (v:=cSl.val ((some ⟨g3,0,none⟩),32,32)) (hF.ev 0 rfl) EvP.nil))) rfl (ltb rfl) (leb rfl) rfl) trivial 7 (.nil _ []) ?_
 clear hH
 rintro _ _ w ⟨g5,rfl,rfl⟩ hH
 refine ⟨an,rx1k 4 ?_⟩
 refine rm 4 hH (.call Tryz.func33 ((B1 (some ⟨g5,0,none⟩) 3 [((some ⟨g1,0,none⟩),32,32),((some ⟨g2,0,none⟩),32,32),((some ⟨g3,0,none⟩),32,32)] (lst 32 a) (lst 32 b) (lst 32 c) (by rw [ao,ao,ao]; decide)))) (⟨((Bk.lits (C:=cSl) [((some ⟨g1,0,none⟩),32,32),((some ⟨g2,0,none⟩),32,32),((some ⟨g3,0,none⟩),32,32)] (by show 3≤_; unfold maxLen; decide)).vu (n:=3) (hH.blk 4 rfl) rfl),(.cons (bp (hH.blk 0 rfl)) (.cons (bp (hH.blk 1 rfl)) (.cons (bp (hH.blk 2 rfl)) ViewsL.nil)))⟩) 1 (.nil _ []) ?_
 clear hH
 rintro v10 E6 w hO7 hH
 obtain ⟨A8,c9,rfl⟩:=hO7.slice
 refine ⟨an,rv 5 .mv 1 ?_⟩
 refine rn ?_
 refine zr (zv .mv 1 ?_)
 refine zm hH (fun _ hF=>cX (C:=af) (e:=5) (z:=(.int .u8 0)) (by_:=1) [79,112,101,110,80,71,80,32,88,50,53,53,49,57] rfl (by kernel_rfl) (by kernel_rfl) (EvP.cons (v:=af.val 79) rfl (EvP.cons (v:=af.val 112) rfl (EvP.cons (v:=af.val 101) rfl (EvP.cons (v:=af.val 110) rfl (EvP.cons (v:=af.val 80) rfl (EvP.cons (v:=af.val 71) rfl (EvP.cons (v:=af.val 80) rfl (EvP.cons (v:=af.val 32) rfl (EvP.cons (v:=af.val 88) rfl (EvP.cons (v:=af.val 50) rfl (EvP.cons (v:=af.val 53) rfl (EvP.cons (v:=af.val 53) rfl (EvP.cons (v:=af.val 49) rfl (EvP.cons (v:=af.val 57) rfl EvP.nil)))))))))))))) rfl (ltb rfl) (leb rfl) rfl) trivial 0 ?_
 clear hH
 rintro _ _ w ⟨g12,rfl,rfl⟩ hH
 refine ze 6 hH rfl (fun _ hF=>sS (e:=5) rfl (by kernel_rfl) (by kernel_rfl) (hF.ev 0 rfl)) trivial 1 ?_
 clear hH
 rintro _ _ w ⟨rfl,rfl⟩ hH
 refine zm hH (.call Tryz.func34 ((yC none 0 0 [] (by decide) A8 (((lst 32 a)++((lst 32 b)++(lst 32 c))).length) c9 ((lst 32 a)++((lst 32 b)++(lst 32 c))) (by simp only [List.length_append,ao]; decide) (some ⟨g12,0,none⟩) 14 14 ([79,112,101,110,80,71,80,32,88,50,53,53,49,57]) (by decide) 16 (by decide) (by decide)))) (⟨(hH.oldBlk hR.1 (by simp)),(hH.oldBlk hR.2 (by simp)),Vu.none _ _,(hO7.vuAt (hH.has 5 rfl)),((Bk.lits (C:=af) [79,112,101,110,80,71,80,32,88,50,53,53,49,57] (by show 14≤_; unfold maxLen; decide)).vuM (hH.blk 6 rfl) rfl)⟩) 3 ?_
 clear hH
 rintro v17 E13 w hO14 hH
 obtain ⟨q,hq⟩:∃ q,q=df a b c:=⟨_,rfl⟩
 replace hO14:OwnT af 5 v17 (df a b c) E13:=hO14
 rw [← hq] at hO14
 have hkl:q.length=16:=hq ▸ fZ a b c
 obtain ⟨A15,c16,rfl⟩:=hO14.slice
 obtain ⟨g19,cap20,cur21,hv23,rfl,hB22⟩:=hO14.open (by omega)
 obtain ⟨rfl,rfl⟩:A15=some ⟨g19,0,none⟩∧c16=cap20:=by injection hv23 with h1 h2 h3; exact ⟨h1,h3⟩
 have:=hB22.le
 refine zv (v:=(.pointer (some ⟨g19,0,none⟩))) (fun _ _ hF=>cf (m:=16) (e:=5) rfl (by kernel_rfl) (hF.ev 0 rfl) (by omega)) 1 ?_
 refine zs (hH.q 7 rfl) (.ld (ae 16) (ai q 0) (fun _ hS=>((hB22.holdsL hS).arr 0 16 (by first | omega | (rw [ao]; omega) | (simp only [List.length_drop,List.length_take,ao]; omega) | (simp only [List.length_drop,List.length_take]; omega))))) 1 ?_
 refine ze0 3 hH rfl (.sw (ae 16) (fun _=>0) (ai q 0)) trivial ?_
 clear hH
 rintro _ _ w rfl hH
 refine zn (au (aH 1 (hH.blk 3 rfl) rfl rfl (by kernel_rfl) (Cod.size _ _) (by kernel_rfl) ?_))
 exact ⟨by first | (rw [← hq]; rfl) | rw [← hq],HH.toBelow hH⟩
theorem uC (K S:Nat→UInt8):Pure Tryz.prog 15 #[((ae 16).val K),((ae 32).val S)] (fun w=>w.heap[0]?=some (.cells ((ae 256).enc ag) 103 (0,0))) ((ae 40).val (ai (bW (lst 16 K) (lst 32 S)) 0)):=by
 refine pU Tryz.func15 Tryz.ntmps15 ?_
 intro w0 hH hR
 refine zr (zm hH (.bx (ae 16) K) trivial 1 ?_)
 clear hH
 rintro _ _ w ⟨g1,rfl,rfl⟩ hH
 refine zm hH (.bx (ae 32) S) trivial 2 ?_
 clear hH
 rintro _ _ w ⟨g2,rfl,rfl⟩ hH
 refine zm hH (.al (ae 40) (fun _=>0)) trivial 0 ?_
 clear hH
 rintro _ _ w ⟨g3,rfl,rfl⟩ hH
 refine zn (zx ?_)
 replace hH:=hH.drew
 refine rv 0 (v:=(.slice (some ⟨g1,0,none⟩) 16 16)) (fun _ _ hF=>aY (n:=16) (e:=5) (sz:=1) rfl (by kernel_rfl) (by kernel_rfl) (hF.ev 2 rfl)) 4 ?_
 refine rv 1 (v:=(.slice (some ⟨g2,0,none⟩) 32 32)) (fun _ _ hF=>aY (n:=32) (e:=5) (sz:=1) rfl (by kernel_rfl) (by kernel_rfl) (hF.ev 2 rfl)) 4 ?_
 refine rx1k 2 ?_
 refine rm 2 hH (.call Tryz.func32 ((wE (some ⟨g1,0,none⟩) 16 16 (lst 16 K) (ao _ _) (.inl (ao _ _)) (some ⟨g2,0,none⟩) 32 32 (lst 32 S) (ao _ _) (by rw [ao]; decide) (by rw [ao])))) (⟨(hH.oldBlk hR (by simp)),(bp (hH.blk 0 rfl)),(bp (hH.blk 1 rfl))⟩) 3 (.nil _ []) ?_
 clear hH
 rintro _ E4 w ⟨s8,rfl,hO5⟩ hH
 obtain ⟨A6,c7,rfl⟩:=hO5.slice
 refine ⟨an,rv 3 .mv 1 ?_⟩
 refine rv 4 .ext 0 ?_
 refine rv 5 .ext 2 ?_
 refine rv 6 .mv 2 ?_
 refine rv 7 .mv 2 ?_
 refine rn ?_
 have hwl:(bW (lst 16 K) (lst 32 S)).length=40:=by rw [i8,ao]
 refine zr (zv .mv 3 ?_)
 obtain ⟨g10,cap11,cur12,hv14,rfl,hB13⟩:=hO5.open (by omega)
 obtain ⟨rfl,rfl⟩:A6=some ⟨g10,0,none⟩∧c7=cap11:=by injection hv14 with h1 h2 h3; exact ⟨h1,h3⟩
 have:=hB13.le
 refine zv (v:=(.pointer (some ⟨g10,0,none⟩))) (fun _ _ hF=>cf (m:=40) (e:=5) rfl (by kernel_rfl) (hF.ev 0 rfl) (by omega)) 1 ?_
 refine zs (hH.q 3 rfl) (.ld (ae 40) (ai (bW (lst 16 K) (lst 32 S)) 0) (fun _ hS=>((hB13.holdsL hS).arr 0 40 (by first | omega | (rw [ao]; omega) | (simp only [List.length_drop,List.length_take,ao]; omega) | (simp only [List.length_drop,List.length_take]; omega))))) 1 ?_
 refine ze0 2 hH rfl (.sw (ae 40) (fun _=>0) (ai (bW (lst 16 K) (lst 32 S)) 0)) trivial ?_
 clear hH
 rintro _ _ w rfl hH
 refine zn (au (aH 1 (hH.blk 2 rfl) rfl rfl (by kernel_rfl) (Cod.size _ _) (by kernel_rfl) ?_))
 exact ⟨rfl,HH.toBelow hH⟩
theorem pj (K:Nat→UInt8) (A:Option Addr) (n c:Nat) (m:List UInt8) (hn:n=40):Pure Tryz.prog 29 #[((ae 16).val K),(.slice A n c)] (fun w=>w.heap[0]?=some (.cells ((ae 256).enc ag) 103 (0,0))∧Vu af w A n c m) (.tuple #[(ae 32).val (uwV K m),.int .i64 ((unE (lst 16 K) m:Nat):Int)]):=by
 refine pU Tryz.func29 Tryz.ntmps29 ?_
 intro w0 hH hR
 have hml:=hR.2.len
 refine zr (zm hH (.bx (ae 16) K) trivial 1 ?_)
 clear hH
 rintro _ _ w ⟨g1,rfl,rfl⟩ hH
 refine zm hH (.al (ae 32) (fun _=>0)) trivial 0 ?_
 clear hH
 rintro _ _ w ⟨g2,rfl,rfl⟩ hH
 refine zv .mv 0 ?_
 refine zn (zr (zv (v:=(.slice (some ⟨g1,0,none⟩) 16 16)) (fun _ _ hF=>aY (n:=16) (e:=5) (sz:=1) rfl (by kernel_rfl) (by kernel_rfl) (hF.ev 2 rfl)) 5 ?_))
 refine zv .mv 4 ?_
 refine zm hH (.call Tryz.func49 ((sA (some ⟨g1,0,none⟩) 16 16 (lst 16 K) (ao _ _) (.inl (ao _ _)) A n c m hR.2.len (by omega) (by omega)))) (⟨(hH.oldBlk hR.1 (by simp)),(bp (hH.blk 0 rfl)),(hH.vu hR.2 (by decide) (Off.nil _ _))⟩) 3 ?_
 clear hH
 rintro _ E3 w ⟨s7,rfl,hO4⟩ hH
 obtain ⟨A5,c6,rfl⟩:=hO4.slice
 refine zv .mv 1 ?_
 refine zv .ext 0 ?_
 refine zv .ext 2 ?_
 refine zv .mv 2 ?_
 refine zv .mv 2 ?_
 refine zn (ak (zr (zv .mv 1 ?_)))
 refine zv (.ne (unE (lst 16 K) m≠0)) 1 ?_
 refine zv .mv 1 ?_
 refine gY 0 rfl (l1:=[(16,(.bool true)),(6,(.slice A5 ((unL (lst 16 K) m).length) c6)),(4,(.pointer (some ⟨g2,0,none⟩)))]) (l2:=[(16,(.bool false)),(6,(.slice A5 ((unL (lst 16 K) m).length) c6)),(4,(.pointer (some ⟨g2,0,none⟩)))]) rfl rfl (fun hg9 => ?_) (fun hg9 => ?_)
 refine pxU rfl (gA 0 rfl rfl rfl (by decide)) (kA rfl) (by decide) ?_
 refine pxU rfl (gA 0 rfl rfl rfl (by decide)) (kA rfl) (by decide) ?_
 refine pxU rfl (gA 0 rfl rfl rfl (by decide)) (kA rfl) (by decide) ?_
 refine zv (v:=(.bool true)) (fun _ _ hF=>ce rfl (hF.ev 0 rfl) rfl) 1 ?_
 refine zn (zT ?_)
 refine zr (zv (v:=((ae 32).val (fun _=>0))) (fun _ _ hF=>aG (cells:=(ae 32).enc (fun _=>0)) (vals:=[]) rfl EvP.nil (by kernel_rfl) _) 3 ?_)
 refine ze0 1 hH rfl (.sw (ae 32) (fun _=>0) (fun _=>0)) trivial ?_
 clear hH
 rintro _ _ w rfl hH
 refine zv .mv 1 ?_
 refine zn (au (bO ?_))
 refine bj 1 0 (hH.blk 1 rfl) rfl rfl rfl (by kernel_rfl) (Cod.size _ _) (by kernel_rfl) ?_
 have he:=xR hg9
 have hv:uwV K m=fun _=>0:=if_neg hg9
 exact ⟨by rw [he,hv]; rfl,HH.toBelow hH⟩
 refine pxV (v:=(.slice A5 ((unL (lst 16 K) m).length) c6)) (fun _ _ hF=>bo rfl (hF.ev 1 rfl)) rfl (gOn 0 rfl rfl rfl (by decide)) (kA rfl) (by decide) ?_
 refine pxV (v:=(.int .i64 ((((unL (lst 16 K) m).length):Nat):Int))) (fun _ _ hF=>gr (e:=5) rfl (by kernel_rfl) (hF.ev 0 rfl)) rfl (gOn 1 rfl rfl rfl (by decide)) (kM [false,true,true,true] rfl rfl) (by decide) ?_
 refine pxV (v:=(.bool false)) (fun _ _ hF=>pB rfl (hF.ev 0 rfl) rfl (decide_eq_false (by rw [qY (Decidable.not_not.1 hg9)]; omega))) rfl (gOn 1 rfl rfl rfl (by decide)) (kM [false,true,true,true] rfl rfl) (by decide) ?_
 refine zv (v:=(.bool false)) (fun _ _ hF=>dt rfl (hF.ev 1 rfl) (hF.ev 0 rfl)) 3 ?_
 refine zn (zF ?_)
 refine av (ah ?_)
 have hwl:(unL (lst 16 K) m).length=32:=by rw [qY (Decidable.not_not.1 hg9)]; omega
 refine zr (zv .mv 3 ?_)
 obtain ⟨g10,cap11,cur12,hv14,rfl,hB13⟩:=hO4.open (by omega)
 obtain ⟨rfl,rfl⟩:A5=some ⟨g10,0,none⟩∧c6=cap11:=by injection hv14 with h1 h2 h3; exact ⟨h1,h3⟩
 have:=hB13.le
 refine zv (v:=(.pointer (some ⟨g10,0,none⟩))) (fun _ _ hF=>cf (m:=32) (e:=5) rfl (by kernel_rfl) (hF.ev 0 rfl) (by omega)) 1 ?_
 refine zs (hH.q 2 rfl) (.ld (ae 32) (ai (unL (lst 16 K) m) 0) (fun _ hS=>((hB13.holdsL hS).arr 0 32 (by first | omega | (rw [ao]; omega) | (simp only [List.length_drop,List.length_take,ao]; omega) | (simp only [List.length_drop,List.length_take]; omega))))) 1 ?_
 refine ze0 1 hH rfl (.sw (ae 32) (fun _=>0) (ai (unL (lst 16 K) m) 0)) trivial ?_
 clear hH
 rintro _ _ w rfl hH
 refine zv .mv 1 ?_
 refine zn (au (bj 1 0 (hH.blk 1 rfl) rfl rfl rfl (by kernel_rfl) (Cod.size _ _) (by kernel_rfl) ?_))
 have he:=Decidable.not_not.1 hg9
 have hv:uwV K m=ai (unL (lst 16 K) m) 0:=if_pos he
 exact ⟨by rw [he,hv]; rfl,HH.toBelow hH⟩
theorem sB (A:Option Addr) (n c:Nat) (l:List UInt8) (B:Option Addr) (m d:Nat) (x:List UInt8):Pure Tryz.prog 48 #[(.slice A n c),(.slice B m d)] (fun w=>Vu af w A n c l∧Vu af w B m d x) (.bool (decide (l=x))):=by
 refine pU Tryz.func48 Tryz.ntmps48 ?_
 intro w0 hH hR
 refine zr (zv .mv 0 ?_)
 refine zn (zr (zv .mv 3 ?_))
 refine zs (S:=fun w=>Vu af w A n c l) (hH.vu hR.1 (by decide) (Off.nil _ _)) (v:=(.string (gn l))) (fun _ _ hF hS=>jj (e:=5) rfl (by kernel_rfl) (by kernel_rfl) (by kernel_rfl) (hF.ev 0 rfl) hS) 1 ?_
 refine zv .mv 2 ?_
 refine zs (S:=fun w=>Vu af w B m d x) (hH.vu hR.2 (by decide) (Off.nil _ _)) (v:=(.string (gn x))) (fun _ _ hF hS=>jj (e:=5) rfl (by kernel_rfl) (by kernel_rfl) (by kernel_rfl) (hF.ev 0 rfl) hS) 1 ?_
 refine zv (v:=(.bool (decide (l=x)))) (fun _ _ hF=>At (l:=l) (m:=x) rfl (hF.ev 1 rfl) (hF.ev 0 rfl) Iff.rfl) 3 ?_
 refine zv .mv 1 ?_
 refine zn (au (aZ 0 rfl rfl ?_))
 exact ⟨rfl,HH.toBelow hH⟩
theorem uD (s:Bt×Bt×Bt):Does Tryz.prog 17 #[(cSe.val s)] [] (fun _=>True) (fun v E'=>OwnT af 5 v (dg s.1 s.2.1 (lst 40 s.2.2)) E'):=by
 refine dU Tryz.func17 Tryz.ntmps17 ?_
 intro w0 hH hR
 replace hH:HH w0 [] [] w0:=hH.only [false]
 refine zr (zm hH (.bx cSe s) trivial 1 ?_)
 clear hH
 rintro _ _ w ⟨g1,rfl,rfl⟩ hH
 refine zv .mv 0 ?_
 refine zn (zx ?_)
 replace hH:=hH.drew
 refine cP 2 [mkv 0 3 [] [] (fun G g=>(.slice (some ⟨g,0,none⟩) 3 3)) fun G g=>[bl g 5 (bi af [6,33,6]).toArray],pv 1 4 [] [] fun G=>(.pointer (some ⟨g1,0,none⟩)),pv 2 5 [1] [] fun G=>(.slice (some ⟨g1,0,none⟩) 32 32),mkv 3 6 [] [] (fun G g=>(.slice (some ⟨g,0,none⟩) 1 1)) fun G g=>[bl g 5 (af.enc 25)],pv 4 7 [] [] fun G=>(.pointer (some ⟨g1,32,none⟩)),pv 5 8 [4] [] fun G=>(.slice (some ⟨g1,32,none⟩) 32 32),mkv 6 9 [] [] (fun G g=>(.slice (some ⟨g,0,none⟩) 1 1)) fun G g=>[bl g 5 (af.enc 40)],pv 7 10 [] [] fun G=>(.pointer (some ⟨g1,64,none⟩)),pv 8 11 [7] [] fun G=>(.slice (some ⟨g1,64,none⟩) 40 40),mkv 9 12 [0,2,3,5,6,8] [0,3,6] (fun G g=>(.slice (some ⟨g,0,none⟩) 6 6)) fun G g=>[bl g 27 (bi cSl [((some ⟨(G 0).g,0,none⟩),3,3),((some ⟨g1,0,none⟩),32,32),((some ⟨(G 3).g,0,none⟩),1,1),((some ⟨g1,32,none⟩),32,32),((some ⟨(G 6).g,0,none⟩),1,1),((some ⟨g1,64,none⟩),40,40)]).toArray]] (fun G=>[(12,(.slice (some ⟨(G 9).g,0,none⟩) 6 6)),(2,(.slice none 0 0))]) (fun G=>[[bl g1 49 (cSe.enc s)],[bl (G 0).g 5 (bi af [6,33,6]).toArray],[bl (G 3).g 5 (af.enc 25)],[bl (G 6).g 5 (af.enc 40)],[bl (G 9).g 27 (bi cSl [((some ⟨(G 0).g,0,none⟩),3,3),((some ⟨g1,0,none⟩),32,32),((some ⟨(G 3).g,0,none⟩),1,1),((some ⟨g1,32,none⟩),32,32),((some ⟨(G 6).g,0,none⟩),1,1),((some ⟨g1,64,none⟩),40,40)]).toArray]]) hH (.c (.a (fun _ _ _ _=>trivial) (fun G=>(fun _ hF=>cX (C:=af) (e:=5) (z:=(.int .u8 0)) (by_:=1) [6,33,6] rfl (by kernel_rfl) (by kernel_rfl) (EvP.cons (v:=af.val 6) rfl (EvP.cons (v:=af.val 33) rfl (EvP.cons (v:=af.val 6) rfl EvP.nil))) rfl (ltb rfl) (leb rfl) rfl)) fun _ _ _ h=>h) <| .c (.v fun G=>(.fld 0)) <| .c (.v fun G=>(fun _ _ hF=>aY (n:=32) (e:=5) (sz:=1) rfl (by kernel_rfl) (by kernel_rfl) (hF.ev 0 rfl))) <| .c (.a (fun _ _ _ _=>trivial) (fun G=>(fun _ hF=>cz (e:=5) (sz:=1) (z:=(.int .u8 0)) (by_:=1) (cs:=af.enc 25) rfl (by kernel_rfl) (by kernel_rfl) rfl (af.len 25) (ltb rfl) (leb rfl) rfl)) fun _ _ _ h=>h) <| .c (.v fun G=>(.fld 32)) <| .c (.v fun G=>(fun _ _ hF=>aY (n:=32) (e:=5) (sz:=1) rfl (by kernel_rfl) (by kernel_rfl) (hF.ev 0 rfl))) <| .c (.a (fun _ _ _ _=>trivial) (fun G=>(fun _ hF=>cz (e:=5) (sz:=1) (z:=(.int .u8 0)) (by_:=1) (cs:=af.enc 40) rfl (by kernel_rfl) (by kernel_rfl) rfl (af.len 40) (ltb rfl) (leb rfl) rfl)) fun _ _ _ h=>h) <| .c (.v fun G=>(.fld 64)) <| .c (.v fun G=>(fun _ _ hF=>aY (n:=40) (e:=5) (sz:=1) rfl (by kernel_rfl) (by kernel_rfl) (hF.ev 0 rfl))) <| .c (.a (fun _ _ _ _=>trivial) (fun G=>(fun _ hF=>cX (C:=cSl) (e:=27) (z:=(.slice none 0 0)) (by_:=24) [((some ⟨(G 0).g,0,none⟩),3,3),((some ⟨g1,0,none⟩),32,32),((some ⟨(G 3).g,0,none⟩),1,1),((some ⟨g1,32,none⟩),32,32),((some ⟨(G 6).g,0,none⟩),1,1),((some ⟨g1,64,none⟩),40,40)] rfl (by kernel_rfl) (by kernel_rfl) (EvP.cons (v:=cSl.val ((some ⟨(G 0).g,0,none⟩),3,3)) (hF.ev 0 rfl) (EvP.cons (v:=cSl.val ((some ⟨g1,0,none⟩),32,32)) (hF.ev 1 rfl) (EvP.cons (v:=cSl.val ((some ⟨(G 3).g,0,none⟩),1,1)) (hF.ev 2 rfl) (EvP.cons (v:=cSl.val ((some ⟨g1,32,none⟩),32,32)) (hF.ev 3 rfl) (EvP.cons (v:=cSl.val ((some ⟨(G 6).g,0,none⟩),1,1)) (hF.ev 4 rfl) (EvP.cons (v:=cSl.val ((some ⟨g1,64,none⟩),40,40)) (hF.ev 5 rfl) EvP.nil)))))) rfl (ltb rfl) (leb rfl) rfl)) fun _ _ _ h=>h) <| .nil) ?_
 clear hH
 rintro G w - hH
 revert hH
 generalize (G 0).g=g2
 generalize (G 3).g=g3
 generalize (G 6).g=g4
 generalize (G 9).g=g5
 intro hH
 refine rx1k 10 ?_
 refine rm 10 hH (.call Tryz.func33 ((im (some ⟨g5,0,none⟩) 6 6 [((some ⟨g2,0,none⟩),3,3),((some ⟨g1,0,none⟩),32,32),((some ⟨g3,0,none⟩),1,1),((some ⟨g1,32,none⟩),32,32),((some ⟨g4,0,none⟩),1,1),((some ⟨g1,64,none⟩),40,40)] [[6,33,6],(lst 32 s.1),[25],(lst 32 s.2.1),[40],(lst 40 s.2.2)] rfl (by decide) (by simp only [List.flatten_cons,List.flatten_nil,List.length_append,List.length_cons,List.length_nil,ao]; omega)))) (⟨((Bk.lits (C:=cSl) [((some ⟨g2,0,none⟩),3,3),((some ⟨g1,0,none⟩),32,32),((some ⟨g3,0,none⟩),1,1),((some ⟨g1,32,none⟩),32,32),((some ⟨g4,0,none⟩),1,1),((some ⟨g1,64,none⟩),40,40)] (by show 6≤_; unfold maxLen; decide)).vu (n:=6) (hH.blk 4 rfl) rfl),(.cons ((Bk.lits (C:=af) [6,33,6] (by show 3≤_; unfold maxLen; decide)).vu (n:=3) (hH.blk 1 rfl) rfl) (.cons (dJ (ac (hH.blk 0 rfl)).fst) (.cons ((Bk.lit1 (C:=af) 25).vu (n:=1) (hH.blk 2 rfl) rfl) (.cons (dJ ((ac (hH.blk 0 rfl)).snd).fst) (.cons ((Bk.lit1 (C:=af) 40).vu (n:=1) (hH.blk 3 rfl) rfl) (.cons (dJ ((ac (hH.blk 0 rfl)).snd).snd) ViewsL.nil))))))⟩) 1 (.nil _ []) ?_
 clear hH
 rintro v10 E6 w hO7 hH
 obtain ⟨A8,c9,rfl⟩:=hO7.slice
 refine ⟨an,rv 11 .mv 3 ?_⟩
 refine rn ?_
 refine au (aZ 0 rfl rfl ?_)
 exact ⟨_,_,rfl,n9 _ _ _ ▸ hO7,hH.out1 [false,false,false,false,false,true] rfl⟩
def rbV (l:List UInt8):Bt×Bt×Bt:=if isB l then (ai l 3,ai l 36,ai l 69) else (fun _=>0,fun _=>0,fun _=>0)
theorem kG (A:Option Addr) (n c:Nat) (l:List UInt8):Pure Tryz.prog 28 #[(.slice A n c)] (fun w=>Vu af w A n c l) (.tuple #[cSe.val (rbV l),.bool (decide (isB l))]):=by
 refine pU Tryz.func28 Tryz.ntmps28 ?_
 intro w0 hH hR
 have hll:=hR.len
 refine zr (zm hH (.al cSe (fun _=>0,fun _=>0,fun _=>0)) trivial 0 ?_)
 clear hH
 rintro _ _ w ⟨g1,rfl,rfl⟩ hH
 refine zv .mv 0 ?_
 refine zn (ak (zr (zv .mv 1 ?_)))
 refine zv .len 1 ?_
 refine zv (.ne (n≠109)) 1 ?_
 refine zn ?_
 refine zP (fun hc2 => ?_) (fun hc2 => ?_)
 refine zr (zv (v:=(cSe.val (fun _=>0,fun _=>0,fun _=>0))) (fun _ _ hF=>aG (cells:=cSe.enc (fun _=>0,fun _=>0,fun _=>0)) (vals:=[]) rfl EvP.nil (by kernel_rfl) _) 5 ?_)
 refine ze0 0 hH rfl (.sw cSe (fun _=>0,fun _=>0,fun _=>0) (fun _=>0,fun _=>0,fun _=>0)) trivial ?_
 clear hH
 rintro _ _ w rfl hH
 refine zv .mv 1 ?_
 refine zn (au (bO ?_))
 refine bj 1 0 (hH.blk 0 rfl) rfl rfl rfl (by kernel_rfl) (Cod.size _ _) (by kernel_rfl) ?_
 have hb:¬ isB l:=fun hb=>hc2 (by rw [← hll]; exact hb.1)
 have he:rbV l=(fun _=>0,fun _=>0,fun _=>0):=if_neg hb
 exact ⟨by rw [he,decide_eq_false hb]; rfl,HH.toBelow hH⟩
 refine av (ah ?_)
 obtain ⟨b3,off4,rfl,hL5,hb6,hR7⟩:=hR.blk (by decide) (Off.nil _ _) (by omega)
 have:=hR.cap
 refine zx ?_
 replace hH:=hH.drew
 refine rv 0 .mv 1 ?_
 refine rv 1 (v:=(.slice (some ⟨b3,off4+3*1,none⟩) (n - 3) (c - 3))) (fun _ _ hF=>fV (k:=3) (e:=5) (sz:=1) rfl (by kernel_rfl) (by kernel_rfl) (hF.ev 0 rfl) rfl rfl (by omega) (by omega)) 1 ?_
 refine rv 2 (v:=(.pointer (some ⟨b3,off4+3*1,none⟩))) (fun _ _ hF=>cf (m:=32) (e:=5) rfl (by kernel_rfl) (hF.ev 0 rfl) (by omega)) 1 ?_
 refine rld 3 (S:=fun w=>HoldsL af w b3 off4 l) (hH.holdsL hL5 hb6 hR7) (.ld (ae 32) (ai l 3) (fun _ hS=>(hS.arr 3 32 (by first | omega | (rw [ao]; omega) | (simp only [List.length_drop,List.length_take,ao]; omega) | (simp only [List.length_drop,List.length_take]; omega))))) 1 ?_
 refine rv 4 .mv 0 ?_
 refine rv 5 (v:=(.slice (some ⟨b3,off4+36*1,none⟩) (n - 36) (c - 36))) (fun _ _ hF=>fV (k:=36) (e:=5) (sz:=1) rfl (by kernel_rfl) (by kernel_rfl) (hF.ev 0 rfl) rfl rfl (by omega) (by omega)) 1 ?_
 refine rv 6 (v:=(.pointer (some ⟨b3,off4+36*1,none⟩))) (fun _ _ hF=>cf (m:=32) (e:=5) rfl (by kernel_rfl) (hF.ev 0 rfl) (by omega)) 1 ?_
 refine rld 7 (S:=fun w=>HoldsL af w b3 off4 l) (hH.holdsL hL5 hb6 hR7) (.ld (ae 32) (ai l 36) (fun _ hS=>(hS.arr 36 32 (by first | omega | (rw [ao]; omega) | (simp only [List.length_drop,List.length_take,ao]; omega) | (simp only [List.length_drop,List.length_take]; omega))))) 1 ?_
 refine rv 8 .mv 0 ?_
 refine rv 9 (v:=(.slice (some ⟨b3,off4+69*1,none⟩) (n - 69) (c - 69))) (fun _ _ hF=>fV (k:=69) (e:=5) (sz:=1) rfl (by kernel_rfl) (by kernel_rfl) (hF.ev 0 rfl) rfl rfl (by omega) (by omega)) 1 ?_
 refine rv 10 (v:=(.pointer (some ⟨b3,off4+69*1,none⟩))) (fun _ _ hF=>cf (m:=40) (e:=5) rfl (by kernel_rfl) (hF.ev 0 rfl) (by omega)) 1 ?_
 refine rld 11 (S:=fun w=>HoldsL af w b3 off4 l) (hH.holdsL hL5 hb6 hR7) (.ld (ae 40) (ai l 69) (fun _ hS=>(hS.arr 69 40 (by first | omega | (rw [ao]; omega) | (simp only [List.length_drop,List.length_take,ao]; omega) | (simp only [List.length_drop,List.length_take]; omega))))) 1 ?_
 refine rv 12 (v:=(cSe.val ((ai l 3),(ai l 36),(ai l 69)))) (fun _ _ hF=>aG (cells:=cSe.enc ((ai l 3),(ai l 36),(ai l 69))) rfl (EvP.cons (v:=((ae 32).val (ai l 3))) (hF.ev 2 rfl) (EvP.cons (v:=((ae 32).val (ai l 36))) (hF.ev 1 rfl) (EvP.cons (v:=((ae 40).val (ai l 69))) (hF.ev 0 rfl) EvP.nil))) (pJ (x:=((ai l 3),(ai l 36),(ai l 69))) (by kernel_rfl) rfl rfl rfl) _) 7 ?_
 refine rx1k 13 ?_
 refine rm 13 hH (.al cSe (fun _=>0,fun _=>0,fun _=>0)) trivial 0 (.keep (.keep (.keep (.nil _ [])))) ?_
 clear hH
 rintro _ _ w ⟨g8,rfl,rfl⟩ hH
 refine ⟨pcons (hH.holdsL hL5 hb6 hR7) (pcons (hH.holdsL hL5 hb6 hR7) (pcons (hH.holdsL hL5 hb6 hR7) an)),?_⟩
 refine rx1k 14 ?_
 refine re0 14 1 hH rfl (.sw cSe (fun _=>0,fun _=>0,fun _=>0) ((ai l 3),(ai l 36),(ai l 69))) trivial (pgo [] (pgo [] (pgo [] (.nil _ [])))) ?_
 clear hH
 rintro _ _ w rfl hH
 refine ⟨an,rn ?_⟩
 refine ak (zr (zv .mv 10 ?_))
 refine zs (hH.q 1 rfl) (.ld cSe ((ai l 3),(ai l 36),(ai l 69)) (fun _=>ac)) 0 ?_
 refine zm hH (.call Tryz.func17 ((uD ((ai l 3),(ai l 36),(ai l 69))))) trivial 1 ?_
 clear hH
 rintro v13 E9 w hO10 hH
 obtain ⟨A11,c12,rfl⟩:=hO10.slice
 refine zc Tryz.func48 (sB (some ⟨b3,off4,none⟩) n c l A11 ((dg (ai l 3) (ai l 36) (lst 40 (ai l 69))).length) c12 (dg (ai l 3) (ai l 36) (lst 40 (ai l 69)))) (⟨(hH.vu hR (by decide) (Off.nil _ _)),(hO10.vuAt (hH.has 2 rfl))⟩) hH 3 ?_
 clear hH
 intro w hH
 refine zv (v:=(.bool (decide (¬ (l=(dg (ai l 3) (ai l 36) (lst 40 (ai l 69)))))))) (fun _ _ hF=>el rfl (hF.ev 0 rfl) decide_not.symm) 1 ?_
 refine zn ?_
 refine zP (fun hc15 => ?_) (fun hc15 => ?_)
 refine zr (zv (v:=(cSe.val (fun _=>0,fun _=>0,fun _=>0))) (fun _ _ hF=>aG (cells:=cSe.enc (fun _=>0,fun _=>0,fun _=>0)) (vals:=[]) rfl EvP.nil (by kernel_rfl) _) 3 ?_)
 refine ze0 0 hH rfl (.sw cSe (fun _=>0,fun _=>0,fun _=>0) (fun _=>0,fun _=>0,fun _=>0)) trivial ?_
 clear hH
 rintro _ _ w rfl hH
 refine zv .mv 1 ?_
 refine zn (au (bO ?_))
 refine bj 1 0 (hH.blk 0 rfl) rfl rfl rfl (by kernel_rfl) (Cod.size _ _) (by kernel_rfl) ?_
 have hb:¬ isB l:=fun hb=>hc15 (by have:=hb.2; rwa [← kF (n:=40) (by omega)] at this)
 have he:rbV l=(fun _=>0,fun _=>0,fun _=>0):=if_neg hb
 exact ⟨by rw [he,decide_eq_false hb]; rfl,HH.toBelow hH⟩
 refine av (ah (zr (zs (hH.q 1 rfl) (.ld cSe ((ai l 3),(ai l 36),(ai l 69)) (fun _=>ac)) 3 ?_)))
 refine ze0 0 hH rfl (.sw cSe (fun _=>0,fun _=>0,fun _=>0) ((ai l 3),(ai l 36),(ai l 69))) trivial ?_
 clear hH
 rintro _ _ w rfl hH
 refine zv .mv 1 ?_
 refine zn (au (bj 1 0 (hH.blk 0 rfl) rfl rfl rfl (by kernel_rfl) (Cod.size _ _) (by kernel_rfl) ?_))
 have hb:isB l:=⟨by omega,by have:=Decidable.not_not.1 hc15; rwa [kF (by omega)] at this⟩
 have he:rbV l=(ai l 3,ai l 36,ai l 69):=if_pos hb
 exact ⟨by rw [he,decide_eq_true hb]; rfl,HH.toBelow hH⟩
def qZ (ss:List Nat) (cs:Array Value):List (Nat×Value)→Array Value
 | []=>cs
 | p :: r=>qZ ss (bJ cs ((ss.take p.1).sum) p.2.cells.toList) r
def zD (ss:List Nat):List (Nat×Value)→Prop
 | []=>True
 | p :: r=>(∃ s,ss[p.1]?=some s∧p.2.cells.size=s∧(ss.take p.1).sum+s≤ss.sum)∧zD ss r
theorem lY (ss:List Nat):∀ (ps:List (Nat×Value)) (cs:Array Value),zD ss ps→cs.size=ss.sum→Instr.fill ((dx 0 ss).toArray[·]?) cs ps=some (qZ ss cs ps)
 | [],_,_,_=>by simp [Instr.fill,qZ]
 | (i,v) :: r,cs,h,hz=>by
  obtain ⟨⟨s,hs,hv,hf⟩,hr⟩:=h
  have hpl:=ez ss 0 i s hs
  rw [Nat.zero_add] at hpl
  unfold Instr.fill
  have hv':v.cells.size=s:=hv
  have hf':(ss.take i).sum+s≤ss.sum:=hf
  simp only [List.getElem?_toArray,hpl,hv']
  rw [if_neg (by simp; omega)]
  have hq:=e8 v.cells.toList (ss.take i).sum cs 0
  rw [Nat.add_zero] at hq
  rw [← Array.foldl_toList,Array.toList_zipIdx,hq]
  have ih:=lY ss r (bJ cs (ss.take i).sum v.cells.toList) hr (by rw [putL_size]; exact hz)
  simp only [List.getElem?_toArray] at ih
  rw [ih]
  rfl
theorem kH {P:Program} {ty:TypeId} {ps:List (Nat×Value)} {z:Array Value} (ss:List Nat) (h:dI P ty ss=true) (hz:((P.info? ty).bind (·.zero)).map (·.cells)=some z) (hs:zD ss ps):P.built ty ps=some (qZ ss z ps):=by
 unfold dI at h
 unfold Program.built
 cases hi:P.info? ty with
 | none=>rw [hi] at h; cases h
 | some it =>
  cases hu:P.underlying ty with
  | none=>rw [hi,hu] at h; cases h
  | some d =>
   rw [hi,hu] at h
   rw [hi] at hz
   cases d <;> try (cases h; done)
   rename_i fields
   simp only at h ⊢
   cases hzz:it.zero with
   | none=>rw [hzz] at h; cases h
   | some zv =>
    cases hp:fields.toList.mapM (fun f=>(P.info? f.type).map fun i=>(f.offset,i.size)) with
    | none=>rw [hzz,hp] at h; cases h
    | some places =>
     rw [hzz,hp] at h
     simp only [Bool.and_eq_true,beq_iff_eq] at h
     obtain ⟨rfl,h2⟩:=h
     simp only [Option.bind_some,hzz,Option.map_some,Option.some.injEq] at hz
     subst hz
     have:=lY ss ps zv.cells hs (by rw [h2])
     simpa using this
theorem pk {P:Program} {ty:TypeId} {α β γ:Type} {A:Cod α} {B:Cod β} {C:Cod γ} {u v:Value} {a:α} {b:β} (a0:α) (b0:β) (c:γ) (h:dI P ty [A.sz,B.sz,C.sz]=true) (hz:((P.info? ty).bind (·.zero)).map (·.cells)=some ((bm A (bm B C)).enc (a0,b0,c))) (hu:A.val a=u) (hv:B.val b=v):P.built ty [(0,u),(1,v)]=some ((bm A (bm B C)).enc (a,b,c)):=by
 subst hu hv
 rw [kH (ps:=[(0,A.val a),(1,B.val b)]) [A.sz,B.sz,C.sz] h hz ⟨⟨A.sz,rfl,A.len a,by simp⟩,⟨B.sz,rfl,B.len b,by simp⟩,trivial⟩]
 show some (bJ (bJ _ 0 (A.enc a).toList) (A.sz+0) (B.enc b).toList)=_
 rw [cF (cA A a0 a) (by rw [Array.length_toList,Cod.size]; omega),cm (cF (cA B b0 b) (by rw [Array.length_toList,Cod.size]; omega)) (by omega)]
theorem gR {P:Program} {ty:TypeId} {α β γ δ:Type} {A:Cod α} {B:Cod β} {C:Cod γ} {D:Cod δ} {u v x:Value} {a:α} {b:β} {c:γ} (a0:α) (b0:β) (c0:γ) (d:δ) (h:dI P ty [A.sz,B.sz,C.sz,D.sz]=true) (hz:((P.info? ty).bind (·.zero)).map (·.cells)=some ((bm A (bm B (bm C D))).enc (a0,b0,c0,d))) (hu:A.val a=u) (hv:B.val b=v) (hx:C.val c=x):P.built ty [(0,u),(1,v),(2,x)]=some ((bm A (bm B (bm C D))).enc (a,b,c,d)):=by
 subst hu hv hx
 rw [kH (ps:=[(0,A.val a),(1,B.val b),(2,C.val c)]) [A.sz,B.sz,C.sz,D.sz] h hz ⟨⟨A.sz,rfl,A.len a,by simp⟩,⟨B.sz,rfl,B.len b,by first | omega | (simp; done) | (simp; omega)⟩,⟨C.sz,rfl,C.len c,by first | (simp; done) | (simp; omega)⟩,trivial⟩]
 show some (bJ (bJ (bJ _ 0 (A.enc a).toList) (A.sz+0) (B.enc b).toList) (A.sz+(B.sz+0)) (C.enc c).toList)=_
 rw [cF (cA A a0 a) (by rw [Array.length_toList,Cod.size]; omega),cm (cF (cA B b0 b) (by rw [Array.length_toList,Cod.size]; omega)) rfl,cm (cm (off:=0) (cF (cA C c0 c) (by rw [Array.length_toList,Cod.size]; omega)) rfl) rfl]
theorem wF:((Tryz.prog.info? 49).bind (·.zero)).map (·.cells)=some ((bm (ae 32) (bm (ae 32) (ae 40))).enc (fun _=>0,fun _=>0,fun _=>0)):=by kernel_rfl
theorem uE (S:Bt) (ct:Ct) (d:Bt):Does Tryz.prog 7 #[((ae 32).val S),(cCe.val ct),((ae 32).val d)] [] (fun w=>w.heap[3]?=some (.cells ((cWs 64).enc K32) 119 (0,0))∧w.heap[2]?=some (.cells ((cWs 8).enc H32) 118 (0,0))∧w.heap[0]?=some (.cells ((ae 256).enc ag) 103 (0,0))) (fun v E' => ∃ s,v=.tuple #[s,.int .i64 ((skE d ct:Nat):Int)]∧OwnT af 5 s (skL S ct d) E'):=by
 refine dU Tryz.func7 Tryz.ntmps7 ?_
 intro w0 hH hR
 replace hH:HH w0 [] [] w0:=hH.only [false]
 refine zr (zm hH (.bx (ae 32) S) trivial 1 ?_)
 clear hH
 rintro _ _ w ⟨g1,rfl,rfl⟩ hH
 refine zm hH (.bx cCe ct) trivial 2 ?_
 clear hH
 rintro _ _ w ⟨g2,rfl,rfl⟩ hH
 refine zm hH (.bx (ae 32) d) trivial 4 ?_
 clear hH
 rintro _ _ w ⟨g3,rfl,rfl⟩ hH
 refine zv .mv 0 ?_
 refine zv .mv 1 ?_
 refine zn (zr (zs (hH.q 2 rfl) (.ld (ae 32) d (fun _=>ac)) 1 ?_))
 refine zv (.fld 33) 0 ?_
 refine zs (hH.q 1 rfl) (.ld (ae 32) ct.2.2.1 (fun _ hS=>(((ac hS).snd).snd).fst)) 1 ?_
 refine zc Tryz.func13 (n0 d ct.2.2.1) trivial hH 3 ?_
 clear hH
 intro w hH
 refine zv .mv 1 ?_
 refine zv .ext 0 ?_
 refine zv .ext 2 ?_
 refine zm hH (.al (ae 32) (fun _=>0)) trivial 0 ?_
 clear hH
 rintro _ _ w ⟨g4,rfl,rfl⟩ hH
 refine ze0 3 hH rfl (.sw (ae 32) (fun _=>0) (bc d ct.2.2.1)) trivial ?_
 clear hH
 rintro _ _ w rfl hH
 refine zv .mv 6 ?_
 refine zn (ak (zr (zv .mv 1 ?_)))
 refine zv (.ne (shE (bc d ct.2.2.1)≠0)) 1 ?_
 refine zn ?_
 refine zP (fun hc5 => ?_) (fun hc5 => ?_)
 refine zr (zv .mv 31 ?_)
 refine zv .mv 0 ?_
 refine zn (au (bO ?_))
 refine fm 1 0 rfl rfl rfl ?_
 have he:=Bq hc5
 have hl:skL S ct d=[]:=if_neg hc5
 exact ⟨_,_,rfl,⟨_,by rw [show skE d ct=2 from he]; rfl,hl ▸ OwnT.nil _ _⟩,HH.out (HH.pad hH 1) [false,false,false,false,true]⟩
 refine av (ah (zx ?_))
 replace hH:=hH.drew
 have hi6:1<2:=by omega
 refine cP 0 [pv 0 20 [] [] fun G=>(.pointer (some ⟨g2,65,none⟩)),pv 1 21 [0] [] fun G=>(.pointer (some ⟨g2,65+1*32,none⟩)),ldv 2 22 [1] [] [1001] fun G=>((ae 32).val (fun q9=>ct.2.2.2 (32*1+q9))),ldv 3 23 [] [] [1002] fun G=>((ae 32).val d),pv 4 24 [3] [] fun G=>((ae 32).val (aI d)),pv 5 25 [2,4] [] fun G=>(cSe.val ((fun q9=>ct.2.2.2 (32*1+q9)),(aI d),fun _=>0)),alv 6 10 [] [] fun G g=>[bl g 49 (cSe.enc (fun _=>0,fun _=>0,fun _=>0))],stv 7 [5,6] [6] 6 fun G=>[bl (G 6).g 49 (cSe.enc ((fun q9=>ct.2.2.2 (32*1+q9)),(aI d),fun _=>0))]] (fun G=>[(10,(.pointer (some ⟨(G 6).g,0,none⟩))),(8,(.pointer (some ⟨g4,0,none⟩))),(4,(.pointer (some ⟨g2,0,none⟩))),(3,(.pointer (some ⟨g1,0,none⟩)))]) (fun G=>[[bl g1 22 ((ae 32).enc S)],[bl g2 33 (cCe.enc ct)],[bl g3 22 ((ae 32).enc d)],[bl g4 22 ((ae 32).enc (bc d ct.2.2.1))],[bl (G 6).g 49 (cSe.enc ((fun q9=>ct.2.2.2 (32*1+q9)),(aI d),fun _=>0))]]) hH (.c (.v fun G=>(.fld 65)) <| .c (.v fun G=>(.ia 32 2 1 (hi:=hi6))) <| .c (.ld (fun G _ _ hH=>(hH.q 0 rfl)) fun G=>(.ld (ae 32) (fun q9=>ct.2.2.2 (32*1+q9)) (fun _ hS=>(Holds.row ((((ac hS).snd).snd).snd) 1 32 (by omega))))) <| .c (.ld (fun G _ _ hH=>(hH.q 0 rfl)) fun G=>(.ld (ae 32) d (fun _=>ac))) <| .c (Sp.c Tryz.func14 (fun G=>(o9 d)) fun _=>trivial) <| .c (.v fun G=>(fun _ _ hF=>aG (cells:=cSe.enc ((fun q9=>ct.2.2.2 (32*1+q9)),(aI d),fun _=>0)) rfl (EvP.cons (v:=((ae 32).val (fun q9=>ct.2.2.2 (32*1+q9)))) (hF.ev 0 rfl) (EvP.cons (v:=((ae 32).val (aI d))) (hF.ev 1 rfl) EvP.nil)) (pk (A:=ae 32) (B:=ae 32) (C:=ae 40) (fun _=>0) (fun _=>0) (fun _=>0) (by kernel_rfl) wF rfl rfl) _)) <| .c (.a (fun _ _ _ _=>trivial) (fun G=>(.al cSe (fun _=>0,fun _=>0,fun _=>0))) fun _ _ _ h=>h) <| .c (.tn (fun G=>(.sw cSe (fun _=>0,fun _=>0,fun _=>0) ((fun q9=>ct.2.2.2 (32*1+q9)),(aI d),fun _=>0))) (fun _ _ _ _=>trivial) fun _ _ _ h=>h) <| .nil) ?_
 clear hH
 rintro G w - hH
 revert hH
 generalize (G 6).g=g7
 intro hH
 refine rn ?_
 refine zx ?_
 replace hH:=hH.drew
 refine rv 0 (.fld 32) 0 ?_
 refine rld 1 (hH.q 4 rfl) (.ld (ae 32) (aI d) (fun _ hS=>((ac hS).snd).fst)) 1 ?_
 refine rv 2 (.fld 33) 8 ?_
 refine rld 3 (hH.q 1 rfl) (.ld (ae 32) ct.2.2.1 (fun _ hS=>(((ac hS).snd).snd).fst)) 1 ?_
 refine rld 4 (hH.q 3 rfl) (.ld (ae 32) (bc d ct.2.2.1) (fun _=>ac)) 8 ?_
 refine rld 6 (hH.q 0 rfl) (.ld (ae 32) S (fun _=>ac)) 16 ?_
 refine rx1k 5 (rpc 5 Tryz.func16 (lX (aI d) ct.2.2.1 (bc d ct.2.2.1)) (⟨(hH.oldBlk hR.1 (by simp)),(hH.oldBlk hR.2.1 (by simp))⟩) hH 14 (.keep (pgo [] (pgo [] (pgo [] (.nil _ []))))) ?_)
 clear hH
 intro w hH
 refine ⟨pcons (hH.blk 0 rfl) an,?_⟩
 refine rx1k 7 (rpc 7 Tryz.func15 (uC (ai (df (aI d) ct.2.2.1 (bc d ct.2.2.1)) 0) S) (hH.oldBlk hR.2.2 (by simp)) hH 3 (pgo [] (.nil _ [])) ?_)
 clear hH
 intro w hH
 refine ⟨an,rv 8 (.fld 64) 0 ?_⟩
 refine rx1k 9 ?_
 refine re0 9 4 hH rfl (fun _ hF=>bY (C:=(ae 40)) (z:=(ai (bW (lst 16 (ai (df (aI d) ct.2.2.1 (bc d ct.2.2.1)) 0)) (lst 32 S)) 0)) rfl (hF.ev 0 rfl) (hF.ev 1 rfl) rfl (by kernel_rfl) (by rw [Cod.size]; exact leb rfl) (cm (cm (cA (ae 40) _ _) rfl) rfl)) trivial (.nil _ []) ?_
 clear hH
 rintro _ _ w rfl hH
 refine ⟨an,rn ?_⟩
 refine zr (zs (hH.q 4 rfl) (.ld cSe ((fun q9=>ct.2.2.2 (32*1+q9)),(aI d),(ai (bW (lst 16 (ai (df (aI d) ct.2.2.1 (bc d ct.2.2.1)) 0)) (lst 32 S)) 0)) (fun _=>ac)) 7 ?_)
 refine zm hH (.call Tryz.func17 ((uD ((fun q9=>ct.2.2.2 (32*1+q9)),(aI d),(ai (bW (lst 16 (ai (df (aI d) ct.2.2.1 (bc d ct.2.2.1)) 0)) (lst 32 S)) 0))))) trivial 1 ?_
 clear hH
 rintro v12 E8 w hO9 hH
 obtain ⟨A10,c11,rfl⟩:=hO9.slice
 refine zv .mv 1 ?_
 refine zv .mv 0 ?_
 refine zn (au (fm 1 0 rfl rfl rfl ?_))
 have he:=Decidable.not_not.1 hc5
 have hl:skL S ct d=dg (pr1 ct) (aI d) (skW S d ct):=if_pos he
 have hw:lst 40 (ai (bW (lst 16 (ai (df (aI d) ct.2.2.1 (bc d ct.2.2.1)) 0)) (lst 32 S)) 0)=skW S d ct:=by rw [iH (fZ _ _ _)]; exact iH (mO S d ct)
 exact ⟨_,_,rfl,⟨(.slice A10 ((dg (fun q9=>ct.2.2.2 (32*1+q9)) (aI d) (lst 40 (ai (bW (lst 16 (ai (df (aI d) ct.2.2.1 (bc d ct.2.2.1)) 0)) (lst 32 S)) 0))).length) c11),by rw [show skE d ct=0 from he]; rfl,hl.trans (congrArg (dg _ _) hw.symm) ▸ hO9⟩,hH.out1 [false,false,false,false,false,true] rfl⟩
theorem Br {K l:List UInt8} (hK:K.length=16) (h:l.length=109):(.tuple #[(ae 32).val (uwV (ai K 0) (lst 40 (ai l 69))),.int .i64 ((unE (lst 16 (ai K 0)) (lst 40 (ai l 69)):Nat):Int)]:Value)=.tuple #[(ae 32).val (uwV (ai K 0) (l.drop 69)),.int .i64 ((unE K (l.drop 69):Nat):Int)]:=by
 rw [kF (l:=l) (k:=69) (by omega),iH hK]
theorem zE {K m:List UInt8} (hK:K.length=16):(if unE K m=0 then (ai (unL K m) 0,0) else ((fun _=>0:Bt),5))=(uwV (ai K 0) m,unE K m):=by
 unfold uwV
 rw [iH hK]
 by_cases h:unE K m=0
 ·rw [if_pos h,if_pos h,h]
 ·rw [if_neg h,if_neg h,xR h]
theorem pl (A:Option Addr) (n c:Nat) (l:List UInt8) (k:Bt×Bt) (ct:Ct):Pure Tryz.prog 11 #[(.slice A n c),(cKy.val k),(cCe.val ct)] (fun w=>w.heap[3]?=some (.cells ((cWs 64).enc K32) 119 (0,0))∧w.heap[2]?=some (.cells ((cWs 8).enc H32) 118 (0,0))∧w.heap[0]?=some (.cells ((ae 256).enc ag) 103 (0,0))∧Vu af w A n c l) (.tuple #[(ae 32).val (opR l k.2 ct).1,.int .i64 (((opR l k.2 ct).2:Nat):Int)]):=by
 refine pU Tryz.func11 Tryz.ntmps11 ?_
 intro w0 hH hR
 refine zr (zm hH (.bx cKy k) trivial 2 ?_)
 clear hH
 rintro _ _ w ⟨g1,rfl,rfl⟩ hH
 refine zm hH (.bx cCe ct) trivial 4 ?_
 clear hH
 rintro _ _ w ⟨g2,rfl,rfl⟩ hH
 refine zm hH (.al (ae 32) (fun _=>0)) trivial 0 ?_
 clear hH
 rintro _ _ w ⟨g3,rfl,rfl⟩ hH
 refine zv .mv 0 ?_
 refine zn ?_
 rcases Decidable.em (isB l) with hb | hb
 refine zr (zv .mv 17 ?_)
 refine zc Tryz.func28 ((kG A n c l).as (v:=(.tuple #[(cSe.val (ai l 3,ai l 36,ai l 69)),(.bool true)])) (by rw [show rbV l=(ai l 3,ai l 36,ai l 69) from if_pos hb,decide_eq_true hb])) (hH.vu hR.2.2.2 (by decide) (Off.nil _ _)) hH 1 ?_
 clear hH
 intro w hH
 refine zv .mv 1 ?_
 refine zv .ext 0 ?_
 refine zv .ext 2 ?_
 refine zm hH (.al cSe (fun _=>0,fun _=>0,fun _=>0)) trivial 0 ?_
 clear hH
 rintro _ _ w ⟨g4,rfl,rfl⟩ hH
 refine ze0 3 hH rfl (.sw cSe (fun _=>0,fun _=>0,fun _=>0) (ai l 3,ai l 36,ai l 69)) trivial ?_
 clear hH
 rintro _ _ w rfl hH
 refine zv .mv 6 ?_
 refine zn (ak (zr (zv .mv 1 ?_)))
 refine zv (v:=(.bool false)) (fun _ _ hF=>el rfl (hF.ev 0 rfl) rfl) 1 ?_
 refine zn (zF ?_)
 refine av (ah (ak (zr (zv (.fld 0) 1 ?_))))
 refine zs (hH.q 3 rfl) (.ld (ae 32) (ai l 3) (fun _ hS=>(ac hS).fst)) 1 ?_
 refine zv (.fld 65) 8 ?_
 have hi5:1<2:=by omega
 refine zv (.ia 32 2 1 (hi:=hi5)) 1 ?_
 refine zs (hH.q 1 rfl) (.ld (ae 32) (fun q9=>ct.2.2.2 (32*1+q9)) (fun _ hS=>(Holds.row ((((ac hS).snd).snd).snd) 1 32 (by omega)))) 1 ?_
 refine zv (v:=(.bool (decide (¬ lst 32 (ai l 3)=lst 32 (pr1 ct))))) (fun _ _ hF=>xk (n:=32) (e:=5) (f:=ai l 3) (g:=(fun q9=>ct.2.2.2 (32*1+q9))) rfl (by kernel_rfl) (by kernel_rfl) (by kernel_rfl) (hF.ev 1 rfl) (hF.ev 0 rfl) (by kernel_rfl) Iff.rfl) 3 ?_
 refine zn ?_
 refine zP (fun hc6 => ?_) (fun hc6 => ?_)
 refine zr (zv (v:=((ae 32).val (fun _=>0))) (fun _ _ hF=>aG (cells:=(ae 32).enc (fun _=>0)) (vals:=[]) rfl EvP.nil (by kernel_rfl) _) 11 ?_)
 refine ze0 2 hH rfl (.sw (ae 32) (fun _=>0) (fun _=>0)) trivial ?_
 clear hH
 rintro _ _ w rfl hH
 refine zv .mv 1 ?_
 refine zn (au (bO ?_))
 refine bj 1 0 (hH.blk 2 rfl) rfl rfl rfl (by kernel_rfl) (Cod.size _ _) (by kernel_rfl) ?_
 have hv:opR l k.2 ct=(fun _=>0,3):=by unfold opR; rw [if_pos hb,if_neg hc6]
 exact ⟨by rw [hv]; rfl,HH.toBelow hH⟩
 refine av (ah (zr (zv (.fld 32) 1 ?_)))
 refine zs (hH.q 0 rfl) (.ld (ae 32) k.2 (fun _ hS=>(ac hS).snd)) 1 ?_
 refine zv (.fld 32) 0 ?_
 refine zs (hH.q 3 rfl) (.ld (ae 32) (ai l 36) (fun _ hS=>((ac hS).snd).fst)) 1 ?_
 refine zc Tryz.func13 (n0 k.2 (ai l 36)) trivial hH 3 ?_
 clear hH
 intro w hH
 refine zv .mv 1 ?_
 refine zv .ext 0 ?_
 refine zv .ext 2 ?_
 refine zm hH (.al (ae 32) (fun _=>0)) trivial 0 ?_
 clear hH
 rintro _ _ w ⟨g7,rfl,rfl⟩ hH
 refine ze0 4 hH rfl (.sw (ae 32) (fun _=>0) (bc k.2 (ai l 36))) trivial ?_
 clear hH
 rintro _ _ w rfl hH
 refine zv .mv 6 ?_
 refine zn (ak (zr (zv .mv 1 ?_)))
 refine zv (.ne (shE (bc k.2 (ai l 36))≠0)) 1 ?_
 refine zn ?_
 refine zP (fun hc8 => ?_) (fun hc8 => ?_)
 refine zr (zv (v:=((ae 32).val (fun _=>0))) (fun _ _ hF=>aG (cells:=(ae 32).enc (fun _=>0)) (vals:=[]) rfl EvP.nil (by kernel_rfl) _) 23 ?_)
 refine ze0 2 hH rfl (.sw (ae 32) (fun _=>0) (fun _=>0)) trivial ?_
 clear hH
 rintro _ _ w rfl hH
 refine zv .mv 1 ?_
 refine zn (au (bO ?_))
 refine bj 1 0 (hH.blk 2 rfl) rfl rfl rfl (by kernel_rfl) (Cod.size _ _) (by kernel_rfl) ?_
 have hv:opR l k.2 ct=(fun _=>0,2):=by unfold opR; rw [if_pos hb,if_pos (Decidable.not_not.1 hc6),if_neg hc8]
 exact ⟨by rw [hv]; rfl,HH.toBelow hH⟩
 refine av (ah (zx ?_))
 replace hH:=hH.drew
 refine rv 0 (.fld 32) 1 ?_
 refine rld 1 (hH.q 3 rfl) (.ld (ae 32) (ai l 36) (fun _ hS=>((ac hS).snd).fst)) 1 ?_
 refine rv 2 (.fld 32) 16 ?_
 refine rld 3 (hH.q 0 rfl) (.ld (ae 32) k.2 (fun _ hS=>(ac hS).snd)) 1 ?_
 refine rld 5 (hH.q 4 rfl) (.ld (ae 32) (bc k.2 (ai l 36)) (fun _=>ac)) 4 ?_
 refine rv 7 (.fld 64) 8 ?_
 refine rv 8 (v:=(.slice (some ⟨g4,64,none⟩) 40 40)) (fun _ _ hF=>aY (n:=40) (e:=5) (sz:=1) rfl (by kernel_rfl) (by kernel_rfl) (hF.ev 0 rfl)) 1 ?_
 refine rx1k 4 (rpc 4 Tryz.func14 (o9 k.2) trivial hH 4 (.keep (pgo [] (.keep (.nil _ [])))) ?_)
 clear hH
 intro w hH
 refine ⟨pcons (hH.blk 4 rfl) (pcons (hH.blk 3 rfl) an),?_⟩
 refine rx1k 6 (rpc 6 Tryz.func16 (lX (ai l 36) (aI k.2) (bc k.2 (ai l 36))) (⟨(hH.oldBlk hR.1 (by simp)),(hH.oldBlk hR.2.1 (by simp))⟩) hH 13 (pgo [] (pgo [] (.nil _ []))) ?_)
 clear hH
 intro w hH
 refine ⟨an,?_⟩
 refine rx1k 9 (rpc 9 Tryz.func29 ((pj (ai (df (ai l 36) (aI k.2) (bc k.2 (ai l 36))) 0) (some ⟨g4,64,none⟩) 40 40 (lst 40 (ai l 69)) rfl).as (v:=.tuple #[(ae 32).val (uwV (ai (df (ai l 36) (aI k.2) (bc k.2 (ai l 36))) 0) (l.drop 69)),.int .i64 ((unE (df (ai l 36) (aI k.2) (bc k.2 (ai l 36))) (l.drop 69):Nat):Int)]) (Br (fZ _ _ _) hb.1)) (⟨(hH.oldBlk hR.2.2.1 (by simp)),(dJ ((ac (hH.blk 3 rfl)).snd).snd)⟩) hH 3 (.nil _ []) ?_)
 clear hH
 intro w hH
 refine ⟨an,rv 10 .ext 0 ?_⟩
 refine rv 11 .ext 2 ?_
 refine rx1k 12 ?_
 refine re0 12 2 hH rfl (.sw (ae 32) (fun _=>0) (uwV (ai (df (ai l 36) (aI k.2) (bc k.2 (ai l 36))) 0) (l.drop 69))) trivial (.nil _ []) ?_
 clear hH
 rintro _ _ w rfl hH
 refine ⟨an,rv 13 .mv 3 ?_⟩
 refine rn ?_
 refine au (bj 1 0 (hH.blk 2 rfl) rfl rfl rfl (by kernel_rfl) (Cod.size _ _) (by kernel_rfl) ?_)
 have hv:opR l k.2 ct=(uwV (ai (df (ai l 36) (aI k.2) (bc k.2 (ai l 36))) 0) (l.drop 69),unE (df (ai l 36) (aI k.2) (bc k.2 (ai l 36))) (l.drop 69)):=by unfold opR; rw [if_pos hb,if_pos (Decidable.not_not.1 hc6),if_pos (Decidable.not_not.1 hc8)]; exact zE (fZ _ _ _)
 exact ⟨by rw [hv]; rfl,HH.toBelow hH⟩
 refine zr (zv .mv 17 ?_)
 refine zc Tryz.func28 ((kG A n c l).as (v:=(.tuple #[(cSe.val (fun _=>0,fun _=>0,fun _=>0)),(.bool false)])) (by rw [show rbV l=(fun _=>0,fun _=>0,fun _=>0) from if_neg hb,decide_eq_false hb])) (hH.vu hR.2.2.2 (by decide) (Off.nil _ _)) hH 1 ?_
 clear hH
 intro w hH
 refine zv .mv 1 ?_
 refine zv .ext 0 ?_
 refine zv .ext 2 ?_
 refine zm hH (.al cSe (fun _=>0,fun _=>0,fun _=>0)) trivial 0 ?_
 clear hH
 rintro _ _ w ⟨g9,rfl,rfl⟩ hH
 refine ze0 3 hH rfl (.sw cSe (fun _=>0,fun _=>0,fun _=>0) (fun _=>0,fun _=>0,fun _=>0)) trivial ?_
 clear hH
 rintro _ _ w rfl hH
 refine zv .mv 6 ?_
 refine zn (ak (zr (zv .mv 1 ?_)))
 refine zv (v:=(.bool true)) (fun _ _ hF=>el rfl (hF.ev 0 rfl) rfl) 1 ?_
 refine zn (zT ?_)
 refine zr (zv (v:=((ae 32).val (fun _=>0))) (fun _ _ hF=>aG (cells:=(ae 32).enc (fun _=>0)) (vals:=[]) rfl EvP.nil (by kernel_rfl) _) 27 ?_)
 refine ze0 2 hH rfl (.sw (ae 32) (fun _=>0) (fun _=>0)) trivial ?_
 clear hH
 rintro _ _ w rfl hH
 refine zv .mv 1 ?_
 refine zn (au (bO ?_))
 refine bj 1 0 (hH.blk 2 rfl) rfl rfl rfl (by kernel_rfl) (Cod.size _ _) (by kernel_rfl) ?_
 have hv:opR l k.2 ct=(fun _=>0,2):=by unfold opR; rw [if_neg hb]
 exact ⟨by rw [hv]; rfl,HH.toBelow hH⟩
section
variable {P:Program} {Q:Exit→Act→World→Prop} {w w0:World} {n:Sz} {l l':aR} {x y:Code} {fn:Func} {σ:Type}
def xS (n:Sz) (fr:σ→aR) (I:σ→World→Prop) (a:Act) (w:World):Prop := ∃ z,Fr n (fr z) a∧I z w
theorem kI (fr:σ→aR) (I:σ→World→Prop) (h1:CX P (Exit.then (xS n fr I) Q) x n l w) (h2:∀ z w,I z w→CX P Q y n (fr z) w):CX P Q (.seq x y) n l w:=fun a hF=>by
 refine wp_seq (wp_mono (h1 a hF) fun e a w q => ?_)
 cases e with
 | normal =>
  obtain ⟨z,hz,hI⟩:=q
  exact h2 z w hI a hz
 | _=>exact q
theorem ek {fr:σ→aR} {I:σ→World→Prop} (z:σ) (hI:I z w) (hfr:∀ q∈fr z,q∈l):QX (Exit.then (xS n fr I) Q) .normal n l w:=fun _ hF=>⟨z,hF.of hfr,hI⟩
end
abbrev cCi:=bm (ae 256) (bm (ae 256) (bm (ae 240) (fo .i64)))
theorem dr {s s' b b':Nat→UInt8} {f f':Nat→UInt8} {r:Nat} (h0:∀ j,j<256→s j=s' j) (h1:∀ j,j<256→b j=b' j) (h2:∀ j,j<240→f j=f' j):cCi.enc (s,b,f,r)=cCi.enc (s',b',f',r):=by
 rw [bw,bw,bw,bw,bw,bw,aB h0,aB h1,aB h2]
theorem wG (n:Nat):cCi.enc (fun _=>0,fun _=>0,fun _=>0,n)=(row 752 fun _=>0).push (.int .i64 (n:Int)):=by
 have e:(fo .i64).enc n = #[.int .i64 (n:Int)]:=rfl
 rw [bw,bw,bw,cW,cW,e]
 apply Array.ext_getElem?
 intro j
 rw [Array.getElem?_push,bD]
 by_cases h0:j<256
 ·rw [Array.getElem?_append_left (by rw [bD]; exact h0),bX _ _ _ h0,if_neg (by omega),bX _ _ _ (by omega)]
 ·rw [Array.getElem?_append_right (by rw [bD]; omega),bD]
  by_cases h1:j<512
  ·rw [Array.getElem?_append_left (by rw [bD]; omega),bX _ _ _ (by omega),if_neg (by omega),bX _ _ _ (by omega)]
  ·rw [Array.getElem?_append_right (by rw [bD]; omega),bD]
   by_cases h2:j<752
   ·rw [Array.getElem?_append_left (by rw [bD]; omega),bX _ _ _ (by omega),if_neg (by omega),bX _ _ _ (by omega)]
   ·rw [Array.getElem?_append_right (by rw [bD]; omega),bD]
    by_cases h3:j=752
    ·subst h3; rfl
    ·rw [if_neg h3,Array.getElem?_eq_none (by show 1≤_; omega),Array.getElem?_eq_none (by rw [bD]; omega)]
theorem wH:Tryz.prog.built 107 [(3,.int .i64 10)]=some ((row 752 fun _=>0).push (.int .i64 10)):=by kernel_rfl
theorem wJ:Tryz.prog.built 107 [(3,.int .i64 14)]=some ((row 752 fun _=>0).push (.int .i64 14)):=by kernel_rfl
theorem wK (n:Nat) (h:n=10 ∨ n=14):Tryz.prog.built 107 [(3,.int .i64 (n:Int))]=some (cCi.enc (fun _=>0,fun _=>0,fun _=>0,n)):=by
 rw [wG]
 rcases h with rfl | rfl
 ·exact wH
 ·exact wJ
theorem oa (a b:UInt8) (k:Nat):tmS a b (k+1)=(if (tmS a b k).2.2 &&& 1=1 then (tmS a b k).1 ^^^ (tmS a b k).2.1 else (tmS a b k).1,sl8 (tmS a b k).2.1 1 ^^^ 27*sr8 (tmS a b k).2.1 7,sr8 (tmS a b k).2.2 1):=rfl
theorem wL {x:UInt8} {n:Nat} (h:x.toNat=n):x=UInt8.ofNat n:=by rw [← h,UInt8.ofNat_toNat]
theorem wM {x:UInt8} {n:Nat} (h:¬ x.toNat=n) (hn:n<256):¬ x=UInt8.ofNat n:=fun e=>h (by rw [e,UInt8.toNat_ofNat',Nat.mod_eq_of_lt hn])
theorem iI (a b:UInt8):Pure Tryz.prog 79 #[(.int .u8 a.toNat),(.int .u8 b.toNat)] (fun _=>True) (.int .u8 ((((tmB a b).toNat):Nat):Int)):=by
 refine pU Tryz.func79 Tryz.ntmps79 ?_
 intro w0 hH hR
 refine zr (zv .mv 0 ?_)
 refine zn (zr (zv .mv 1 ?_))
 refine zn (ak (zr (zv .mv 0 ?_)))
 refine zn (aj (zL4 (fun (k:Nat) (p:UInt8) (x:UInt8) (y:UInt8)=>[(7,(.int .i64 k)),(5,(.int .u8 p.toNat)),(1,(.int .u8 y.toNat)),(0,(.int .u8 x.toNat))]) (fun k p x y w=>HH w0 [] [] w∧(k≤8)∧((p,x,y)=tmS a b k)) (fun k _ _ _=>8 - k) 0 0 a b ⟨hH,(Nat.zero_le _),rfl⟩ ?_))
 clear hH
 rintro k p x y w ⟨hH,hk,hq⟩
 refine zr (zv (.lt (k<8)) 0 ?_)
 refine zn (ak ?_)
 refine zP (fun hc1 => ?_) (fun hc1 => ?_)
 refine av (ah (ak (aj (ak (zr (zv .mv 1 ?_))))))
 refine zv (.ab (y &&& (1:UInt8)) (u:=y) (v:=(1:UInt8))) 1 ?_
 refine zv (.eq ((y &&& (1:UInt8)).toNat=1)) 1 ?_
 refine zn ?_
 refine zP (fun hc2 => ?_) (fun hc2 => ?_)
 refine aA (zv .mv 5 ?_)
 refine zv .mv 0 ?_
 refine zv (.xb (p ^^^ x) (u:=p) (v:=x)) 3 ?_
 refine zv .mv 1 ?_
 refine zn (zr (zv .mv 0 ?_))
 refine zv (.rb 7 (u:=x)) 1 ?_
 refine zv .mv 1 ?_
 refine zn (zr (zv .mv 16 ?_))
 refine zv (.lb 1 (u:=x)) 1 ?_
 refine zv .mv 2 ?_
 refine zv (.ub ((27:UInt8)*(sr8 x 7)) (u:=(27:UInt8)) (v:=(sr8 x 7))) 1 ?_
 refine zv (.xb ((sl8 x 1) ^^^ ((27:UInt8)*(sr8 x 7))) (u:=(sl8 x 1)) (v:=((27:UInt8)*(sr8 x 7)))) 3 ?_
 refine zv .mv 1 ?_
 refine zn (aA (zv .mv 8 ?_))
 refine zv (.rb 1 (u:=y)) 1 ?_
 refine zv .mv 1 ?_
 refine aD (aP (ah (aA (zv (.add ((k+1:Nat):Int)) 8 ?_))))
 refine zv .mv 1 ?_
 refine aD ?_
 exact zR4 (k+1) (p ^^^ x) ((sl8 x 1) ^^^ ((27:UInt8)*(sr8 x 7))) (sr8 y 1) ⟨hH,(by omega),(by rw [oa,if_pos (by rw [← hq]; exact wL hc2),← hq])⟩ (by omega)
 refine av (ah (zr (zv .mv 1 ?_)))
 refine zv (.rb 7 (u:=x)) 1 ?_
 refine zv .mv 1 ?_
 refine zn (zr (zv .mv 16 ?_))
 refine zv (.lb 1 (u:=x)) 1 ?_
 refine zv .mv 2 ?_
 refine zv (.ub ((27:UInt8)*(sr8 x 7)) (u:=(27:UInt8)) (v:=(sr8 x 7))) 1 ?_
 refine zv (.xb ((sl8 x 1) ^^^ ((27:UInt8)*(sr8 x 7))) (u:=(sl8 x 1)) (v:=((27:UInt8)*(sr8 x 7)))) 3 ?_
 refine zv .mv 1 ?_
 refine zn (aA (zv .mv 8 ?_))
 refine zv (.rb 1 (u:=y)) 1 ?_
 refine zv .mv 1 ?_
 refine aD (aP (ah (aA (zv (.add ((k+1:Nat):Int)) 4 ?_))))
 refine zv .mv 1 ?_
 refine aD ?_
 exact zR4 (k+1) p ((sl8 x 1) ^^^ ((27:UInt8)*(sr8 x 7))) (sr8 y 1) ⟨hH,(by omega),(by rw [oa,if_neg (by rw [← hq]; exact wM hc2 (by decide)),← hq])⟩ (by omega)
 refine aK (am (am (aS (ah ?_))))
 obtain rfl:k=8:=by omega
 refine zr (zv .mv 31 ?_)
 refine zv .mv 1 ?_
 refine zn (au (aZ 0 rfl rfl ?_))
 exact ⟨by rw [show p=tmB a b from congrArg Prod.fst hq],HH.toBelow hH⟩
theorem Bs (b:UInt8):Pure Tryz.prog 78 #[(.int .u8 b.toNat)] (fun _=>True) (.int .u8 ((((sl b).toNat):Nat):Int)):=by
 refine pU Tryz.func78 Tryz.ntmps78 ?_
 intro w0 hH hR
 refine zr (zv .mv 0 ?_)
 refine zn (zr (zv .mv 1 ?_))
 refine zn (zr (zv .mv 2 ?_))
 refine zv .mv 1 ?_
 refine zn (ak (zr (zv .mv 0 ?_)))
 refine zn (aj (zL1 (fun (k:Nat)=>[(5,(.int .i64 (((k+1):Nat):Int))),(4,(.int .u8 ((((sqS b k).2.toNat):Nat):Int))),(3,(.int .u8 ((((sqS b k).1.toNat):Nat):Int)))]) (fun k w=>HH w0 [] [] w∧(k≤7)) (fun k=>7 - k) 0 ⟨hH,(Nat.zero_le _)⟩ ?_))
 clear hH
 rintro k w ⟨hH,hk⟩
 refine ak (zr (zv .mv 0 ?_))
 refine zv (.lt (k+1<8)) 1 ?_
 refine zn ?_
 refine zP (fun hc1 => ?_) (fun hc1 => ?_)
 refine av (ah (ak (aj (zr (zv .mv 1 ?_)))))
 refine zv .mv 4 ?_
 refine zc Tryz.func79 (iI (sqS b k).2 (sqS b k).2) trivial hH 3 ?_
 clear hH
 intro w hH
 refine zv .mv 1 ?_
 refine zn (aA (zv .mv 4 ?_))
 refine zv .mv 0 ?_
 refine zc Tryz.func79 (iI (sqS b k).1 (tmB (sqS b k).2 (sqS b k).2)) trivial hH 3 ?_
 clear hH
 intro w hH
 refine zv .mv 1 ?_
 refine aD (aP (ah (aA (zv .mv 4 ?_))))
 refine zv (.add (((k+1+1):Nat):Int)) 1 ?_
 refine zv .mv 1 ?_
 refine aD ?_
 exact zR1 (k+1) ⟨hH,(by omega)⟩ (by omega)
 refine aK (am (am (aS (ah ?_))))
 obtain rfl:k=7:=by omega
 refine zr (zv .mv 7 ?_)
 refine zn (ak (zr (zv .mv 0 ?_)))
 refine zn (aj (zL1 (fun (i:Nat)=>[(20,(.int .i64 i)),(6,(.int .u8 ((((uo (sqS b 7).1 i).toNat):Nat):Int))),(3,(.int .u8 ((((sqS b 7).1.toNat):Nat):Int)))]) (fun i w=>HH w0 [] [] w∧(i≤8)) (fun i=>8 - i) 0 ⟨hH,(Nat.zero_le _)⟩ ?_))
 clear hH
 rintro i w ⟨hH,hi⟩
 refine zr (zv (.lt (i<8)) 0 ?_)
 refine zn (ak ?_)
 refine zP (fun hc2 => ?_) (fun hc2 => ?_)
 refine av (ah (ak (aj (zr (zv .mv 1 ?_)))))
 refine zv .mv 1 ?_
 refine zn (zr (zv .mv 0 ?_))
 refine zv .mv 0 ?_
 refine zv (.cu .u64) 1 ?_
 refine zv (.rb i (u:=(sqS b 7).1)) 3 ?_
 refine zv .mv 0 ?_
 refine zv .mv 0 ?_
 refine zv (.add ((i+4:Nat):Int)) 1 ?_
 refine zv (v:=(.int .i64 ((((i+4)%8):Nat):Int))) (fun _ _ hF=>bu (z:=(((i+4)%8:Nat):Int)) rfl (hF.ev 0 rfl) rfl (by omega) cy) 1 ?_
 refine zv (.cu .u64) 1 ?_
 refine zv (.rb ((i+4)%8) (u:=(sqS b 7).1)) 3 ?_
 refine zv (.xb ((sr8 (sqS b 7).1 i) ^^^ (sr8 (sqS b 7).1 ((i+4)%8))) (u:=(sr8 (sqS b 7).1 i)) (v:=(sr8 (sqS b 7).1 ((i+4)%8)))) 3 ?_
 refine zv .mv 0 ?_
 refine zv .mv 0 ?_
 refine zv (.add ((i+5:Nat):Int)) 1 ?_
 refine zv (v:=(.int .i64 ((((i+5)%8):Nat):Int))) (fun _ _ hF=>bu (z:=(((i+5)%8:Nat):Int)) rfl (hF.ev 0 rfl) rfl (by omega) cy) 1 ?_
 refine zv (.cu .u64) 1 ?_
 refine zv (.rb ((i+5)%8) (u:=(sqS b 7).1)) 3 ?_
 refine zv (.xb (((sr8 (sqS b 7).1 i) ^^^ (sr8 (sqS b 7).1 ((i+4)%8))) ^^^ (sr8 (sqS b 7).1 ((i+5)%8))) (u:=((sr8 (sqS b 7).1 i) ^^^ (sr8 (sqS b 7).1 ((i+4)%8)))) (v:=(sr8 (sqS b 7).1 ((i+5)%8)))) 3 ?_
 refine zv .mv 0 ?_
 refine zv .mv 0 ?_
 refine zv (.add ((i+6:Nat):Int)) 1 ?_
 refine zv (v:=(.int .i64 ((((i+6)%8):Nat):Int))) (fun _ _ hF=>bu (z:=(((i+6)%8:Nat):Int)) rfl (hF.ev 0 rfl) rfl (by omega) cy) 1 ?_
 refine zv (.cu .u64) 1 ?_
 refine zv (.rb ((i+6)%8) (u:=(sqS b 7).1)) 3 ?_
 refine zv (.xb ((((sr8 (sqS b 7).1 i) ^^^ (sr8 (sqS b 7).1 ((i+4)%8))) ^^^ (sr8 (sqS b 7).1 ((i+5)%8))) ^^^ (sr8 (sqS b 7).1 ((i+6)%8))) (u:=(((sr8 (sqS b 7).1 i) ^^^ (sr8 (sqS b 7).1 ((i+4)%8))) ^^^ (sr8 (sqS b 7).1 ((i+5)%8)))) (v:=(sr8 (sqS b 7).1 ((i+6)%8)))) 3 ?_
 refine zv .mv 0 ?_
 refine zv .mv 0 ?_
 refine zv (.add ((i+7:Nat):Int)) 1 ?_
 refine zv (v:=(.int .i64 ((((i+7)%8):Nat):Int))) (fun _ _ hF=>bu (z:=(((i+7)%8:Nat):Int)) rfl (hF.ev 0 rfl) rfl (by omega) cy) 1 ?_
 refine zv (.cu .u64) 1 ?_
 refine zv (.rb ((i+7)%8) (u:=(sqS b 7).1)) 3 ?_
 refine zv (.xb (((((sr8 (sqS b 7).1 i) ^^^ (sr8 (sqS b 7).1 ((i+4)%8))) ^^^ (sr8 (sqS b 7).1 ((i+5)%8))) ^^^ (sr8 (sqS b 7).1 ((i+6)%8))) ^^^ (sr8 (sqS b 7).1 ((i+7)%8))) (u:=((((sr8 (sqS b 7).1 i) ^^^ (sr8 (sqS b 7).1 ((i+4)%8))) ^^^ (sr8 (sqS b 7).1 ((i+5)%8))) ^^^ (sr8 (sqS b 7).1 ((i+6)%8)))) (v:=(sr8 (sqS b 7).1 ((i+7)%8)))) 3 ?_
 refine zv .mv 0 ?_
 refine zv (.cu .u64) 1 ?_
 refine zv (.rb i (u:=(99:UInt8))) 1 ?_
 refine zv (.xb ((((((sr8 (sqS b 7).1 i) ^^^ (sr8 (sqS b 7).1 ((i+4)%8))) ^^^ (sr8 (sqS b 7).1 ((i+5)%8))) ^^^ (sr8 (sqS b 7).1 ((i+6)%8))) ^^^ (sr8 (sqS b 7).1 ((i+7)%8))) ^^^ (sr8 (99:UInt8) i)) (u:=(((((sr8 (sqS b 7).1 i) ^^^ (sr8 (sqS b 7).1 ((i+4)%8))) ^^^ (sr8 (sqS b 7).1 ((i+5)%8))) ^^^ (sr8 (sqS b 7).1 ((i+6)%8))) ^^^ (sr8 (sqS b 7).1 ((i+7)%8)))) (v:=(sr8 (99:UInt8) i))) 3 ?_
 refine zv .mv 1 ?_
 refine zn (aA (zv .mv 8 ?_))
 refine zv .mv 2 ?_
 refine zv (.ab (((((((sr8 (sqS b 7).1 i) ^^^ (sr8 (sqS b 7).1 ((i+4)%8))) ^^^ (sr8 (sqS b 7).1 ((i+5)%8))) ^^^ (sr8 (sqS b 7).1 ((i+6)%8))) ^^^ (sr8 (sqS b 7).1 ((i+7)%8))) ^^^ (sr8 (99:UInt8) i)) &&& (1:UInt8)) (u:=((((((sr8 (sqS b 7).1 i) ^^^ (sr8 (sqS b 7).1 ((i+4)%8))) ^^^ (sr8 (sqS b 7).1 ((i+5)%8))) ^^^ (sr8 (sqS b 7).1 ((i+6)%8))) ^^^ (sr8 (sqS b 7).1 ((i+7)%8))) ^^^ (sr8 (99:UInt8) i))) (v:=(1:UInt8))) 1 ?_
 refine zv .mv 4 ?_
 refine zv (.cu .u64) 1 ?_
 refine zv (.lb i (u:=(((((((sr8 (sqS b 7).1 i) ^^^ (sr8 (sqS b 7).1 ((i+4)%8))) ^^^ (sr8 (sqS b 7).1 ((i+5)%8))) ^^^ (sr8 (sqS b 7).1 ((i+6)%8))) ^^^ (sr8 (sqS b 7).1 ((i+7)%8))) ^^^ (sr8 (99:UInt8) i)) &&& (1:UInt8)))) 3 ?_
 refine zv (.ob ((uo (sqS b 7).1 i) ||| (sl8 (((((((sr8 (sqS b 7).1 i) ^^^ (sr8 (sqS b 7).1 ((i+4)%8))) ^^^ (sr8 (sqS b 7).1 ((i+5)%8))) ^^^ (sr8 (sqS b 7).1 ((i+6)%8))) ^^^ (sr8 (sqS b 7).1 ((i+7)%8))) ^^^ (sr8 (99:UInt8) i)) &&& (1:UInt8)) i)) (u:=(uo (sqS b 7).1 i)) (v:=(sl8 (((((((sr8 (sqS b 7).1 i) ^^^ (sr8 (sqS b 7).1 ((i+4)%8))) ^^^ (sr8 (sqS b 7).1 ((i+5)%8))) ^^^ (sr8 (sqS b 7).1 ((i+6)%8))) ^^^ (sr8 (sqS b 7).1 ((i+7)%8))) ^^^ (sr8 (99:UInt8) i)) &&& (1:UInt8)) i))) 3 ?_
 refine zv .mv 1 ?_
 refine aD (aP (ah (aA (zv (.add ((i+1:Nat):Int)) 2 ?_))))
 refine zv .mv 1 ?_
 refine aD ?_
 exact zR1 (i+1) ⟨hH,(by omega)⟩ (by omega)
 refine aK (am (am (aS (ah ?_))))
 obtain rfl:i=8:=by omega
 refine zr (zv .mv 15 ?_)
 refine zv .mv 1 ?_
 refine zn (au (aZ 0 rfl rfl ?_))
 exact ⟨rfl,HH.toBelow hH⟩
theorem q6 {W:Nat→UInt8} {m j:Nat} (h:j<m):upF m W (fun _=>0) j=W j:=bA _ _ h
section
variable {l:List UInt8} {nk d k:Nat} {c:UInt8}
theorem mP (hd:0<nk) {j:Nat} (hj:j<4) (w:Nat→UInt8) (hw:w=upF (4*(nk+d)) (aeW l) fun _=>0):w (4*(nk+d - 1)+j)=aeW l (4*d+(4*nk - 4)+j):=by
 rw [hw,q6 (by omega)]
 congr 1
 omega
theorem Cq (hnk:l.length=4*nk) (h4:nk=4 ∨ nk=8) (hd:d<3*nk+28) (hA:(nk+d)%nk=0) (hc:c=rc ((d+(nk - 1)) / nk)) (w:Nat→UInt8) (hw:w=upF (4*(nk+d)) (aeW l) fun _=>0) (k:Nat) (hk:k<4) :
  aeW l (4*(nk+d)+k)=aeW l (4*d+k) ^^^ pk4 (ag (w (4*(nk+d - 1)+1)).toNat ^^^ c) (ag (w (4*(nk+d - 1)+2)).toNat) (ag (w (4*(nk+d - 1)+3)).toNat) (ag (w (4*(nk+d - 1)+0)).toNat) k:=by
 rw [Nat.add_comm nk d] at hA
 have h:=px (by omega) (ph hnk h4) d _ hd rfl hA k hk
 rw [show 4*d+(4*nk - 4)+4+k - 4*nk=4*d+k by omega,show 4*d+(4*nk - 4)+4+k=4*(nk+d)+k by omega] at h
 have h0:0<nk:=by omega
 rw [mP h0 (j:=0) (by decide) w hw,mP h0 (j:=1) (by decide) w hw,mP h0 (j:=2) (by decide) w hw,mP h0 (j:=3) (by decide) w hw,hc,h]
 unfold pk4 xr
 rcases (by omega:k=0 ∨ k=1 ∨ k=2 ∨ k=3) with rfl | rfl | rfl | rfl <;> simp
theorem Cr (hnk:l.length=4*nk) (h4:nk=4 ∨ nk=8) (hd:d<3*nk+28) (hA:¬ (nk+d)%nk=0) (hC:nk=8∧(nk+d)%nk=4) (w:Nat→UInt8) (hw:w=upF (4*(nk+d)) (aeW l) fun _=>0) (k:Nat) (hk:k<4) :
  aeW l (4*(nk+d)+k)=aeW l (4*d+k) ^^^ pk4 (ag (w (4*(nk+d - 1)+0)).toNat) (ag (w (4*(nk+d - 1)+1)).toNat) (ag (w (4*(nk+d - 1)+2)).toNat) (ag (w (4*(nk+d - 1)+3)).toNat) k:=by
 rw [Nat.add_comm nk d] at hA hC
 have h:=pz (by omega) (ph hnk h4) d _ hd rfl hA hC k hk
 rw [show 4*d+(4*nk - 4)+4+k - 4*nk=4*d+k by omega,show 4*d+(4*nk - 4)+4+k=4*(nk+d)+k by omega] at h
 have h0:0<nk:=by omega
 rw [mP h0 (j:=0) (by decide) w hw,mP h0 (j:=1) (by decide) w hw,mP h0 (j:=2) (by decide) w hw,mP h0 (j:=3) (by decide) w hw,h]
 unfold pk4 xr
 rcases (by omega:k=0 ∨ k=1 ∨ k=2 ∨ k=3) with rfl | rfl | rfl | rfl <;> simp
theorem Bu (hnk:l.length=4*nk) (h4:nk=4 ∨ nk=8) (hd:d<3*nk+28) (hA:¬ (nk+d)%nk=0) (hC:¬ (nk=8∧(nk+d)%nk=4)) (w:Nat→UInt8) (hw:w=upF (4*(nk+d)) (aeW l) fun _=>0) (k:Nat) (hk:k<4) :
  aeW l (4*(nk+d)+k)=aeW l (4*d+k) ^^^ w (4*(nk+d - 1)+k):=by
 rw [Nat.add_comm nk d] at hA hC
 have h:=py (by omega) (ph hnk h4) d _ hd rfl hA hC k hk
 rw [show 4*d+(4*nk - 4)+4+k - 4*nk=4*d+k by omega,show 4*d+(4*nk - 4)+4+k=4*(nk+d)+k by omega] at h
 rw [mP (by omega) hk w hw,h]
 rfl
theorem wN {w T:Nat→UInt8} {v:UInt8} (hw:w=upF (4*(nk+d)+k) (aeW l) fun _=>0) (_:k<4) (h0:0<nk) (hT:aeW l (4*(nk+d)+k)=aeW l (4*d+k) ^^^ T k) (hv:v=w (4*d+k) ^^^ T k):stF w (4*(nk+d)+k) v=upF (4*(nk+d)+(k+1)) (aeW l) fun _=>0:=by
 rw [hw]
 exact bn _ _ _ (by rw [hv,hw,q6 (by omega),hT])
end
theorem Bv (A:Option Addr) (z:Nat) (l:List UInt8) (hk:l.length=16 ∨ l.length=32):Does Tryz.prog 40 #[(.slice A l.length z)] [] (fun w=>Vu af w A l.length z l) (fun v E' => ∃ g,v=.tuple #[.pointer (some ⟨g,0,none⟩),.bool true]∧E'=[bl g 107 (cCi.enc (ag,bk ag 256,(upF (16*(l.length / 4+7)) (aeW l) fun _=>0),(l.length / 4+6)))]):=by
 refine dU Tryz.func40 Tryz.ntmps40 ?_
 intro w0 hH hR
 replace hH:HH w0 [] [] w0:=hH.only [false]
 obtain ⟨nk,hnk,h4⟩:∃ nk,l.length=4*nk∧(nk=4 ∨ nk=8):=⟨l.length / 4,by omega,by omega⟩
 have hlk:=hR.len
 refine zr (zv .mv 0 ?_)
 refine zv .mv 1 ?_
 refine zn ?_
 refine kI (σ:=Unit) (fun x=>[(0,(.slice A l.length z))]) (fun x w=>HH w0 [] [] w) ?_ ?_
 refine zr (zv .mv 1 ?_)
 refine zv .len 1 ?_
 refine zv (.ne (l.length≠16)) 1 ?_
 refine zv .mv 1 ?_
 refine gY 0 rfl (l1:=[(15,(.bool true)),(0,(.slice A l.length z))]) (l2:=[(15,(.bool false)),(0,(.slice A l.length z))]) rfl rfl (fun hg1 => ?_) (fun hg1 => ?_)
 refine pxV (v:=(.slice A l.length z)) (fun _ _ hF=>bo rfl (hF.ev 1 rfl)) rfl (gOn 0 rfl rfl rfl (by decide)) (kA rfl) (by decide) ?_
 refine pxV (v:=(.int .i64 l.length)) (fun _ _ hF=>gr (e:=5) rfl (by kernel_rfl) (hF.ev 0 rfl)) rfl (gOn 1 rfl rfl rfl (by decide)) (kM [false,true,true] rfl rfl) (by decide) ?_
 refine pxV (v:=(.bool (decide (l.length≠32)))) (fun _ _ hF=>pB rfl (hF.ev 0 rfl) rfl (dc (by omega))) rfl (gOn 1 rfl rfl rfl (by decide)) (kM [false,true,true] rfl rfl) (by decide) ?_
 refine zv (v:=(.bool (decide (l.length≠32)))) (fun _ _ hF=>ce rfl (hF.ev 1 rfl) (hF.ev 0 rfl)) 3 ?_
 refine zn ?_
 refine zP (fun hc2 => ?_) (fun hc2 => ?_)
 omega
 refine av ?_
 exact ek () hH (cD [1] rfl)
 refine pxU rfl (gA 0 rfl rfl rfl (by decide)) (kA rfl) (by decide) ?_
 refine pxU rfl (gA 0 rfl rfl rfl (by decide)) (kA rfl) (by decide) ?_
 refine pxU rfl (gA 0 rfl rfl rfl (by decide)) (kA rfl) (by decide) ?_
 refine zv (v:=(.bool false)) (fun _ _ hF=>dt rfl (hF.ev 0 rfl) rfl) 1 ?_
 refine zn (zF ?_)
 refine av ?_
 exact ek () hH (cD [1] rfl)
 clear hH
 rintro _u w hH
 change CX _ _ _ _ [(0,(.slice A l.length z))] _
 replace hH:HH w0 [] [] w:=hH
 refine zr (zv .mv 0 ?_)
 refine zv .len 1 ?_
 refine zv (v:=(.int .i64 (((l.length / 4):Nat):Int))) (fun _ _ hF=>de (z:=((l.length / 4:Nat):Int)) rfl (hF.ev 0 rfl) rfl (by omega) (wI ej (by omega) (by omega))) 1 ?_
 refine zv (.add (((l.length / 4)+6:Nat):Int)) 1 ?_
 refine zv (v:=(cCi.val (fun _=>0,fun _=>0,fun _=>0,(l.length / 4+6)))) (fun _ _ hF=>aG (cells:=cCi.enc (fun _=>0,fun _=>0,fun _=>0,(l.length / 4+6))) (vals:=[(3,.int .i64 (((l.length / 4+6):Nat):Int))]) rfl (EvP.cons (v:=.int .i64 (((l.length / 4+6):Nat):Int)) (hF.ev 0 rfl) EvP.nil) (wK _ (by omega)) _) 1 ?_
 refine zm hH (.bx cCi (fun _=>0,fun _=>0,fun _=>0,(l.length / 4+6))) trivial 1 ?_
 clear hH
 rintro _ _ w ⟨g3,rfl,rfl⟩ hH
 refine zv .mv 1 ?_
 refine zn (ak (zr (zv .mv 0 ?_)))
 refine zn (aj ?_)
 have he4:cCi.enc (upF 0 ag (fun _=>0),bk ag 0,(fun _=>0),(l.length / 4+6))=cCi.enc (fun _=>0,fun _=>0,fun _=>0,(l.length / 4+6)):=dr (fun j _=>by rw [bE]) (fun _ _=>rfl) (fun _ _=>rfl)
 replace hH:HH w0 [] [[bl g3 107 (cCi.enc (upF 0 ag (fun _=>0),bk ag 0,(fun _=>0),(l.length / 4+6)))]] w:=by rw [he4]; exact hH
 refine zL1 (fun (i:Nat)=>[(26,(.int .i64 i)),(4,(.pointer (some ⟨g3,0,none⟩))),(0,(.slice A l.length z))]) (fun i w=>HH w0 [] [[bl g3 107 (cCi.enc (upF i ag (fun _=>0),bk ag i,(fun _=>0),(l.length / 4+6)))]] w∧(i≤256)) (fun i=>256 - i) 0 ⟨hH,(Nat.zero_le _)⟩ ?_
 clear hH
 rintro i w ⟨hH,hi⟩
 refine zr (zv (.lt (i<256)) 0 ?_)
 refine zn (ak ?_)
 refine zP (fun hc5 => ?_) (fun hc5 => ?_)
 refine av (ah (ak (aj (zr (zv .mv 1 ?_)))))
 refine zv .mv 1 ?_
 refine zn (zx ?_)
 replace hH:=hH.drew
 refine rv 0 .mv 0 ?_
 refine rv 1 .mv 0 ?_
 refine rv 2 .mv 0 ?_
 refine rv 3 .cb 1 ?_
 refine rv 5 .nc 4 ?_
 refine rv 6 (.fld 0) 1 ?_
 refine rx1k 4 (rpc 4 Tryz.func78 (Bs (UInt8.ofNat i)) trivial hH 2 (.nil _ []) ?_)
 clear hH
 intro w hH
 refine ⟨an,?_⟩
 have hi6:i<256:=by omega
 refine rv 7 (.ia 1 256 i (hi:=hi6)) 6 ?_
 refine rx1k 8 ?_
 refine re0 8 0 hH rfl (.st af (sl (UInt8.ofNat i)) (by rw [Cod.size]; show 0+i*1+1≤753; omega) (cF (aQ (upF i ag (fun _=>0)) (sl (UInt8.ofNat i)) hi6) (by show 0+i*1+1≤256; omega))) trivial (.nil _ []) ?_
 clear hH
 rintro _ _ w rfl hH
 refine ⟨an,rn ?_⟩
 have he7:cCi.enc (upF (i+1) ag (fun _=>0),bk ag i,(fun _=>0),(l.length / 4+6))=cCi.enc ((stF (upF i ag (fun _=>0)) i (sl (UInt8.ofNat i))),bk ag i,(fun _=>0),(l.length / 4+6)):=dr (fun j _=>(congrFun (bn i ag (fun _=>0) (wx i (by omega))) j).symm) (fun _ _=>rfl) (fun _ _=>rfl)
 replace hH:HH w0 [] [[bl g3 107 (cCi.enc (upF (i+1) ag (fun _=>0),bk ag i,(fun _=>0),(l.length / 4+6)))]] w:=by rw [he7]; exact hH
 refine bv mixedOrders (by kernel_rfl) ?_
 replace hH:=hH.drew
 refine rv 0 .mv 3 ?_
 refine rv 1 .mv 0 ?_
 refine rv 2 .mv 0 ?_
 refine rv 3 .nc 2 ?_
 refine rv 4 (.fld 0) 1 ?_
 have hi8:i<256:=by omega
 refine rv 5 (.ia 1 256 i (hi:=hi8)) 3 ?_
 refine rld 6 (hH.q 0 rfl) (.ld af ((upF (i+1) ag (fun _=>0)) i) (fun _ hS=>((ac hS).fst.elt hi8))) 1 ?_
 refine rv 7 .mv 4 ?_
 refine rv 8 .cb 1 ?_
 refine rv 9 .nc 4 ?_
 refine rv 10 (.fld 256) 1 ?_
 have hi9:((upF (i+1) ag (fun _=>0)) i).toNat<256:=UInt8.toNat_lt _
 refine rv 11 (.ia 1 256 (((upF (i+1) ag (fun _=>0)) i).toNat) (hi:=hi9)) 5 ?_
 refine rx1k 12 ?_
 refine re0 12 0 hH rfl (.st af (UInt8.ofNat i) (by rw [Cod.size]; show 256+(((upF (i+1) ag (fun _=>0)) i).toNat)*1+1≤753; omega) (cG (a:=256) (o:=256+(((upF (i+1) ag (fun _=>0)) i).toNat)*1) (cF (aQ (bk ag i) (UInt8.ofNat i) hi9) (by show 0+(((upF (i+1) ag (fun _=>0)) i).toNat)*1+1≤256; omega)) (by omega))) trivial (pgo [] (.nil _ [])) ?_
 clear hH
 rintro _ _ w rfl hH
 refine ⟨an,cg (by kernel_rfl) ?_⟩
 refine aP (ah (aA (zv (.add ((i+1:Nat):Int)) 7 ?_)))
 refine zv .mv 1 ?_
 refine aD ?_
 have he10:cCi.enc (upF (i+1) ag (fun _=>0),bk ag (i+1),(fun _=>0),(l.length / 4+6))=cCi.enc (upF (i+1) ag (fun _=>0),(stF (bk ag i) (((upF (i+1) ag (fun _=>0)) i).toNat) (UInt8.ofNat i)),(fun _=>0),(l.length / 4+6)):=dr (fun _ _=>rfl) (fun j _=>by rw [bA _ _ (Nat.lt_succ_self i)]; rfl) (fun _ _=>rfl)
 replace hH:HH w0 [] [[bl g3 107 (cCi.enc (upF (i+1) ag (fun _=>0),bk ag (i+1),(fun _=>0),(l.length / 4+6)))]] w:=by rw [he10]; exact hH
 exact zR1 (i+1) ⟨hH,(by omega)⟩ (by omega)
 refine aK (am (am (aS (ah ?_))))
 obtain rfl:i=256:=by omega
 have he11:cCi.enc (ag,bk ag 256,upF 0 (aeW l) (fun _=>0),(l.length / 4+6))=cCi.enc (upF 256 ag (fun _=>0),bk ag 256,(fun _=>0),(l.length / 4+6)):=dr (fun j hj=>(bA _ _ hj).symm) (fun _ _=>rfl) (fun j _=>by rw [bE])
 replace hH:HH w0 [] [[bl g3 107 (cCi.enc (ag,bk ag 256,upF 0 (aeW l) (fun _=>0),(l.length / 4+6)))]] w:=by rw [he11]; exact hH
 refine zr (zv .mv 3 ?_)
 refine zv .len 1 ?_
 refine zv (v:=(.int .i64 nk)) (fun _ _ hF=>de rfl (hF.ev 0 rfl) rfl (by omega) (wI (ej.trans (congrArg (fun q:Nat=>(q:Int)) (show l.length / 4=nk by omega))) (by omega) (by omega))) 1 ?_
 refine zv .mv 1 ?_
 refine zn (ak (zr (zv .mv 0 ?_)))
 refine zv .len 1 ?_
 refine zv .mv 0 ?_
 refine zn (aj (zL1 (fun (i:Nat)=>[(55,(.int .i64 i)),(54,(.int .i64 l.length)),(6,(.int .i64 nk)),(4,(.pointer (some ⟨g3,0,none⟩))),(0,(.slice A l.length z))]) (fun i w=>HH w0 [] [[bl g3 107 (cCi.enc (ag,bk ag 256,upF i (aeW l) (fun _=>0),(l.length / 4+6)))]] w∧(i≤l.length)) (fun i=>l.length - i) 0 ⟨hH,(Nat.zero_le _)⟩ ?_))
 clear hH
 rintro i w ⟨hH,hi⟩
 refine zr (zv (.lt (i<l.length)) 0 ?_)
 refine zn (ak ?_)
 refine zP (fun hc12 => ?_) (fun hc12 => ?_)
 refine av (ah (ak (aj (zr (zv .mv 1 ?_)))))
 refine zv .mv 1 ?_
 refine zn (bv mixedOrders (by kernel_rfl) ?_)
 replace hH:=hH.drew
 refine rv 0 .mv 0 ?_
 refine rv 1 .mv 0 ?_
 refine rv 2 (v:=(.int .i64 (((i / 4):Nat):Int))) (fun _ _ hF=>de (z:=((i / 4:Nat):Int)) rfl (hF.ev 0 rfl) rfl (by omega) (wI ej (by omega) (by omega))) 1 ?_
 refine rv 3 .mv 0 ?_
 refine rv 4 (v:=(.int .i64 (((i%4):Nat):Int))) (fun _ _ hF=>bu (z:=((i%4:Nat):Int)) rfl (hF.ev 0 rfl) rfl (by omega) cy) 1 ?_
 refine rv 5 .mv 0 ?_
 refine rv 6 .mv 16 ?_
 have hi13:i<l.length:=by omega
 obtain ⟨b14,off15,rfl,hL16,hb17,hR18⟩:=hR.blk (by decide) (Off.nil _ _) (by omega)
 have:=hR.cap
 have hj21:i<l.length:=by first | exact hi13 | (simp only [List.length_drop]; omega) | (simp only [List.length_drop,List.length_take]; omega) | omega
 obtain ⟨x19,hx20⟩:=cT l i hj21
 have hb22:=UInt8.toNat_lt x19
 refine rv 7 (.ix 1 i (hi:=hi13)) 3 ?_
 refine rld 8 (S:=fun w=>HoldsL af w b14 off15 l) (hH.holdsL hL16 hb17 hR18) (.ld af x19 (fun _ hS=>(hS i _ hx20))) 1 ?_
 refine rv 9 .nc 8 ?_
 refine rv 10 (.fld 512) 1 ?_
 have hi23:i / 4<60:=by omega
 refine rv 11 (.ia 4 60 (i / 4) (hi:=hi23)) 9 ?_
 have hi24:i%4<4:=by omega
 refine rv 12 (.ia 1 4 (i%4) (hi:=hi24)) 5 ?_
 have hi25:4*(i / 4)+(i%4)<240:=by omega
 refine rx1k 13 ?_
 refine re0 13 0 hH rfl (.st af x19 (by rw [Cod.size]; show 512+(i / 4)*4+(i%4)*1+1≤753; omega) (cG (a:=256) (o:=512+(i / 4)*4+(i%4)*1) (cG (a:=256) (o:=256+(4*(i / 4)+(i%4))*1) (cF (aQ (upF i (aeW l) (fun _=>0)) x19 hi25) (by show 0+(4*(i / 4)+(i%4))*1+1≤240; omega)) (by omega)) (by omega))) trivial (pgo [] (.nil _ [])) ?_
 clear hH
 rintro _ _ w rfl hH
 refine ⟨an,cg (by kernel_rfl) ?_⟩
 refine aP (ah (aA (zv (.add ((i+1:Nat):Int)) 7 ?_)))
 refine zv .mv 1 ?_
 refine aD ?_
 have he26:cCi.enc (ag,bk ag 256,upF (i+1) (aeW l) (fun _=>0),(l.length / 4+6))=cCi.enc (ag,bk ag 256,(stF (upF i (aeW l) (fun _=>0)) (4*(i / 4)+(i%4)) x19),(l.length / 4+6)):=dr (fun _ _=>rfl) (fun _ _=>rfl) (fun j _=>by rw [show 4*(i / 4)+i%4=i by omega,bn i _ _ (by rw [uw l hnk h4 (by omega)] at hx20; exact (Option.some.inj hx20).symm)])
 replace hH:HH w0 [] [[bl g3 107 (cCi.enc (ag,bk ag 256,upF (i+1) (aeW l) (fun _=>0),(l.length / 4+6)))]] w:=by rw [he26]; exact hH
 exact zR1 (i+1) ⟨hH,(by omega)⟩ (by omega)
 refine aK (am (am (aS (ah ?_))))
 obtain rfl:i=l.length:=by omega
 have he27:cCi.enc (ag,bk ag 256,upF (4*(nk+0)) (aeW l) (fun _=>0),(l.length / 4+6))=cCi.enc (ag,bk ag 256,upF l.length (aeW l) (fun _=>0),(l.length / 4+6)):=dr (fun _ _=>rfl) (fun _ _=>rfl) (fun j _=>by rw [show 4*(nk+0)=l.length by omega])
 replace hH:HH w0 [] [[bl g3 107 (cCi.enc (ag,bk ag 256,upF (4*(nk+0)) (aeW l) (fun _=>0),(l.length / 4+6)))]] w:=by rw [he27]; exact hH
 refine zr (zv .mv 39 ?_)
 refine zn (ak (zr (zv .mv 0 ?_)))
 refine zv .mv 1 ?_
 refine zn (aj (zL2 (fun (d:Nat) (c:UInt8)=>[(9,(.int .i64 (((nk+d):Nat):Int))),(8,(.int .u8 c.toNat)),(6,(.int .i64 nk)),(4,(.pointer (some ⟨g3,0,none⟩)))]) (fun d c w=>HH w0 [] [[bl g3 107 (cCi.enc (ag,bk ag 256,upF (4*(nk+d)) (aeW l) (fun _=>0),(l.length / 4+6)))]] w∧(d≤3*nk+28)∧(c=rc ((d+(nk - 1)) / nk))) (fun d _=>3*nk+28 - d) 0 1 ⟨hH,(Nat.zero_le _),(by rw [Nat.zero_add,Nat.div_eq_of_lt (by omega)]; rfl)⟩ ?_))
 clear hH
 rintro d c w ⟨hH,hd,hcc⟩
 refine ak (zr (zv .mv 0 ?_))
 refine zv .mv 0 ?_
 refine zv .nc 1 ?_
 refine zv (.fld 752) 1 ?_
 refine zs (hH.q 0 rfl) (.ld (fo .i64) (l.length / 4+6) (fun _ hS=>(((ac hS).snd).snd).snd)) 1 ?_
 refine zv (.mul ((4*(l.length / 4+6):Nat):Int)) 1 ?_
 refine zv (.add (((4*(l.length / 4+6))+4:Nat):Int)) 1 ?_
 refine zv (.lt (nk+d<(4*(l.length / 4+6))+4)) 3 ?_
 refine zn ?_
 refine zP (fun hc28 => ?_) (fun hc28 => ?_)
 refine av (ah (ak (aj (zr (zv .mv 1 ?_)))))
 refine zv .mv 0 ?_
 refine zv (.sub (((nk+d - 1):Nat):Int)) 1 ?_
 refine zv .nc 2 ?_
 refine zv (.fld 512) 1 ?_
 have hi29:nk+d - 1<60:=by omega
 refine zv (.ia 4 60 (nk+d - 1) (hi:=hi29)) 3 ?_
 refine zs (hH.q 0 rfl) (.ld (ae 4) (fun q9=>(upF (4*(nk+d)) (aeW l) (fun _=>0)) (4*(nk+d - 1)+q9)) (fun _ hS=>(Holds.row ((((ac hS).snd).snd).fst) (nk+d - 1) 4 (by omega)))) 1 ?_
 refine zm hH (.al (ae 4) (fun _=>0)) trivial 0 ?_
 clear hH
 rintro _ _ w ⟨g30,rfl,rfl⟩ hH
 refine ze0 1 hH rfl (.sw (ae 4) (fun _=>0) (fun q9=>(upF (4*(nk+d)) (aeW l) (fun _=>0)) (4*(nk+d - 1)+q9))) trivial ?_
 clear hH
 rintro _ _ w rfl hH
 refine zn ?_
 refine kI (σ:=UInt8×(Nat→UInt8)) (fun x=>[(10,(.pointer (some ⟨g30,0,none⟩))),(9,(.int .i64 (((nk+d):Nat):Int))),(8,(.int .u8 x.1.toNat)),(6,(.int .i64 nk)),(4,(.pointer (some ⟨g3,0,none⟩)))]) (fun x w=>HH w0 [] [[bl g3 107 (cCi.enc (ag,bk ag 256,upF (4*(nk+d)) (aeW l) (fun _=>0),(l.length / 4+6)))],[bl g30 104 ((ae 4).enc x.2)]] w∧(∀ k,k<4→aeW l (4*(nk+d)+k)=aeW l (4*d+k) ^^^ x.2 k)∧(x.1=rc ((d+1+(nk - 1)) / nk))) ?_ ?_
 refine zr (zv .mv 2 ?_)
 refine zv .mv 0 ?_
 refine zv (v:=(.int .i64 ((((nk+d)%nk):Nat):Int))) (fun _ _ hF=>bu (z:=(((nk+d)%nk:Nat):Int)) rfl (hF.ev 1 rfl) (hF.ev 0 rfl) (by omega) cy) 3 ?_
 refine zv (.eq ((nk+d)%nk=0)) 1 ?_
 refine zn ?_
 refine zP (fun hc31 => ?_) (fun hc31 => ?_)
 refine zx ?_
 replace hH:=hH.drew
 refine rv 0 .mv 1 ?_
 have hi32:1<4:=by omega
 refine rv 1 (.ia 1 4 1 (hi:=hi32)) 0 ?_
 refine rld 2 (hH.q 1 rfl) (.ld af ((fun q9=>(upF (4*(nk+d)) (aeW l) (fun _=>0)) (4*(nk+d - 1)+q9)) 1) (fun _ hS=>((ac hS).elt hi32))) 1 ?_
 refine rv 3 .nc 2 ?_
 refine rv 4 (.fld 0) 1 ?_
 have hi33:((fun q9=>(upF (4*(nk+d)) (aeW l) (fun _=>0)) (4*(nk+d - 1)+q9)) 1).toNat<256:=UInt8.toNat_lt _
 refine rv 5 (.ia 1 256 (((fun q9=>(upF (4*(nk+d)) (aeW l) (fun _=>0)) (4*(nk+d - 1)+q9)) 1).toNat) (hi:=hi33)) 3 ?_
 refine rld 6 (hH.q 0 rfl) (.ld af (ag (((fun q9=>(upF (4*(nk+d)) (aeW l) (fun _=>0)) (4*(nk+d - 1)+q9)) 1).toNat)) (fun _ hS=>((ac hS).fst.elt hi33))) 1 ?_
 refine rv 7 .mv 0 ?_
 refine rv 8 (.xb ((ag (((fun q9=>(upF (4*(nk+d)) (aeW l) (fun _=>0)) (4*(nk+d - 1)+q9)) 1).toNat)) ^^^ c) (u:=(ag (((fun q9=>(upF (4*(nk+d)) (aeW l) (fun _=>0)) (4*(nk+d - 1)+q9)) 1).toNat))) (v:=c)) 3 ?_
 refine rv 9 .mv 0 ?_
 have hi34:2<4:=by omega
 refine rv 10 (.ia 1 4 2 (hi:=hi34)) 0 ?_
 refine rld 11 (hH.q 1 rfl) (.ld af ((fun q9=>(upF (4*(nk+d)) (aeW l) (fun _=>0)) (4*(nk+d - 1)+q9)) 2) (fun _ hS=>((ac hS).elt hi34))) 1 ?_
 refine rv 12 .nc 2 ?_
 refine rv 13 (.fld 0) 1 ?_
 have hi35:((fun q9=>(upF (4*(nk+d)) (aeW l) (fun _=>0)) (4*(nk+d - 1)+q9)) 2).toNat<256:=UInt8.toNat_lt _
 refine rv 14 (.ia 1 256 (((fun q9=>(upF (4*(nk+d)) (aeW l) (fun _=>0)) (4*(nk+d - 1)+q9)) 2).toNat) (hi:=hi35)) 3 ?_
 refine rld 15 (hH.q 0 rfl) (.ld af (ag (((fun q9=>(upF (4*(nk+d)) (aeW l) (fun _=>0)) (4*(nk+d - 1)+q9)) 2).toNat)) (fun _ hS=>((ac hS).fst.elt hi35))) 1 ?_
 refine rv 16 .mv 0 ?_
 have hi36:3<4:=by omega
 refine rv 17 (.ia 1 4 3 (hi:=hi36)) 0 ?_
 refine rld 18 (hH.q 1 rfl) (.ld af ((fun q9=>(upF (4*(nk+d)) (aeW l) (fun _=>0)) (4*(nk+d - 1)+q9)) 3) (fun _ hS=>((ac hS).elt hi36))) 1 ?_
 refine rv 19 .nc 2 ?_
 refine rv 20 (.fld 0) 1 ?_
 have hi37:((fun q9=>(upF (4*(nk+d)) (aeW l) (fun _=>0)) (4*(nk+d - 1)+q9)) 3).toNat<256:=UInt8.toNat_lt _
 refine rv 21 (.ia 1 256 (((fun q9=>(upF (4*(nk+d)) (aeW l) (fun _=>0)) (4*(nk+d - 1)+q9)) 3).toNat) (hi:=hi37)) 3 ?_
 refine rld 22 (hH.q 0 rfl) (.ld af (ag (((fun q9=>(upF (4*(nk+d)) (aeW l) (fun _=>0)) (4*(nk+d - 1)+q9)) 3).toNat)) (fun _ hS=>((ac hS).fst.elt hi37))) 1 ?_
 refine rv 23 .mv 0 ?_
 have hi38:0<4:=by omega
 refine rv 24 (.ia 1 4 0 (hi:=hi38)) 0 ?_
 refine rld 25 (hH.q 1 rfl) (.ld af ((fun q9=>(upF (4*(nk+d)) (aeW l) (fun _=>0)) (4*(nk+d - 1)+q9)) 0) (fun _ hS=>((ac hS).elt hi38))) 1 ?_
 refine rv 26 .nc 2 ?_
 refine rv 27 (.fld 0) 1 ?_
 have hi39:((fun q9=>(upF (4*(nk+d)) (aeW l) (fun _=>0)) (4*(nk+d - 1)+q9)) 0).toNat<256:=UInt8.toNat_lt _
 refine rv 28 (.ia 1 256 (((fun q9=>(upF (4*(nk+d)) (aeW l) (fun _=>0)) (4*(nk+d - 1)+q9)) 0).toNat) (hi:=hi39)) 3 ?_
 refine rld 29 (hH.q 0 rfl) (.ld af (ag (((fun q9=>(upF (4*(nk+d)) (aeW l) (fun _=>0)) (4*(nk+d - 1)+q9)) 0).toNat)) (fun _ hS=>((ac hS).fst.elt hi39))) 1 ?_
 refine rv 30 (v:=((ae 4).val (pk4 ((ag (upF (4*(nk+d)) (aeW l) (fun _=>0) (4*(nk+d - 1)+1)).toNat) ^^^ c) (ag (upF (4*(nk+d)) (aeW l) (fun _=>0) (4*(nk+d - 1)+2)).toNat) (ag (upF (4*(nk+d)) (aeW l) (fun _=>0) (4*(nk+d - 1)+3)).toNat) (ag (upF (4*(nk+d)) (aeW l) (fun _=>0) (4*(nk+d - 1)+0)).toNat)))) (fun _ _ hF=>aG (cells:=(ae 4).enc (pk4 ((ag (upF (4*(nk+d)) (aeW l) (fun _=>0) (4*(nk+d - 1)+1)).toNat) ^^^ c) (ag (upF (4*(nk+d)) (aeW l) (fun _=>0) (4*(nk+d - 1)+2)).toNat) (ag (upF (4*(nk+d)) (aeW l) (fun _=>0) (4*(nk+d - 1)+3)).toNat) (ag (upF (4*(nk+d)) (aeW l) (fun _=>0) (4*(nk+d - 1)+0)).toNat))) (vals:=[(0,(.int .u8 (((((ag (((fun q9=>(upF (4*(nk+d)) (aeW l) (fun _=>0)) (4*(nk+d - 1)+q9)) 1).toNat)) ^^^ c).toNat):Nat):Int))),(1,(.int .u8 ((((ag (((fun q9=>(upF (4*(nk+d)) (aeW l) (fun _=>0)) (4*(nk+d - 1)+q9)) 2).toNat)).toNat):Nat):Int))),(2,(.int .u8 ((((ag (((fun q9=>(upF (4*(nk+d)) (aeW l) (fun _=>0)) (4*(nk+d - 1)+q9)) 3).toNat)).toNat):Nat):Int))),(3,(.int .u8 ((((ag (((fun q9=>(upF (4*(nk+d)) (aeW l) (fun _=>0)) (4*(nk+d - 1)+q9)) 0).toNat)).toNat):Nat):Int)))]) rfl (EvP.cons (v:=(.int .u8 (((((ag (((fun q9=>(upF (4*(nk+d)) (aeW l) (fun _=>0)) (4*(nk+d - 1)+q9)) 1).toNat)) ^^^ c).toNat):Nat):Int))) (hF.ev 3 rfl) (EvP.cons (v:=(.int .u8 ((((ag (((fun q9=>(upF (4*(nk+d)) (aeW l) (fun _=>0)) (4*(nk+d - 1)+q9)) 2).toNat)).toNat):Nat):Int))) (hF.ev 2 rfl) (EvP.cons (v:=(.int .u8 ((((ag (((fun q9=>(upF (4*(nk+d)) (aeW l) (fun _=>0)) (4*(nk+d - 1)+q9)) 3).toNat)).toNat):Nat):Int))) (hF.ev 1 rfl) (EvP.cons (v:=(.int .u8 ((((ag (((fun q9=>(upF (4*(nk+d)) (aeW l) (fun _=>0)) (4*(nk+d - 1)+q9)) 0).toNat)).toNat):Nat):Int))) (hF.ev 0 rfl) EvP.nil)))) (by kernel_rfl) _) 15 ?_
 refine rx1k 31 ?_
 refine re0 31 1 hH rfl (.sw (ae 4) (fun q9=>(upF (4*(nk+d)) (aeW l) (fun _=>0)) (4*(nk+d - 1)+q9)) (pk4 ((ag (upF (4*(nk+d)) (aeW l) (fun _=>0) (4*(nk+d - 1)+1)).toNat) ^^^ c) (ag (upF (4*(nk+d)) (aeW l) (fun _=>0) (4*(nk+d - 1)+2)).toNat) (ag (upF (4*(nk+d)) (aeW l) (fun _=>0) (4*(nk+d - 1)+3)).toNat) (ag (upF (4*(nk+d)) (aeW l) (fun _=>0) (4*(nk+d - 1)+0)).toNat))) trivial (pgo [] (pgo [] (pgo [] (pgo [] (pgo [] (pgo [] (pgo [] (pgo [] (.nil _ []))))))))) ?_
 clear hH
 rintro _ _ w rfl hH
 refine ⟨an,rn ?_⟩
 refine aA (zv .mv 9 ?_)
 refine zc Tryz.func79 (iI c 2) trivial hH 1 ?_
 clear hH
 intro w hH
 refine zv .mv 1 ?_
 refine aD ?_
 exact ek ((tmB c 2),(pk4 ((ag (upF (4*(nk+d)) (aeW l) (fun _=>0) (4*(nk+d - 1)+1)).toNat) ^^^ c) (ag (upF (4*(nk+d)) (aeW l) (fun _=>0) (4*(nk+d - 1)+2)).toNat) (ag (upF (4*(nk+d)) (aeW l) (fun _=>0) (4*(nk+d - 1)+3)).toNat) (ag (upF (4*(nk+d)) (aeW l) (fun _=>0) (4*(nk+d - 1)+0)).toNat))) ⟨hH,(show ∀ k,k<4→aeW l (4*(nk+d)+k)=aeW l (4*d+k) ^^^ (pk4 ((ag (upF (4*(nk+d)) (aeW l) (fun _=>0) (4*(nk+d - 1)+1)).toNat) ^^^ c) (ag (upF (4*(nk+d)) (aeW l) (fun _=>0) (4*(nk+d - 1)+2)).toNat) (ag (upF (4*(nk+d)) (aeW l) (fun _=>0) (4*(nk+d - 1)+3)).toNat) (ag (upF (4*(nk+d)) (aeW l) (fun _=>0) (4*(nk+d - 1)+0)).toNat)) k from (Cq hnk h4 (by omega) (by omega) hcc (upF (4*(nk+d)) (aeW l) (fun _=>0)) rfl)),(show (tmB c 2)=rc ((d+1+(nk - 1)) / nk) from (by rw [hcc,Cl]; exact qR h4 (by rw [Nat.add_comm]; omega)))⟩ (cD [1,2,0,3,4] rfl)
 refine zr (zv .mv 1 ?_)
 refine zv (.eq (nk=8)) 1 ?_
 refine zv .mv 1 ?_
 refine gY 0 rfl (l1:=[(129,(.bool true)),(10,(.pointer (some ⟨g30,0,none⟩))),(9,(.int .i64 (((nk+d):Nat):Int))),(8,(.int .u8 c.toNat)),(6,(.int .i64 nk)),(4,(.pointer (some ⟨g3,0,none⟩)))]) (l2:=[(129,(.bool false)),(10,(.pointer (some ⟨g30,0,none⟩))),(9,(.int .i64 (((nk+d):Nat):Int))),(8,(.int .u8 c.toNat)),(6,(.int .i64 nk)),(4,(.pointer (some ⟨g3,0,none⟩)))]) rfl rfl (fun hg40 => ?_) (fun hg40 => ?_)
 refine pxV (v:=(.int .i64 (((nk+d):Nat):Int))) (fun _ _ hF=>bo rfl (hF.ev 2 rfl)) rfl (gOn 0 rfl rfl rfl (by decide)) (kA rfl) (by decide) ?_
 refine pxV (v:=(.int .i64 nk)) (fun _ _ hF=>bo rfl (hF.ev 5 rfl)) rfl (gOn 1 rfl rfl rfl (by decide)) (kA rfl) (by decide) ?_
 refine pxV (v:=(.int .i64 ((((nk+d)%nk):Nat):Int))) (fun _ _ hF=>bu (z:=(((nk+d)%nk:Nat):Int)) rfl (hF.ev 1 rfl) (hF.ev 0 rfl) (by omega) cy) rfl (gOn 2 rfl rfl rfl (by decide)) (kM [false,false,true,true,true,true,true,true] rfl rfl) (by decide) ?_
 refine pxV (v:=(.bool (decide ((nk+d)%nk=4)))) (fun _ _ hF=>dH rfl (hF.ev 0 rfl) rfl (dc (by omega))) rfl (gOn 1 rfl rfl rfl (by decide)) (kM [false,true,true,true,true,true,true] rfl rfl) (by decide) ?_
 refine zv (v:=(.bool (decide ((nk+d)%nk=4)))) (fun _ _ hF=>ce rfl (hF.ev 1 rfl) (hF.ev 0 rfl)) 3 ?_
 refine zn ?_
 refine zP (fun hc41 => ?_) (fun hc41 => ?_)
 refine bv mixedOrders (by kernel_rfl) ?_
 replace hH:=hH.drew
 refine rv 0 .mv 1 ?_
 have hi42:0<4:=by omega
 refine rv 1 (.ia 1 4 0 (hi:=hi42)) 0 ?_
 refine rld 2 (hH.q 1 rfl) (.ld af ((fun q9=>(upF (4*(nk+d)) (aeW l) (fun _=>0)) (4*(nk+d - 1)+q9)) 0) (fun _ hS=>((ac hS).elt hi42))) 1 ?_
 refine rv 3 .nc 2 ?_
 refine rv 4 (.fld 0) 1 ?_
 have hi43:((fun q9=>(upF (4*(nk+d)) (aeW l) (fun _=>0)) (4*(nk+d - 1)+q9)) 0).toNat<256:=UInt8.toNat_lt _
 refine rv 5 (.ia 1 256 (((fun q9=>(upF (4*(nk+d)) (aeW l) (fun _=>0)) (4*(nk+d - 1)+q9)) 0).toNat) (hi:=hi43)) 3 ?_
 refine rld 6 (hH.q 0 rfl) (.ld af (ag (((fun q9=>(upF (4*(nk+d)) (aeW l) (fun _=>0)) (4*(nk+d - 1)+q9)) 0).toNat)) (fun _ hS=>((ac hS).fst.elt hi43))) 1 ?_
 refine rv 7 .mv 0 ?_
 have hi44:1<4:=by omega
 refine rv 8 (.ia 1 4 1 (hi:=hi44)) 0 ?_
 refine rld 9 (hH.q 1 rfl) (.ld af ((fun q9=>(upF (4*(nk+d)) (aeW l) (fun _=>0)) (4*(nk+d - 1)+q9)) 1) (fun _ hS=>((ac hS).elt hi44))) 1 ?_
 refine rv 10 .nc 2 ?_
 refine rv 11 (.fld 0) 1 ?_
 have hi45:((fun q9=>(upF (4*(nk+d)) (aeW l) (fun _=>0)) (4*(nk+d - 1)+q9)) 1).toNat<256:=UInt8.toNat_lt _
 refine rv 12 (.ia 1 256 (((fun q9=>(upF (4*(nk+d)) (aeW l) (fun _=>0)) (4*(nk+d - 1)+q9)) 1).toNat) (hi:=hi45)) 3 ?_
 refine rld 13 (hH.q 0 rfl) (.ld af (ag (((fun q9=>(upF (4*(nk+d)) (aeW l) (fun _=>0)) (4*(nk+d - 1)+q9)) 1).toNat)) (fun _ hS=>((ac hS).fst.elt hi45))) 1 ?_
 refine rv 14 .mv 0 ?_
 have hi46:2<4:=by omega
 refine rv 15 (.ia 1 4 2 (hi:=hi46)) 0 ?_
 refine rld 16 (hH.q 1 rfl) (.ld af ((fun q9=>(upF (4*(nk+d)) (aeW l) (fun _=>0)) (4*(nk+d - 1)+q9)) 2) (fun _ hS=>((ac hS).elt hi46))) 1 ?_
 refine rv 17 .nc 2 ?_
 refine rv 18 (.fld 0) 1 ?_
 have hi47:((fun q9=>(upF (4*(nk+d)) (aeW l) (fun _=>0)) (4*(nk+d - 1)+q9)) 2).toNat<256:=UInt8.toNat_lt _
 refine rv 19 (.ia 1 256 (((fun q9=>(upF (4*(nk+d)) (aeW l) (fun _=>0)) (4*(nk+d - 1)+q9)) 2).toNat) (hi:=hi47)) 3 ?_
 refine rld 20 (hH.q 0 rfl) (.ld af (ag (((fun q9=>(upF (4*(nk+d)) (aeW l) (fun _=>0)) (4*(nk+d - 1)+q9)) 2).toNat)) (fun _ hS=>((ac hS).fst.elt hi47))) 1 ?_
 refine rv 21 .mv 0 ?_
 have hi48:3<4:=by omega
 refine rv 22 (.ia 1 4 3 (hi:=hi48)) 0 ?_
 refine rld 23 (hH.q 1 rfl) (.ld af ((fun q9=>(upF (4*(nk+d)) (aeW l) (fun _=>0)) (4*(nk+d - 1)+q9)) 3) (fun _ hS=>((ac hS).elt hi48))) 1 ?_
 refine rv 24 .nc 2 ?_
 refine rv 25 (.fld 0) 1 ?_
 have hi49:((fun q9=>(upF (4*(nk+d)) (aeW l) (fun _=>0)) (4*(nk+d - 1)+q9)) 3).toNat<256:=UInt8.toNat_lt _
 refine rv 26 (.ia 1 256 (((fun q9=>(upF (4*(nk+d)) (aeW l) (fun _=>0)) (4*(nk+d - 1)+q9)) 3).toNat) (hi:=hi49)) 3 ?_
 refine rld 27 (hH.q 0 rfl) (.ld af (ag (((fun q9=>(upF (4*(nk+d)) (aeW l) (fun _=>0)) (4*(nk+d - 1)+q9)) 3).toNat)) (fun _ hS=>((ac hS).fst.elt hi49))) 1 ?_
 refine rv 28 (v:=((ae 4).val (pk4 (ag (upF (4*(nk+d)) (aeW l) (fun _=>0) (4*(nk+d - 1)+0)).toNat) (ag (upF (4*(nk+d)) (aeW l) (fun _=>0) (4*(nk+d - 1)+1)).toNat) (ag (upF (4*(nk+d)) (aeW l) (fun _=>0) (4*(nk+d - 1)+2)).toNat) (ag (upF (4*(nk+d)) (aeW l) (fun _=>0) (4*(nk+d - 1)+3)).toNat)))) (fun _ _ hF=>aG (cells:=(ae 4).enc (pk4 (ag (upF (4*(nk+d)) (aeW l) (fun _=>0) (4*(nk+d - 1)+0)).toNat) (ag (upF (4*(nk+d)) (aeW l) (fun _=>0) (4*(nk+d - 1)+1)).toNat) (ag (upF (4*(nk+d)) (aeW l) (fun _=>0) (4*(nk+d - 1)+2)).toNat) (ag (upF (4*(nk+d)) (aeW l) (fun _=>0) (4*(nk+d - 1)+3)).toNat))) (vals:=[(0,(.int .u8 ((((ag (((fun q9=>(upF (4*(nk+d)) (aeW l) (fun _=>0)) (4*(nk+d - 1)+q9)) 0).toNat)).toNat):Nat):Int))),(1,(.int .u8 ((((ag (((fun q9=>(upF (4*(nk+d)) (aeW l) (fun _=>0)) (4*(nk+d - 1)+q9)) 1).toNat)).toNat):Nat):Int))),(2,(.int .u8 ((((ag (((fun q9=>(upF (4*(nk+d)) (aeW l) (fun _=>0)) (4*(nk+d - 1)+q9)) 2).toNat)).toNat):Nat):Int))),(3,(.int .u8 ((((ag (((fun q9=>(upF (4*(nk+d)) (aeW l) (fun _=>0)) (4*(nk+d - 1)+q9)) 3).toNat)).toNat):Nat):Int)))]) rfl (EvP.cons (v:=(.int .u8 ((((ag (((fun q9=>(upF (4*(nk+d)) (aeW l) (fun _=>0)) (4*(nk+d - 1)+q9)) 0).toNat)).toNat):Nat):Int))) (hF.ev 3 rfl) (EvP.cons (v:=(.int .u8 ((((ag (((fun q9=>(upF (4*(nk+d)) (aeW l) (fun _=>0)) (4*(nk+d - 1)+q9)) 1).toNat)).toNat):Nat):Int))) (hF.ev 2 rfl) (EvP.cons (v:=(.int .u8 ((((ag (((fun q9=>(upF (4*(nk+d)) (aeW l) (fun _=>0)) (4*(nk+d - 1)+q9)) 2).toNat)).toNat):Nat):Int))) (hF.ev 1 rfl) (EvP.cons (v:=(.int .u8 ((((ag (((fun q9=>(upF (4*(nk+d)) (aeW l) (fun _=>0)) (4*(nk+d - 1)+q9)) 3).toNat)).toNat):Nat):Int))) (hF.ev 0 rfl) EvP.nil)))) (by kernel_rfl) _) 15 ?_
 refine rx1k 29 ?_
 refine re0 29 1 hH rfl (.sw (ae 4) (fun q9=>(upF (4*(nk+d)) (aeW l) (fun _=>0)) (4*(nk+d - 1)+q9)) (pk4 (ag (upF (4*(nk+d)) (aeW l) (fun _=>0) (4*(nk+d - 1)+0)).toNat) (ag (upF (4*(nk+d)) (aeW l) (fun _=>0) (4*(nk+d - 1)+1)).toNat) (ag (upF (4*(nk+d)) (aeW l) (fun _=>0) (4*(nk+d - 1)+2)).toNat) (ag (upF (4*(nk+d)) (aeW l) (fun _=>0) (4*(nk+d - 1)+3)).toNat))) trivial (pgo [] (pgo [] (pgo [] (pgo [] (pgo [] (pgo [] (pgo [] (pgo [] (.nil _ []))))))))) ?_
 clear hH
 rintro _ _ w rfl hH
 refine ⟨an,cg (by kernel_rfl) ?_⟩
 exact ek (c,(pk4 (ag (upF (4*(nk+d)) (aeW l) (fun _=>0) (4*(nk+d - 1)+0)).toNat) (ag (upF (4*(nk+d)) (aeW l) (fun _=>0) (4*(nk+d - 1)+1)).toNat) (ag (upF (4*(nk+d)) (aeW l) (fun _=>0) (4*(nk+d - 1)+2)).toNat) (ag (upF (4*(nk+d)) (aeW l) (fun _=>0) (4*(nk+d - 1)+3)).toNat))) ⟨hH,(show ∀ k,k<4→aeW l (4*(nk+d)+k)=aeW l (4*d+k) ^^^ (pk4 (ag (upF (4*(nk+d)) (aeW l) (fun _=>0) (4*(nk+d - 1)+0)).toNat) (ag (upF (4*(nk+d)) (aeW l) (fun _=>0) (4*(nk+d - 1)+1)).toNat) (ag (upF (4*(nk+d)) (aeW l) (fun _=>0) (4*(nk+d - 1)+2)).toNat) (ag (upF (4*(nk+d)) (aeW l) (fun _=>0) (4*(nk+d - 1)+3)).toNat)) k from (Cr hnk h4 (by omega) (by omega) (by omega) (upF (4*(nk+d)) (aeW l) (fun _=>0)) rfl)),(show c=rc ((d+1+(nk - 1)) / nk) from (hcc.trans (iF h4 (by rw [Nat.add_comm]; omega))))⟩ (cD [1,2,3,4,5] rfl)
 refine av ?_
 exact ek (c,(fun q9=>(upF (4*(nk+d)) (aeW l) (fun _=>0)) (4*(nk+d - 1)+q9))) ⟨hH,(show ∀ k,k<4→aeW l (4*(nk+d)+k)=aeW l (4*d+k) ^^^ (fun q9=>(upF (4*(nk+d)) (aeW l) (fun _=>0)) (4*(nk+d - 1)+q9)) k from (Bu hnk h4 (by omega) (by omega) (by omega) (upF (4*(nk+d)) (aeW l) (fun _=>0)) rfl)),(show c=rc ((d+1+(nk - 1)) / nk) from (hcc.trans (iF h4 (by rw [Nat.add_comm]; omega))))⟩ (cD [1,2,3,4,5] rfl)
 refine pxU rfl (gA 0 rfl rfl rfl (by decide)) (kA rfl) (by decide) ?_
 refine pxU rfl (gA 0 rfl rfl rfl (by decide)) (kA rfl) (by decide) ?_
 refine pxU rfl (gA 0 rfl rfl rfl (by decide)) (kA rfl) (by decide) ?_
 refine pxU rfl (gA 0 rfl rfl rfl (by decide)) (kA rfl) (by decide) ?_
 refine zv (v:=(.bool false)) (fun _ _ hF=>dt rfl (hF.ev 0 rfl) rfl) 1 ?_
 refine zn (zF ?_)
 refine av ?_
 exact ek (c,(fun q9=>(upF (4*(nk+d)) (aeW l) (fun _=>0)) (4*(nk+d - 1)+q9))) ⟨hH,(show ∀ k,k<4→aeW l (4*(nk+d)+k)=aeW l (4*d+k) ^^^ (fun q9=>(upF (4*(nk+d)) (aeW l) (fun _=>0)) (4*(nk+d - 1)+q9)) k from (Bu hnk h4 (by omega) (by omega) (by omega) (upF (4*(nk+d)) (aeW l) (fun _=>0)) rfl)),(show c=rc ((d+1+(nk - 1)) / nk) from (hcc.trans (iF h4 (by rw [Nat.add_comm]; omega))))⟩ (cD [1,2,3,4,5] rfl)
 clear hH
 rintro ⟨c2,T⟩ w ⟨hH,hT,hc2⟩
 change CX _ _ _ _ [(10,(.pointer (some ⟨g30,0,none⟩))),(9,(.int .i64 (((nk+d):Nat):Int))),(8,(.int .u8 c2.toNat)),(6,(.int .i64 nk)),(4,(.pointer (some ⟨g3,0,none⟩)))] _
 replace hH:HH w0 [] [[bl g3 107 (cCi.enc (ag,bk ag 256,upF (4*(nk+d)) (aeW l) (fun _=>0),(l.length / 4+6)))],[bl g30 104 ((ae 4).enc T)]] w:=hH
 replace hT:∀ k,k<4→aeW l (4*(nk+d)+k)=aeW l (4*d+k) ^^^ T k:=hT
 replace hc2:c2=rc ((d+1+(nk - 1)) / nk):=hc2
 refine zr (zv .mv 0 ?_)
 refine zn (aj ?_)
 have he50:cCi.enc (ag,bk ag 256,upF (4*(nk+d)+0) (aeW l) (fun _=>0),(l.length / 4+6))=cCi.enc (ag,bk ag 256,upF (4*(nk+d)) (aeW l) (fun _=>0),(l.length / 4+6)):=dr (fun _ _=>rfl) (fun _ _=>rfl) (fun _ _=>rfl)
 replace hH:HH w0 [] [[bl g3 107 (cCi.enc (ag,bk ag 256,upF (4*(nk+d)+0) (aeW l) (fun _=>0),(l.length / 4+6)))],[bl g30 104 ((ae 4).enc T)]] w:=by rw [he50]; exact hH
 refine zL1 (fun (k:Nat)=>[(164,(.int .i64 k)),(10,(.pointer (some ⟨g30,0,none⟩))),(9,(.int .i64 (((nk+d):Nat):Int))),(8,(.int .u8 c2.toNat)),(6,(.int .i64 nk)),(4,(.pointer (some ⟨g3,0,none⟩)))]) (fun k w=>HH w0 [] [[bl g3 107 (cCi.enc (ag,bk ag 256,upF (4*(nk+d)+k) (aeW l) (fun _=>0),(l.length / 4+6)))],[bl g30 104 ((ae 4).enc T)]] w∧(k≤4)) (fun k=>4 - k) 0 ⟨hH,(Nat.zero_le _)⟩ ?_
 clear hH
 rintro k w ⟨hH,hk2⟩
 refine zr (zv (.lt (k<4)) 0 ?_)
 refine zn (ak ?_)
 refine zP (fun hc51 => ?_) (fun hc51 => ?_)
 refine av (ah (ak (aj (zr (zv .mv 1 ?_)))))
 refine zv .mv 1 ?_
 refine zn (bv mixedOrders (by kernel_rfl) ?_)
 replace hH:=hH.drew
 refine rv 0 .mv 0 ?_
 refine rv 1 .mv 0 ?_
 refine rv 2 .mv 0 ?_
 refine rv 3 .mv 0 ?_
 refine rv 4 .mv 0 ?_
 refine rv 5 .mv 0 ?_
 refine rv 6 (.sub ((d:Nat):Int)) 3 ?_
 refine rv 7 .mv 0 ?_
 refine rv 8 .nc 4 ?_
 refine rv 9 (.fld 512) 1 ?_
 have hi52:d<60:=by omega
 refine rv 10 (.ia 4 60 d (hi:=hi52)) 5 ?_
 have hi53:k<4:=by omega
 refine rv 11 (.ia 1 4 k (hi:=hi53)) 3 ?_
 refine rld 12 (hH.q 0 rfl) (.ld af ((upF (4*(nk+d)+k) (aeW l) (fun _=>0)) (4*d+k)) (fun _ hS=>((Holds.row ((((ac hS).snd).snd).fst) d 4 (by omega)).elt hi53))) 1 ?_
 refine rv 13 .mv 16 ?_
 have hi54:k<4:=by omega
 refine rv 14 (.ia 1 4 k (hi:=hi54)) 1 ?_
 refine rld 15 (hH.q 1 rfl) (.ld af (T k) (fun _ hS=>((ac hS).elt hi54))) 1 ?_
 refine rv 16 (.xb (((upF (4*(nk+d)+k) (aeW l) (fun _=>0)) (4*d+k)) ^^^ (T k)) (u:=((upF (4*(nk+d)+k) (aeW l) (fun _=>0)) (4*d+k))) (v:=(T k))) 3 ?_
 refine rv 17 .nc 8 ?_
 refine rv 18 (.fld 512) 1 ?_
 have hi55:nk+d<60:=by omega
 refine rv 19 (.ia 4 60 (nk+d) (hi:=hi55)) 9 ?_
 have hi56:k<4:=by omega
 refine rv 20 (.ia 1 4 k (hi:=hi56)) 5 ?_
 have hi57:4*(nk+d)+k<240:=by omega
 refine rx1k 21 ?_
 refine re0 21 0 hH rfl (.st af (((upF (4*(nk+d)+k) (aeW l) (fun _=>0)) (4*d+k)) ^^^ (T k)) (by rw [Cod.size]; show 512+(nk+d)*4+k*1+1≤753; omega) (cG (a:=256) (o:=512+(nk+d)*4+k*1) (cG (a:=256) (o:=256+(4*(nk+d)+k)*1) (cF (aQ (upF (4*(nk+d)+k) (aeW l) (fun _=>0)) (((upF (4*(nk+d)+k) (aeW l) (fun _=>0)) (4*d+k)) ^^^ (T k)) hi57) (by show 0+(4*(nk+d)+k)*1+1≤240; omega)) (by omega)) (by omega))) trivial (pgo [] (pgo [] (.nil _ []))) ?_
 clear hH
 rintro _ _ w rfl hH
 refine ⟨an,cg (by kernel_rfl) ?_⟩
 refine aP (ah (aA (zv (.add ((k+1:Nat):Int)) 7 ?_)))
 refine zv .mv 1 ?_
 refine aD ?_
 have he58:cCi.enc (ag,bk ag 256,upF (4*(nk+d)+(k+1)) (aeW l) (fun _=>0),(l.length / 4+6))=cCi.enc (ag,bk ag 256,(stF (upF (4*(nk+d)+k) (aeW l) (fun _=>0)) (4*(nk+d)+k) (((upF (4*(nk+d)+k) (aeW l) (fun _=>0)) (4*d+k)) ^^^ (T k))),(l.length / 4+6)):=dr (fun _ _=>rfl) (fun _ _=>rfl) (fun j _=>(congrFun (wN (T:=T) rfl (by omega) (by omega) (hT k (by omega)) rfl) j).symm)
 replace hH:HH w0 [] [[bl g3 107 (cCi.enc (ag,bk ag 256,upF (4*(nk+d)+(k+1)) (aeW l) (fun _=>0),(l.length / 4+6)))],[bl g30 104 ((ae 4).enc T)]] w:=by rw [he58]; exact hH
 exact zR1 (k+1) ⟨hH,(by omega)⟩ (by omega)
 refine aK (am (am (aS (aP (ah ?_)))))
 obtain rfl:k=4:=by omega
 have he59:cCi.enc (ag,bk ag 256,upF (4*(nk+(d+1))) (aeW l) (fun _=>0),(l.length / 4+6))=cCi.enc (ag,bk ag 256,upF (4*(nk+d)+4) (aeW l) (fun _=>0),(l.length / 4+6)):=dr (fun _ _=>rfl) (fun _ _=>rfl) (fun j _=>by rw [show 4*(nk+d)+4=4*(nk+(d+1)) by omega])
 replace hH:HH w0 [] [[bl g3 107 (cCi.enc (ag,bk ag 256,upF (4*(nk+(d+1))) (aeW l) (fun _=>0),(l.length / 4+6)))],[bl g30 104 ((ae 4).enc T)]] w:=by rw [he59]; exact hH
 refine aA (zv .mv 15 ?_)
 refine zv (.add (((nk+(d+1)):Nat):Int)) 1 ?_
 refine zv .mv 1 ?_
 refine aD ?_
 replace hH:HH w0 [] [[bl g3 107 (cCi.enc (ag,bk ag 256,upF (4*(nk+(d+1))) (aeW l) (fun _=>0),(l.length / 4+6)))]] w:=hH.only [true,false]
 exact zR2 (d+1) c2 ⟨hH,(by omega),hc2⟩ (by omega)
 refine aK (am (am (aS (ah ?_))))
 obtain rfl:d=3*nk+28:=by omega
 have he60:cCi.enc (ag,bk ag 256,(upF (16*(l.length / 4+7)) (aeW l) fun _=>0),(l.length / 4+6))=cCi.enc (ag,bk ag 256,upF (4*(nk+(3*nk+28))) (aeW l) (fun _=>0),(l.length / 4+6)):=dr (fun _ _=>rfl) (fun _ _=>rfl) (fun j _=>by rw [show 4*(nk+(3*nk+28))=16*(l.length / 4+7) by omega])
 replace hH:HH w0 [] [[bl g3 107 (cCi.enc (ag,bk ag 256,(upF (16*(l.length / 4+7)) (aeW l) fun _=>0),(l.length / 4+6)))]] w:=by rw [he60]; exact hH
 refine zr (zv .mv 31 ?_)
 refine zv .mv 1 ?_
 refine zv .mv 0 ?_
 refine zn (au (fm 1 0 rfl rfl rfl ?_))
 exact ⟨_,_,rfl,⟨g3,rfl,rfl⟩,hH.out1 [true] rfl⟩
section
variable {l:List UInt8} {b u:Nat→UInt8} {j m:Nat}
def eRd (l:List UInt8) (b:Nat→UInt8) (j:Nat):Nat→UInt8:=if j<l.length / 4+6 then encR ag (aeW l) b j else aeE l b
theorem pm (h:j<l.length / 4+6):eRd l b j=encR ag (aeW l) b j:=if_pos h
theorem uF (h:l.length / 4+6=j+1):eRd l b (j+1)=added (shifted (boxed ag (encR ag (aeW l) b j))) (rk (aeW l) (j+1)):=by
 unfold eRd
 rw [if_neg (by omega)]
 unfold aeE enc aeR
 rw [h]
 rfl
theorem wO:eRd l b (l.length / 4+6)=aeE l b:=if_neg (Nat.lt_irrefl _)
end
theorem uG (g:Nat) (l:List UInt8) (hk:l.length=16 ∨ l.length=32) (f:Nat→UInt8) (r:Nat) (hr:r≤l.length / 4+6):Pure Tryz.prog 80 #[(.pointer (some ⟨g,0,none⟩)),((ae 16).val f),(.int .i64 r)] (fun w=>w.heap[g]?=some (.cells (cCi.enc (ag,bk ag 256,(upF (16*(l.length / 4+7)) (aeW l) fun _=>0),(l.length / 4+6))) 107 (0,0))) ((ae 16).val (added f (rk (aeW l) r))):=by
 refine pU Tryz.func80 Tryz.ntmps80 ?_
 intro w0 hH hR
 refine zr (zm hH (.bx (ae 16) f) trivial 2 ?_)
 clear hH
 rintro _ _ w ⟨g1,rfl,rfl⟩ hH
 refine zm hH (.al (ae 16) (fun _=>0)) trivial 0 ?_
 clear hH
 rintro _ _ w ⟨g2,rfl,rfl⟩ hH
 refine zn (ak (zr (zv .mv 0 ?_)))
 refine zn (aj ?_)
 have he3:(ae 16).enc (upF 0 (added f (rk (aeW l) r)) f)=(ae 16).enc f:=aB (fun j _=>by rw [bE])
 replace hH:HH w0 [] [[bl g1 51 ((ae 16).enc (upF 0 (added f (rk (aeW l) r)) f))],[bl g2 51 ((ae 16).enc (fun _=>0))]] w:=by rw [he3]; exact hH
 refine zL1 (fun (i:Nat)=>[(8,(.int .i64 i)),(6,(.pointer (some ⟨g2,0,none⟩))),(4,(.pointer (some ⟨g1,0,none⟩))),(2,(.int .i64 r)),(0,(.pointer (some ⟨g,0,none⟩)))]) (fun i w=>HH w0 [] [[bl g1 51 ((ae 16).enc (upF i (added f (rk (aeW l) r)) f))],[bl g2 51 ((ae 16).enc (fun _=>0))]] w∧(i≤16)) (fun i=>16 - i) 0 ⟨hH,(Nat.zero_le _)⟩ ?_
 clear hH
 rintro i w ⟨hH,hi⟩
 refine zr (zv (.lt (i<16)) 0 ?_)
 refine zn (ak ?_)
 refine zP (fun hc4 => ?_) (fun hc4 => ?_)
 refine av (ah (ak (aj (zr (zv .mv 1 ?_)))))
 refine zv .mv 1 ?_
 refine zn (bv mixedOrders (by kernel_rfl) ?_)
 replace hH:=hH.drew
 refine rv 0 .mv 0 ?_
 refine rv 1 .mv 0 ?_
 have hi5:i<16:=by omega
 refine rv 2 (.ia 1 16 i (hi:=hi5)) 1 ?_
 refine rld 3 (hH.q 0 rfl) (.ld af ((upF i (added f (rk (aeW l) r)) f) i) (fun _ hS=>((ac hS).elt hi5))) 1 ?_
 refine rv 4 .mv 0 ?_
 refine rv 5 .mv 0 ?_
 refine rv 6 (.mul ((4*r:Nat):Int)) 1 ?_
 refine rv 7 .mv 0 ?_
 refine rv 8 (v:=(.int .i64 (((i / 4):Nat):Int))) (fun _ _ hF=>de (z:=((i / 4:Nat):Int)) rfl (hF.ev 0 rfl) rfl (by omega) (wI ej (by omega) (by omega))) 1 ?_
 refine rv 9 (.add (((4*r)+(i / 4):Nat):Int)) 3 ?_
 refine rv 10 .mv 16 ?_
 refine rv 11 (v:=(.int .i64 (((i%4):Nat):Int))) (fun _ _ hF=>bu (z:=((i%4:Nat):Int)) rfl (hF.ev 0 rfl) rfl (by omega) cy) 1 ?_
 refine rv 12 .nc 4 ?_
 refine rv 13 (.fld 512) 1 ?_
 have hi6:(4*r)+(i / 4)<60:=by omega
 refine rv 14 (.ia 4 60 ((4*r)+(i / 4)) (hi:=hi6)) 5 ?_
 have hi7:i%4<4:=by omega
 refine rv 15 (.ia 1 4 (i%4) (hi:=hi7)) 3 ?_
 refine rld 16 (hH.ob hR) (.ld af ((upF (16*(l.length / 4+7)) (aeW l) fun _=>0) (4*((4*r)+(i / 4))+(i%4))) (fun _ hS=>((Holds.row ((((ac hS).snd).snd).fst) ((4*r)+(i / 4)) 4 (by omega)).elt hi7))) 1 ?_
 refine rv 17 (.xb (((upF i (added f (rk (aeW l) r)) f) i) ^^^ ((upF (16*(l.length / 4+7)) (aeW l) fun _=>0) (4*((4*r)+(i / 4))+(i%4)))) (u:=((upF i (added f (rk (aeW l) r)) f) i)) (v:=((upF (16*(l.length / 4+7)) (aeW l) fun _=>0) (4*((4*r)+(i / 4))+(i%4))))) 3 ?_
 have hi8:i<16:=by omega
 refine rv 18 (.ia 1 16 i (hi:=hi8)) 2 ?_
 refine rx1k 19 ?_
 refine re0 19 0 hH rfl (.st af (((upF i (added f (rk (aeW l) r)) f) i) ^^^ ((upF (16*(l.length / 4+7)) (aeW l) fun _=>0) (4*((4*r)+(i / 4))+(i%4)))) (aW (S:=sBy) (C:=(ae 16)) rfl hi8) (aQ (upF i (added f (rk (aeW l) r)) f) (((upF i (added f (rk (aeW l) r)) f) i) ^^^ ((upF (16*(l.length / 4+7)) (aeW l) fun _=>0) (4*((4*r)+(i / 4))+(i%4)))) hi8)) trivial (pgo [] (pgo [] (.nil _ []))) ?_
 clear hH
 rintro _ _ w rfl hH
 refine ⟨an,cg (by kernel_rfl) ?_⟩
 refine aP (ah (aA (zv (.add ((i+1:Nat):Int)) 7 ?_)))
 refine zv .mv 1 ?_
 refine aD ?_
 have he9:(ae 16).enc (upF (i+1) (added f (rk (aeW l) r)) f)=(ae 16).enc (stF (upF i (added f (rk (aeW l) r)) f) i (((upF i (added f (rk (aeW l) r)) f) i) ^^^ ((upF (16*(l.length / 4+7)) (aeW l) fun _=>0) (4*((4*r)+(i / 4))+(i%4))))):=aB (fun j _=>(congrFun (bn i (added f (rk (aeW l) r)) f (by rw [gG,show 4*(4*r+i / 4)+i%4=16*r+i by omega,bA _ _ (by omega)]; rfl)) j).symm)
 replace hH:HH w0 [] [[bl g1 51 ((ae 16).enc (upF (i+1) (added f (rk (aeW l) r)) f))],[bl g2 51 ((ae 16).enc (fun _=>0))]] w:=by rw [he9]; exact hH
 exact zR1 (i+1) ⟨hH,(by omega)⟩ (by omega)
 refine aK (am (am (aS (ah ?_))))
 obtain rfl:i=16:=by omega
 have he10:(ae 16).enc (added f (rk (aeW l) r))=(ae 16).enc (upF 16 (added f (rk (aeW l) r)) f):=aB (fun j hj=>(bA _ _ hj).symm)
 replace hH:HH w0 [] [[bl g1 51 ((ae 16).enc (added f (rk (aeW l) r)))],[bl g2 51 ((ae 16).enc (fun _=>0))]] w:=by rw [he10]; exact hH
 refine zr (zs (hH.q 0 rfl) (.ld (ae 16) (added f (rk (aeW l) r)) (fun _=>ac)) 59 ?_)
 refine ze0 1 hH rfl (.sw (ae 16) (fun _=>0) (added f (rk (aeW l) r))) trivial ?_
 clear hH
 rintro _ _ w rfl hH
 refine zn (au (aH 1 (hH.blk 1 rfl) rfl rfl (by kernel_rfl) (Cod.size _ _) (by kernel_rfl) ?_))
 exact ⟨rfl,HH.toBelow hH⟩
theorem Bw (g:Nat) (l:List UInt8) (hk:l.length=16 ∨ l.length=32) (f:Nat→UInt8):Pure Tryz.prog 41 #[(.pointer (some ⟨g,0,none⟩)),((ae 16).val f)] (fun w=>w.heap[g]?=some (.cells (cCi.enc (ag,bk ag 256,(upF (16*(l.length / 4+7)) (aeW l) fun _=>0),(l.length / 4+6))) 107 (0,0))) ((ae 16).val (aeE l f)):=by
 refine pU Tryz.func41 Tryz.ntmps41 ?_
 intro w0 hH hR
 refine zr (zm hH (.bx (ae 16) f) trivial 2 ?_)
 clear hH
 rintro _ _ w ⟨g1,rfl,rfl⟩ hH
 refine zm hH (.al (ae 16) (fun _=>0)) trivial 0 ?_
 clear hH
 rintro _ _ w ⟨g2,rfl,rfl⟩ hH
 refine zn (zr (zv .mv 0 ?_))
 refine zs (hH.q 0 rfl) (.ld (ae 16) f (fun _=>ac)) 0 ?_
 refine zc Tryz.func80 (uG g l hk f 0 (by omega)) (hH.oldBlk hR (by simp)) hH 3 ?_
 clear hH
 intro w hH
 refine ze0 0 hH rfl (.sw (ae 16) f (added f (rk (aeW l) 0))) trivial ?_
 clear hH
 rintro _ _ w rfl hH
 refine zn (ak (zr (zv .mv 1 ?_)))
 refine zn (aj ?_)
 have he3:(ae 16).enc (eRd l f 0)=(ae 16).enc (added f (rk (aeW l) 0)):=aB (fun q _=>congrFun (pm (by omega)) q)
 replace hH:HH w0 [] [[bl g1 51 ((ae 16).enc (eRd l f 0))],[bl g2 51 ((ae 16).enc (fun _=>0))]] w:=by rw [he3]; exact hH
 refine zL1 (fun (y:Nat)=>[(5,(.int .i64 (((y+1):Nat):Int))),(4,(.pointer (some ⟨g2,0,none⟩))),(3,(.pointer (some ⟨g1,0,none⟩))),(0,(.pointer (some ⟨g,0,none⟩)))]) (fun y w=>HH w0 [] [[bl g1 51 ((ae 16).enc (eRd l f y))],[bl g2 51 ((ae 16).enc (fun _=>0))]] w∧(y≤(l.length / 4+6))) (fun y=>(l.length / 4+6) - y) 0 ⟨hH,(Nat.zero_le _)⟩ ?_
 clear hH
 rintro y w ⟨hH,hj⟩
 refine ak (zr (zv .mv 0 ?_))
 refine zv .mv 0 ?_
 refine zv .nc 1 ?_
 refine zv (.fld 752) 1 ?_
 refine zs (hH.ob hR) (.ld (fo .i64) (l.length / 4+6) (fun _ hS=>(((ac hS).snd).snd).snd)) 1 ?_
 refine zv (.le (y+1≤(l.length / 4+6))) 3 ?_
 refine zn ?_
 refine zP (fun hc4 => ?_) (fun hc4 => ?_)
 refine av (ah (ak (aj ?_)))
 have he5:(ae 16).enc (encR ag (aeW l) f y)=(ae 16).enc (eRd l f y):=aB (fun q _=>(congrFun (pm (by omega)) q).symm)
 replace hH:HH w0 [] [[bl g1 51 ((ae 16).enc (encR ag (aeW l) f y))],[bl g2 51 ((ae 16).enc (fun _=>0))]] w:=by rw [he5]; exact hH
 refine zr (zm hH (.al (ae 16) (fun _=>0)) trivial 1 ?_)
 clear hH
 rintro _ _ w ⟨g6,rfl,rfl⟩ hH
 refine zm hH (.al (ae 16) (fun _=>0)) trivial 0 ?_
 clear hH
 rintro _ _ w ⟨g7,rfl,rfl⟩ hH
 refine zn (ak (zr (zv .mv 0 ?_)))
 refine zn (aj ?_)
 have he8:(ae 16).enc (upF 0 (shifted (boxed ag (encR ag (aeW l) f y))) (fun _=>0))=(ae 16).enc (fun _=>0):=aB (fun j _=>by rw [bE])
 replace hH:HH w0 [] [[bl g1 51 ((ae 16).enc (encR ag (aeW l) f y))],[bl g2 51 ((ae 16).enc (fun _=>0))],[bl g6 51 ((ae 16).enc (upF 0 (shifted (boxed ag (encR ag (aeW l) f y))) (fun _=>0)))],[bl g7 51 ((ae 16).enc (fun _=>0))]] w:=by rw [he8]; exact hH
 refine zL1 (fun (i:Nat)=>[(22,(.int .i64 i)),(7,(.pointer (some ⟨g7,0,none⟩))),(6,(.pointer (some ⟨g6,0,none⟩))),(5,(.int .i64 (((y+1):Nat):Int))),(4,(.pointer (some ⟨g2,0,none⟩))),(3,(.pointer (some ⟨g1,0,none⟩))),(0,(.pointer (some ⟨g,0,none⟩)))]) (fun i w=>HH w0 [] [[bl g1 51 ((ae 16).enc (encR ag (aeW l) f y))],[bl g2 51 ((ae 16).enc (fun _=>0))],[bl g6 51 ((ae 16).enc (upF i (shifted (boxed ag (encR ag (aeW l) f y))) (fun _=>0)))],[bl g7 51 ((ae 16).enc (fun _=>0))]] w∧(i≤16)) (fun i=>16 - i) 0 ⟨hH,(Nat.zero_le _)⟩ ?_
 clear hH
 rintro i w ⟨hH,hi⟩
 refine zr (zv (.lt (i<16)) 0 ?_)
 refine zn (ak ?_)
 refine zP (fun hc9 => ?_) (fun hc9 => ?_)
 refine av (ah (ak (aj (zr (zv .mv 1 ?_)))))
 refine zv .mv 1 ?_
 refine zn (bv mixedOrders (by kernel_rfl) ?_)
 replace hH:=hH.drew
 refine rv 0 .mv 0 ?_
 refine rv 1 .mv 0 ?_
 refine rv 2 .mv 0 ?_
 refine rv 3 (v:=(.int .i64 (((i / 4):Nat):Int))) (fun _ _ hF=>de (z:=((i / 4:Nat):Int)) rfl (hF.ev 0 rfl) rfl (by omega) (wI ej (by omega) (by omega))) 1 ?_
 refine rv 4 .mv 0 ?_
 refine rv 5 (v:=(.int .i64 (((i%4):Nat):Int))) (fun _ _ hF=>bu (z:=((i%4:Nat):Int)) rfl (hF.ev 0 rfl) rfl (by omega) cy) 1 ?_
 refine rv 6 (.add (((i / 4)+(i%4):Nat):Int)) 3 ?_
 refine rv 7 (v:=(.int .i64 (((((i / 4)+(i%4))%4):Nat):Int))) (fun _ _ hF=>bu (z:=((((i / 4)+(i%4))%4:Nat):Int)) rfl (hF.ev 0 rfl) rfl (by omega) cy) 1 ?_
 refine rv 8 (.mul ((4*(((i / 4)+(i%4))%4):Nat):Int)) 1 ?_
 refine rv 9 .mv 8 ?_
 refine rv 10 (v:=(.int .i64 (((i%4):Nat):Int))) (fun _ _ hF=>bu (z:=((i%4:Nat):Int)) rfl (hF.ev 0 rfl) rfl (by omega) cy) 1 ?_
 refine rv 11 (.add (((4*(((i / 4)+(i%4))%4))+(i%4):Nat):Int)) 3 ?_
 have hi10:(4*(((i / 4)+(i%4))%4))+(i%4)<16:=by omega
 refine rv 12 (.ia 1 16 ((4*(((i / 4)+(i%4))%4))+(i%4)) (hi:=hi10)) 1 ?_
 refine rld 13 (hH.q 0 rfl) (.ld af ((encR ag (aeW l) f y) ((4*(((i / 4)+(i%4))%4))+(i%4))) (fun _ hS=>((ac hS).elt hi10))) 1 ?_
 refine rv 14 .nc 2 ?_
 refine rv 15 (.fld 0) 1 ?_
 have hi11:((encR ag (aeW l) f y) ((4*(((i / 4)+(i%4))%4))+(i%4))).toNat<256:=UInt8.toNat_lt _
 refine rv 16 (.ia 1 256 (((encR ag (aeW l) f y) ((4*(((i / 4)+(i%4))%4))+(i%4))).toNat) (hi:=hi11)) 3 ?_
 refine rld 17 (hH.ob hR) (.ld af (ag (((encR ag (aeW l) f y) ((4*(((i / 4)+(i%4))%4))+(i%4))).toNat)) (fun _ hS=>((ac hS).fst.elt hi11))) 1 ?_
 have hi12:i<16:=by omega
 refine rv 18 (.ia 1 16 i (hi:=hi12)) 2 ?_
 refine rx1k 19 ?_
 refine re0 19 2 hH rfl (.st af (ag (((encR ag (aeW l) f y) ((4*(((i / 4)+(i%4))%4))+(i%4))).toNat)) (aW (S:=sBy) (C:=(ae 16)) rfl hi12) (aQ (upF i (shifted (boxed ag (encR ag (aeW l) f y))) (fun _=>0)) (ag (((encR ag (aeW l) f y) ((4*(((i / 4)+(i%4))%4))+(i%4))).toNat)) hi12)) trivial (pgo [] (pgo [] (.nil _ []))) ?_
 clear hH
 rintro _ _ w rfl hH
 refine ⟨an,cg (by kernel_rfl) ?_⟩
 refine aP (ah (aA (zv (.add ((i+1:Nat):Int)) 7 ?_)))
 refine zv .mv 1 ?_
 refine aD ?_
 have he13:(ae 16).enc (upF (i+1) (shifted (boxed ag (encR ag (aeW l) f y))) (fun _=>0))=(ae 16).enc (stF (upF i (shifted (boxed ag (encR ag (aeW l) f y))) (fun _=>0)) i (ag (((encR ag (aeW l) f y) ((4*(((i / 4)+(i%4))%4))+(i%4))).toNat))):=aB (fun j _=>(congrFun (bn i (shifted (boxed ag (encR ag (aeW l) f y))) (fun _=>0) (by rw [show 4*(((i / 4)+(i%4))%4)+(i%4)=(i+i%4*4)%16 by omega]; rfl)) j).symm)
 replace hH:HH w0 [] [[bl g1 51 ((ae 16).enc (encR ag (aeW l) f y))],[bl g2 51 ((ae 16).enc (fun _=>0))],[bl g6 51 ((ae 16).enc (upF (i+1) (shifted (boxed ag (encR ag (aeW l) f y))) (fun _=>0)))],[bl g7 51 ((ae 16).enc (fun _=>0))]] w:=by rw [he13]; exact hH
 exact zR1 (i+1) ⟨hH,(by omega)⟩ (by omega)
 refine aK (am (am (aS (ah ?_))))
 obtain rfl:i=16:=by omega
 have he14:(ae 16).enc (shifted (boxed ag (encR ag (aeW l) f y)))=(ae 16).enc (upF 16 (shifted (boxed ag (encR ag (aeW l) f y))) (fun _=>0)):=aB (fun j hj=>(bA _ _ hj).symm)
 replace hH:HH w0 [] [[bl g1 51 ((ae 16).enc (encR ag (aeW l) f y))],[bl g2 51 ((ae 16).enc (fun _=>0))],[bl g6 51 ((ae 16).enc (shifted (boxed ag (encR ag (aeW l) f y))))],[bl g7 51 ((ae 16).enc (fun _=>0))]] w:=by rw [he14]; exact hH
 refine zr (zs (hH.q 2 rfl) (.ld (ae 16) (shifted (boxed ag (encR ag (aeW l) f y))) (fun _=>ac)) 3 ?_)
 refine ze0 3 hH rfl (.sw (ae 16) (fun _=>0) (shifted (boxed ag (encR ag (aeW l) f y)))) trivial ?_
 clear hH
 rintro _ _ w rfl hH
 refine zn (ak (zr (zv .mv 1 ?_)))
 refine zv .mv 0 ?_
 refine zv .nc 1 ?_
 refine zv (.fld 752) 1 ?_
 refine zs (hH.ob hR) (.ld (fo .i64) (l.length / 4+6) (fun _ hS=>(((ac hS).snd).snd).snd)) 1 ?_
 refine zv (.lt (y+1<(l.length / 4+6))) 3 ?_
 refine zn ?_
 refine zP (fun hc15 => ?_) (fun hc15 => ?_)
 refine zr (zv .mv 1 ?_)
 refine zn (aj ?_)
 have he16:(ae 16).enc (upF 0 (mixed (shifted (boxed ag (encR ag (aeW l) f y)))) (shifted (boxed ag (encR ag (aeW l) f y))))=(ae 16).enc (shifted (boxed ag (encR ag (aeW l) f y))):=aB (fun j _=>by rw [bE])
 replace hH:HH w0 [] [[bl g1 51 ((ae 16).enc (encR ag (aeW l) f y))],[bl g2 51 ((ae 16).enc (fun _=>0))],[bl g6 51 ((ae 16).enc (shifted (boxed ag (encR ag (aeW l) f y))))],[bl g7 51 ((ae 16).enc (upF 0 (mixed (shifted (boxed ag (encR ag (aeW l) f y)))) (shifted (boxed ag (encR ag (aeW l) f y)))))]] w:=by rw [he16]; exact hH
 refine zL1 (fun (i:Nat)=>[(52,(.int .i64 i)),(7,(.pointer (some ⟨g7,0,none⟩))),(6,(.pointer (some ⟨g6,0,none⟩))),(5,(.int .i64 (((y+1):Nat):Int))),(4,(.pointer (some ⟨g2,0,none⟩))),(3,(.pointer (some ⟨g1,0,none⟩))),(0,(.pointer (some ⟨g,0,none⟩)))]) (fun i w=>HH w0 [] [[bl g1 51 ((ae 16).enc (encR ag (aeW l) f y))],[bl g2 51 ((ae 16).enc (fun _=>0))],[bl g6 51 ((ae 16).enc (shifted (boxed ag (encR ag (aeW l) f y))))],[bl g7 51 ((ae 16).enc (upF i (mixed (shifted (boxed ag (encR ag (aeW l) f y)))) (shifted (boxed ag (encR ag (aeW l) f y)))))]] w∧(i≤16)) (fun i=>16 - i) 0 ⟨hH,(Nat.zero_le _)⟩ ?_
 clear hH
 rintro i w ⟨hH,hi⟩
 refine zr (zv (.lt (i<16)) 0 ?_)
 refine zn (ak ?_)
 refine zP (fun hc17 => ?_) (fun hc17 => ?_)
 refine av (ah (ak (aj (zr (zv .mv 1 ?_)))))
 refine zv .mv 1 ?_
 refine zn (zr (zv .mv 0 ?_))
 refine zv (v:=(.int .i64 (((i / 4):Nat):Int))) (fun _ _ hF=>de (z:=((i / 4:Nat):Int)) rfl (hF.ev 0 rfl) rfl (by omega) (wI ej (by omega) (by omega))) 1 ?_
 refine zv (.mul ((4*(i / 4):Nat):Int)) 1 ?_
 refine zv .mv 1 ?_
 refine zn (bv mixedOrders (by kernel_rfl) ?_)
 replace hH:=hH.drew
 refine rv 0 .mv 0 ?_
 refine rv 1 .mv 0 ?_
 have hi18:i<16:=by omega
 refine rv 2 (.ia 1 16 i (hi:=hi18)) 1 ?_
 refine rld 3 (hH.q 2 rfl) (.ld af ((shifted (boxed ag (encR ag (aeW l) f y))) i) (fun _ hS=>((ac hS).elt hi18))) 1 ?_
 refine rv 5 .mv 0 ?_
 refine rv 6 .mv 0 ?_
 refine rv 7 (.add ((i+1:Nat):Int)) 1 ?_
 refine rv 8 (v:=(.int .i64 ((((i+1)%4):Nat):Int))) (fun _ _ hF=>bu (z:=(((i+1)%4:Nat):Int)) rfl (hF.ev 0 rfl) rfl (by omega) cy) 1 ?_
 refine rv 9 (.add (((4*(i / 4))+((i+1)%4):Nat):Int)) 3 ?_
 have hi19:(4*(i / 4))+((i+1)%4)<16:=by omega
 refine rv 10 (.ia 1 16 ((4*(i / 4))+((i+1)%4)) (hi:=hi19)) 1 ?_
 refine rld 11 (hH.q 2 rfl) (.ld af ((shifted (boxed ag (encR ag (aeW l) f y))) ((4*(i / 4))+((i+1)%4))) (fun _ hS=>((ac hS).elt hi19))) 1 ?_
 refine rv 14 .mv 0 ?_
 refine rv 15 .mv 0 ?_
 refine rv 16 (.add ((i+2:Nat):Int)) 1 ?_
 refine rv 17 (v:=(.int .i64 ((((i+2)%4):Nat):Int))) (fun _ _ hF=>bu (z:=(((i+2)%4:Nat):Int)) rfl (hF.ev 0 rfl) rfl (by omega) cy) 1 ?_
 refine rv 18 (.add (((4*(i / 4))+((i+2)%4):Nat):Int)) 3 ?_
 have hi20:(4*(i / 4))+((i+2)%4)<16:=by omega
 refine rv 19 (.ia 1 16 ((4*(i / 4))+((i+2)%4)) (hi:=hi20)) 1 ?_
 refine rld 20 (hH.q 2 rfl) (.ld af ((shifted (boxed ag (encR ag (aeW l) f y))) ((4*(i / 4))+((i+2)%4))) (fun _ hS=>((ac hS).elt hi20))) 1 ?_
 refine rv 22 .mv 16 ?_
 refine rv 23 .mv 32 ?_
 refine rv 24 (.add ((i+3:Nat):Int)) 1 ?_
 refine rv 25 (v:=(.int .i64 ((((i+3)%4):Nat):Int))) (fun _ _ hF=>bu (z:=(((i+3)%4:Nat):Int)) rfl (hF.ev 0 rfl) rfl (by omega) cy) 1 ?_
 refine rv 26 (.add (((4*(i / 4))+((i+3)%4):Nat):Int)) 3 ?_
 have hi21:(4*(i / 4))+((i+3)%4)<16:=by omega
 refine rv 27 (.ia 1 16 ((4*(i / 4))+((i+3)%4)) (hi:=hi21)) 1 ?_
 refine rld 28 (hH.q 2 rfl) (.ld af ((shifted (boxed ag (encR ag (aeW l) f y))) ((4*(i / 4))+((i+3)%4))) (fun _ hS=>((ac hS).elt hi21))) 1 ?_
 refine rx1k 4 (rpc 4 Tryz.func79 (iI 2 ((shifted (boxed ag (encR ag (aeW l) f y))) i)) trivial hH 8 (.keep (.keep (.keep (pgo [] (.nil _ []))))) ?_)
 clear hH
 intro w hH
 refine ⟨pcons (hH.blk 2 rfl) (pcons (hH.blk 2 rfl) (pcons (hH.blk 2 rfl) an)),?_⟩
 refine rx1k 12 (rpc 12 Tryz.func79 (iI 3 ((shifted (boxed ag (encR ag (aeW l) f y))) ((4*(i / 4))+((i+1)%4)))) trivial hH 8 (.keep (.keep (pgo [] (.nil _ [])))) ?_)
 clear hH
 intro w hH
 refine ⟨pcons (hH.blk 2 rfl) (pcons (hH.blk 2 rfl) an),?_⟩
 refine rv 13 (.xb ((tmB 2 ((shifted (boxed ag (encR ag (aeW l) f y))) i)) ^^^ (tmB 3 ((shifted (boxed ag (encR ag (aeW l) f y))) ((4*(i / 4))+((i+1)%4))))) (u:=(tmB 2 ((shifted (boxed ag (encR ag (aeW l) f y))) i))) (v:=(tmB 3 ((shifted (boxed ag (encR ag (aeW l) f y))) ((4*(i / 4))+((i+1)%4)))))) 3 ?_
 refine rv 21 (.xb (((tmB 2 ((shifted (boxed ag (encR ag (aeW l) f y))) i)) ^^^ (tmB 3 ((shifted (boxed ag (encR ag (aeW l) f y))) ((4*(i / 4))+((i+1)%4))))) ^^^ ((shifted (boxed ag (encR ag (aeW l) f y))) ((4*(i / 4))+((i+2)%4)))) (u:=((tmB 2 ((shifted (boxed ag (encR ag (aeW l) f y))) i)) ^^^ (tmB 3 ((shifted (boxed ag (encR ag (aeW l) f y))) ((4*(i / 4))+((i+1)%4)))))) (v:=((shifted (boxed ag (encR ag (aeW l) f y))) ((4*(i / 4))+((i+2)%4))))) 5 ?_
 refine rv 29 (.xb ((((tmB 2 ((shifted (boxed ag (encR ag (aeW l) f y))) i)) ^^^ (tmB 3 ((shifted (boxed ag (encR ag (aeW l) f y))) ((4*(i / 4))+((i+1)%4))))) ^^^ ((shifted (boxed ag (encR ag (aeW l) f y))) ((4*(i / 4))+((i+2)%4)))) ^^^ ((shifted (boxed ag (encR ag (aeW l) f y))) ((4*(i / 4))+((i+3)%4)))) (u:=(((tmB 2 ((shifted (boxed ag (encR ag (aeW l) f y))) i)) ^^^ (tmB 3 ((shifted (boxed ag (encR ag (aeW l) f y))) ((4*(i / 4))+((i+1)%4))))) ^^^ ((shifted (boxed ag (encR ag (aeW l) f y))) ((4*(i / 4))+((i+2)%4))))) (v:=((shifted (boxed ag (encR ag (aeW l) f y))) ((4*(i / 4))+((i+3)%4))))) 3 ?_
 have hi22:i<16:=by omega
 refine rv 30 (.ia 1 16 i (hi:=hi22)) 2 ?_
 refine rx1k 31 ?_
 refine re0 31 3 hH rfl (.st af ((((tmB 2 ((shifted (boxed ag (encR ag (aeW l) f y))) i)) ^^^ (tmB 3 ((shifted (boxed ag (encR ag (aeW l) f y))) ((4*(i / 4))+((i+1)%4))))) ^^^ ((shifted (boxed ag (encR ag (aeW l) f y))) ((4*(i / 4))+((i+2)%4)))) ^^^ ((shifted (boxed ag (encR ag (aeW l) f y))) ((4*(i / 4))+((i+3)%4)))) (aW (S:=sBy) (C:=(ae 16)) rfl hi22) (aQ (upF i (mixed (shifted (boxed ag (encR ag (aeW l) f y)))) (shifted (boxed ag (encR ag (aeW l) f y)))) ((((tmB 2 ((shifted (boxed ag (encR ag (aeW l) f y))) i)) ^^^ (tmB 3 ((shifted (boxed ag (encR ag (aeW l) f y))) ((4*(i / 4))+((i+1)%4))))) ^^^ ((shifted (boxed ag (encR ag (aeW l) f y))) ((4*(i / 4))+((i+2)%4)))) ^^^ ((shifted (boxed ag (encR ag (aeW l) f y))) ((4*(i / 4))+((i+3)%4)))) hi22)) trivial (pgo [] (pgo [] (.nil _ []))) ?_
 clear hH
 rintro _ _ w rfl hH
 refine ⟨an,cg (by kernel_rfl) ?_⟩
 refine aP (ah (aA (zv (.add ((i+1:Nat):Int)) 7 ?_)))
 refine zv .mv 1 ?_
 refine aD ?_
 have he23:(ae 16).enc (upF (i+1) (mixed (shifted (boxed ag (encR ag (aeW l) f y)))) (shifted (boxed ag (encR ag (aeW l) f y))))=(ae 16).enc (stF (upF i (mixed (shifted (boxed ag (encR ag (aeW l) f y)))) (shifted (boxed ag (encR ag (aeW l) f y)))) i ((((tmB 2 ((shifted (boxed ag (encR ag (aeW l) f y))) i)) ^^^ (tmB 3 ((shifted (boxed ag (encR ag (aeW l) f y))) ((4*(i / 4))+((i+1)%4))))) ^^^ ((shifted (boxed ag (encR ag (aeW l) f y))) ((4*(i / 4))+((i+2)%4)))) ^^^ ((shifted (boxed ag (encR ag (aeW l) f y))) ((4*(i / 4))+((i+3)%4))))):=aB (fun j _=>(congrFun (bn i (mixed (shifted (boxed ag (encR ag (aeW l) f y)))) (shifted (boxed ag (encR ag (aeW l) f y))) (by rw [show 4*(i / 4)=i - i%4 by omega]; exact ur (shifted (boxed ag (encR ag (aeW l) f y))) i)) j).symm)
 replace hH:HH w0 [] [[bl g1 51 ((ae 16).enc (encR ag (aeW l) f y))],[bl g2 51 ((ae 16).enc (fun _=>0))],[bl g6 51 ((ae 16).enc (shifted (boxed ag (encR ag (aeW l) f y))))],[bl g7 51 ((ae 16).enc (upF (i+1) (mixed (shifted (boxed ag (encR ag (aeW l) f y)))) (shifted (boxed ag (encR ag (aeW l) f y)))))]] w:=by rw [he23]; exact hH
 exact zR1 (i+1) ⟨hH,(by omega)⟩ (by omega)
 refine aK (am (am (aS (ah ?_))))
 obtain rfl:i=16:=by omega
 have he24:(ae 16).enc (mixed (shifted (boxed ag (encR ag (aeW l) f y))))=(ae 16).enc (upF 16 (mixed (shifted (boxed ag (encR ag (aeW l) f y)))) (shifted (boxed ag (encR ag (aeW l) f y)))):=aB (fun j hj=>(bA _ _ hj).symm)
 replace hH:HH w0 [] [[bl g1 51 ((ae 16).enc (encR ag (aeW l) f y))],[bl g2 51 ((ae 16).enc (fun _=>0))],[bl g6 51 ((ae 16).enc (shifted (boxed ag (encR ag (aeW l) f y))))],[bl g7 51 ((ae 16).enc (mixed (shifted (boxed ag (encR ag (aeW l) f y)))))]] w:=by rw [he24]; exact hH
 refine aA (zv .mv 11 ?_)
 refine zs (hH.q 3 rfl) (.ld (ae 16) (mixed (shifted (boxed ag (encR ag (aeW l) f y)))) (fun _=>ac)) 2 ?_
 refine zv .mv 0 ?_
 refine zc Tryz.func80 (uG g l hk (mixed (shifted (boxed ag (encR ag (aeW l) f y)))) (y+1) (by omega)) (hH.oldBlk hR (by simp)) hH 7 ?_
 clear hH
 intro w hH
 refine ze0 0 hH rfl (.sw (ae 16) (encR ag (aeW l) f y) (added (mixed (shifted (boxed ag (encR ag (aeW l) f y)))) (rk (aeW l) (y+1)))) trivial ?_
 clear hH
 rintro _ _ w rfl hH
 refine aD (aP (ah (aA (zv .mv 3 ?_))))
 refine zv (.add (((y+1+1):Nat):Int)) 1 ?_
 refine zv .mv 1 ?_
 refine aD ?_
 replace hH:HH w0 [] [[bl g1 51 ((ae 16).enc (added (mixed (shifted (boxed ag (encR ag (aeW l) f y)))) (rk (aeW l) (y+1))))],[bl g2 51 ((ae 16).enc (fun _=>0))]] w:=hH.only [true,true,false,false]
 have he25:(ae 16).enc (eRd l f (y+1))=(ae 16).enc (added (mixed (shifted (boxed ag (encR ag (aeW l) f y)))) (rk (aeW l) (y+1))):=aB (fun q _=>congrFun (pm (by omega)) q)
 replace hH:HH w0 [] [[bl g1 51 ((ae 16).enc (eRd l f (y+1)))],[bl g2 51 ((ae 16).enc (fun _=>0))]] w:=by rw [he25]; exact hH
 exact zR1 (y+1) ⟨hH,(by omega)⟩ (by omega)
 refine av (ah (aA (zv .mv 5 ?_)))
 refine zs (hH.q 3 rfl) (.ld (ae 16) (shifted (boxed ag (encR ag (aeW l) f y))) (fun _=>ac)) 2 ?_
 refine zv .mv 0 ?_
 refine zc Tryz.func80 (uG g l hk (shifted (boxed ag (encR ag (aeW l) f y))) (y+1) (by omega)) (hH.oldBlk hR (by simp)) hH 7 ?_
 clear hH
 intro w hH
 refine ze0 0 hH rfl (.sw (ae 16) (encR ag (aeW l) f y) (added (shifted (boxed ag (encR ag (aeW l) f y))) (rk (aeW l) (y+1)))) trivial ?_
 clear hH
 rintro _ _ w rfl hH
 refine aD (aP (ah (aA (zv .mv 3 ?_))))
 refine zv (.add (((y+1+1):Nat):Int)) 1 ?_
 refine zv .mv 1 ?_
 refine aD ?_
 replace hH:HH w0 [] [[bl g1 51 ((ae 16).enc (added (shifted (boxed ag (encR ag (aeW l) f y))) (rk (aeW l) (y+1))))],[bl g2 51 ((ae 16).enc (fun _=>0))]] w:=hH.only [true,true,false,false]
 have he26:(ae 16).enc (eRd l f (y+1))=(ae 16).enc (added (shifted (boxed ag (encR ag (aeW l) f y))) (rk (aeW l) (y+1))):=aB (fun q _=>congrFun (uF (by omega)) q)
 replace hH:HH w0 [] [[bl g1 51 ((ae 16).enc (eRd l f (y+1)))],[bl g2 51 ((ae 16).enc (fun _=>0))]] w:=by rw [he26]; exact hH
 exact zR1 (y+1) ⟨hH,(by omega)⟩ (by omega)
 refine aK (am (am (aS (ah ?_))))
 obtain rfl:y=(l.length / 4+6):=by omega
 have he27:(ae 16).enc (aeE l f)=(ae 16).enc (eRd l f (l.length / 4+6)):=aB (fun q _=>(congrFun wO q).symm)
 replace hH:HH w0 [] [[bl g1 51 ((ae 16).enc (aeE l f))],[bl g2 51 ((ae 16).enc (fun _=>0))]] w:=by rw [he27]; exact hH
 refine zr (zs (hH.q 0 rfl) (.ld (ae 16) (aeE l f) (fun _=>ac)) 27 ?_)
 refine ze0 1 hH rfl (.sw (ae 16) (fun _=>0) (aeE l f)) trivial ?_
 clear hH
 rintro _ _ w rfl hH
 refine zn (au (aH 1 (hH.blk 1 rfl) rfl rfl (by kernel_rfl) (Cod.size _ _) (by kernel_rfl) ?_))
 exact ⟨rfl,HH.toBelow hH⟩
theorem uH {T k:Nat} {X:Nat→UInt8} (hT:T<256) (hk:k<8):upF k (aT X T) X k ^^^ UInt8.ofNat (T / 2^(56 - 8*k))=aT X T k:=by
 rw [gG]
 unfold aT
 by_cases h:k=7
 ·subst h; rw [if_pos rfl,show 56 - 8*7=0 from rfl,Nat.pow_zero,Nat.div_one]; rfl
 ·rw [if_neg h,Nat.div_eq_of_lt (Nat.lt_of_lt_of_le hT (by
   have:=Nat.pow_le_pow_right (show 0<2 by decide) (show 8≤56 - 8*k by omega)
   exact this))]
  exact UInt8.xor_zero
theorem wP (X:Nat→UInt8) (T j:Nat):aT X T j=upF 8 (aT X T) X j:=by
 by_cases h:j<8
 ·rw [bA _ _ h]
 ·rw [x5 _ _ (by omega)]
  exact if_neg (by omega)
theorem wQ {α:Type} {C:Cod α} {w:World} {A:Option Addr} {n c:Nat} {l:List α} (h:Vu C w A n c l) (hA:A=none):n=0∧c=0:=by
 have h1:=h.nil hA
 have h2:=h.cap
 exact ⟨by omega,h1⟩
theorem wR {n j i:Nat} (hi:i<n):(n*j+i)*8%(8*n)=8*i:=by
 rw [Nat.mul_comm,Nat.mul_mod_mul_left,Nat.mul_add_mod,Nat.mod_eq_of_lt hi]
section
variable {o d Q:List UInt8} {A P X:Nat→UInt8} {m k:Nat}
theorem uI (hol:o.length=8+m) (hA:∀ j,j<8→o[j]?=some (A j)) (hP:∀ j,j<m→o[8+j]?=some (P j)) (hk:k+8≤m):E16 (ovA 8 (((o.take (8+k+8)).drop (8+k)).take 8) (ovr ((o.take 8).take 8) fun _=>0)) (cp A fun j=>P (k+j)):=fun j hj=>by
 have hl:((o.take (8+k+8)).drop (8+k)).length=8:=by rw [List.length_drop,List.length_take]; omega
 rw [show ovA 8 (((o.take (8+k+8)).drop (8+k)).take 8) (ovr ((o.take 8).take 8) fun _=>0) j=ovA 8 (((o.take (8+k+8)).drop (8+k)).take 8) (ovr ((lst 8 A).take 8) fun _=>0) j from ?_,← qT A _ hl j hj]
 ·exact iG (fun _ _=>rfl) (fun j hj=>gQ hP hk j hj) j hj
 ·rw [show o.take 8=lst 8 A from co (fun j hj=>by rw [List.getElem?_take,if_pos hj]; exact hA j hj) (by rw [List.length_take]; omega)]
theorem uJ (h8:8≤o.length) (hQ:Q=o.take 0++((lst 16 X).take 8++o.drop (0+((lst 16 X).take 8).length))):Q.length=o.length∧(∀ j,j<8→Q[j]?=some (X j)) ∧ ∀ j,Q[8+j]?=o[8+j]?:=by
 have hl:((lst 16 X).take 8).length=8:=by rw [List.length_take,ao]; rfl
 rw [List.take_zero,List.nil_append,hl,Nat.zero_add] at hQ
 subst hQ
 refine ⟨by rw [List.length_append,hl,List.length_drop]; omega,fun j hj => ?_,fun j => ?_⟩
 ·rw [List.getElem?_append_left (by omega),List.getElem?_take,if_pos hj,bs (by omega)]
 ·rw [List.getElem?_append_right (by omega),hl,List.getElem?_drop]
  congr 1
  omega
theorem sC {a j:Nat} {R:List UInt8} (ha:8≤a) (hj:j<8) (h8:8≤Q.length):(Q.take a++R)[j]?=Q[j]?:=by
 rw [List.getElem?_append_left (by rw [List.length_take]; omega),List.getElem?_take,if_pos (by omega)]
theorem pn (hol:Q.length=8+m) (hk:k+8≤m) (h:∀ j,j<m→Q[8+j]?=some (P j)) (hX:∀ j,8≤j→X j=A j) (j:Nat) (hj:j<m) :
  (Q.take (8+k)++((lst 16 X).drop 8++Q.drop (8+k+((lst 16 X).drop 8).length)))[8+j]?=some (cpy k 8 P (fun j=>A (8+j)) j):=by
 rw [kC hol hk h j hj]
 unfold cpy
 by_cases hh:k≤j∧j<k+8
 ·rw [if_pos hh,if_pos hh]; exact congrArg some (hX _ (by omega))
 ·rw [if_neg hh,if_neg hh]
end
theorem Cs (d:List UInt8):([166,166,166,166,166,166,166,166]++d).length=8+d.length:=by rw [List.length_append]; rfl
theorem zG (d:List UInt8) (j:Nat) (hj:j<8):([166,166,166,166,166,166,166,166]++d)[j]?=some (dq j):=by
 rw [List.getElem?_append_left (by exact hj)]
 rcases (by omega:j=0 ∨ j=1 ∨ j=2 ∨ j=3 ∨ j=4 ∨ j=5 ∨ j=6 ∨ j=7) with rfl | rfl | rfl | rfl | rfl | rfl | rfl | rfl <;> rfl
theorem zH (d:List UInt8) (j:Nat) (hj:j<d.length):([166,166,166,166,166,166,166,166]++d)[8+j]?=some (ai d 0 j):=by
 rw [List.getElem?_append_right (by exact Nat.le_add_right _ _)]
 show d[8+j - 8]?=_
 rw [Nat.add_sub_cancel_left]
 exact i7 hj
theorem wS {o:List UInt8} {A P:Nat→UInt8} {m:Nat} (hol:o.length=8+m) (hA:∀ j,j<8→o[j]?=some (A j)) (hP:∀ j,j<m→o[8+j]?=some (P j)):o=lst 8 A++lst m P:=by
 rw [← List.take_append_drop 8 o]
 congr 1
 ·exact co (fun j hj=>by rw [List.getElem?_take,if_pos hj]; exact hA j hj) (by rw [List.length_take]; omega)
 ·exact co (fun j hj=>by rw [List.getElem?_drop]; exact hP j hj) (by rw [List.length_drop]; omega)
theorem wT (A:Option Addr) (z:Nat) (l:List UInt8) (hk:l.length=16 ∨ l.length=32) (B:Option Addr) (y:Nat) (d:List UInt8) (hd:16≤d.length∧d.length≤128) (h8:d.length%8=0):Does Tryz.prog 22 #[(.slice A l.length z),(.slice B d.length y)] [] (fun w=>Vu af w A l.length z l∧Vu af w B d.length y d) (fun v E' => ∃ s,v=.tuple #[s,.int .i64 0]∧OwnT af 5 s (bW l d) E'):=by
 refine dU Tryz.func22 Tryz.ntmps22 ?_
 intro w0 hH hR
 replace hH:HH w0 [] [] w0:=hH.only [false]
 have hlk:=hR.1.len; have hld:=hR.2.len
 refine zr (zv .mv 0 ?_)
 refine zv .mv 1 ?_
 refine zn (zr (zv .mv 3 ?_))
 refine zm hH (.call Tryz.func40 (Bv A z l hk)) (hH.vu hR.1 (by decide) (Off.nil _ _)) 1 ?_
 clear hH
 rintro _ _ w ⟨g1,rfl,rfl⟩ hH
 refine zv .mv 1 ?_
 refine zv .ext 0 ?_
 refine zv .ext 2 ?_
 refine zv .mv 2 ?_
 refine zv .mv 2 ?_
 refine zn (ak (zr (zv .mv 1 ?_)))
 refine zv (v:=(.bool false)) (fun _ _ hF=>el rfl (hF.ev 0 rfl) rfl) 1 ?_
 refine zv .mv 1 ?_
 refine pxV (v:=(.slice B d.length y)) (fun _ _ hF=>bo rfl (hF.ev 2 rfl)) rfl (gOn 0 rfl rfl rfl (by decide)) (kA rfl) (by decide) ?_
 refine pxV (v:=(.int .i64 d.length)) (fun _ _ hF=>gr (e:=5) rfl (by kernel_rfl) (hF.ev 0 rfl)) rfl (gOn 1 rfl rfl rfl (by decide)) (kM [false,true,true,true] rfl rfl) (by decide) ?_
 refine pxV (v:=(.bool false)) (fun _ _ hF=>jN rfl (hF.ev 0 rfl) rfl (decide_eq_false (by omega))) rfl (gOn 1 rfl rfl rfl (by decide)) (kM [false,true,true,true] rfl rfl) (by decide) ?_
 refine zv (v:=(.bool false)) (fun _ _ hF=>dt rfl (hF.ev 1 rfl) (hF.ev 0 rfl)) 3 ?_
 refine zv .mv 1 ?_
 refine pxV (v:=(.slice B d.length y)) (fun _ _ hF=>bo rfl (hF.ev 2 rfl)) rfl (gOn 0 rfl rfl rfl (by decide)) (kA rfl) (by decide) ?_
 refine pxV (v:=(.int .i64 d.length)) (fun _ _ hF=>gr (e:=5) rfl (by kernel_rfl) (hF.ev 0 rfl)) rfl (gOn 1 rfl rfl rfl (by decide)) (kM [false,true,true,true] rfl rfl) (by decide) ?_
 refine pxV (v:=(.bool false)) (fun _ _ hF=>pA rfl (hF.ev 0 rfl) rfl (decide_eq_false (by omega))) rfl (gOn 1 rfl rfl rfl (by decide)) (kM [false,true,true,true] rfl rfl) (by decide) ?_
 refine zv (v:=(.bool false)) (fun _ _ hF=>dt rfl (hF.ev 1 rfl) (hF.ev 0 rfl)) 3 ?_
 refine zv .mv 1 ?_
 refine pxV (v:=(.slice B d.length y)) (fun _ _ hF=>bo rfl (hF.ev 2 rfl)) rfl (gOn 0 rfl rfl rfl (by decide)) (kA rfl) (by decide) ?_
 refine pxV (v:=(.int .i64 d.length)) (fun _ _ hF=>gr (e:=5) rfl (by kernel_rfl) (hF.ev 0 rfl)) rfl (gOn 1 rfl rfl rfl (by decide)) (kM [false,true,true,true] rfl rfl) (by decide) ?_
 refine pxV (v:=(.int .i64 (((d.length%8):Nat):Int))) (fun _ _ hF=>bu (z:=((d.length%8:Nat):Int)) rfl (hF.ev 0 rfl) rfl (by omega) cy) rfl (gOn 1 rfl rfl rfl (by decide)) (kM [false,true,true,true] rfl rfl) (by decide) ?_
 refine pxV (v:=(.bool false)) (fun _ _ hF=>pB rfl (hF.ev 0 rfl) rfl (decide_eq_false (by omega))) rfl (gOn 1 rfl rfl rfl (by decide)) (kM [false,true,true,true] rfl rfl) (by decide) ?_
 refine zv (v:=(.bool false)) (fun _ _ hF=>dt rfl (hF.ev 1 rfl) (hF.ev 0 rfl)) 3 ?_
 refine zn (zF ?_)
 refine av (ah (zr (zm hH (fun _ hF=>cX (C:=af) (e:=5) (z:=(.int .u8 0)) (by_:=1) [166,166,166,166,166,166,166,166] rfl (by kernel_rfl) (by kernel_rfl) (EvP.cons (v:=af.val 166) rfl (EvP.cons (v:=af.val 166) rfl (EvP.cons (v:=af.val 166) rfl (EvP.cons (v:=af.val 166) rfl (EvP.cons (v:=af.val 166) rfl (EvP.cons (v:=af.val 166) rfl (EvP.cons (v:=af.val 166) rfl (EvP.cons (v:=af.val 166) rfl EvP.nil)))))))) rfl (ltb rfl) (leb rfl) rfl) trivial 1 ?_)))
 clear hH
 rintro _ _ w ⟨g2,rfl,rfl⟩ hH
 refine zv .mv 0 ?_
 refine ze 1 hH rfl (fun _ hF=>ck (C:=af) (l:=[166,166,166,166,166,166,166,166]) (m:=d) (e:=5) (z:=(.int .u8 0)) (by_:=1) rfl (by kernel_rfl) (by kernel_rfl) rfl (ltb rfl) (hF.ev 1 rfl) ((Bk.lits (C:=af) [166,166,166,166,166,166,166,166] (by show 8≤_; unfold maxLen; decide)).own 5 g2 rfl) (hF.ev 0 rfl) rfl (wQ hR.2) (by show 8+_≤maxLen; unfold maxLen; omega) (by show (8+_)*1≤_; omega)) (hH.vu hR.2 (by decide) (Off.nil _ _)) 3 ?_
 clear hH
 rintro v5 E6 w ⟨hO7,_⟩ hH
 replace hO7:OwnT af 5 v5 ([166,166,166,166,166,166,166,166]++d) E6:=hO7
 obtain ⟨A3,c4,rfl⟩:=hO7.slice
 refine zv .mv 1 ?_
 refine zn ?_
 have hln:=Cs d
 obtain ⟨g8,cap9,cur10,hv12,rfl,hB11⟩:=hO7.open (by omega)
 obtain ⟨rfl,rfl⟩:A3=some ⟨g8,0,none⟩∧c4=cap9:=by injection hv12 with h1 h2 h3; exact ⟨h1,h3⟩
 have:=hB11.le
 rw [hln]
 refine zr (zv .mv 0 ?_)
 refine zn (ak (zr (zv .mv 0 ?_)))
 refine zn (aj ?_)
 refine zL4 (fun (j:Nat) (t:Nat) (_:List UInt8) (_:Array Value)=>[(39,(.int .i64 j)),(9,(.int .u64 t)),(8,(.slice (some ⟨g8,0,none⟩) (8+d.length) c4)),(6,(.pointer (some ⟨g1,0,none⟩))),(1,(.slice B d.length y))]) (fun j t o cu w=>HH w0 [] [[bl g1 107 (cCi.enc (ag,bk ag 256,(upF (16*(l.length / 4+7)) (aeW l) fun _=>0),(l.length / 4+6)))],[bl g8 5 cu]] w∧(j≤6)∧(t=(d.length / 8)*j)∧(o.length=8+d.length)∧(∀ j,j<8→o[j]?=some ((br (aeE l) d.length dq (ai d 0) t).1 j))∧(∀ j,j<d.length→o[8+j]?=some ((br (aeE l) d.length dq (ai d 0) t).2 j))∧(Bk af c4 cu o)) (fun j _ _ _=>6 - j) 0 0 ([166,166,166,166,166,166,166,166]++d) cur10 ⟨hH,(Nat.zero_le _),(Nat.mul_zero _).symm,hln,(zG d),(zH d),hB11⟩ ?_
 clear hH
 rintro j t o cu w ⟨hH,hj,ht,hol,hoA,hoP,hB⟩
 refine zr (zv (.lt (j<6)) 0 ?_)
 refine zn (ak ?_)
 refine zP (fun hc13 => ?_) (fun hc13 => ?_)
 refine av (ah (ak (aj (zr (zv .mv 1 ?_)))))
 refine zn (aj ?_)
 have htb:t+(d.length / 8)≤(d.length / 8)*6:=by rw [ht,← Nat.mul_succ]; exact Nat.mul_le_mul_left _ (by omega)
 refine zL3 (fun (i:Nat) (_:List UInt8) (_:Array Value)=>[(39,(.int .i64 j)),(10,(.int .i64 (((i+1):Nat):Int))),(9,(.int .u64 (((t+i):Nat):Int))),(8,(.slice (some ⟨g8,0,none⟩) (8+d.length) c4)),(6,(.pointer (some ⟨g1,0,none⟩))),(1,(.slice B d.length y))]) (fun i o2 cu2 w=>HH w0 [] [[bl g1 107 (cCi.enc (ag,bk ag 256,(upF (16*(l.length / 4+7)) (aeW l) fun _=>0),(l.length / 4+6)))],[bl g8 5 cu2]] w∧(i≤(d.length / 8))∧(o2.length=8+d.length)∧(∀ j,j<8→o2[j]?=some ((br (aeE l) d.length dq (ai d 0) (t+i)).1 j))∧(∀ j,j<d.length→o2[8+j]?=some ((br (aeE l) d.length dq (ai d 0) (t+i)).2 j))∧(Bk af c4 cu2 o2)) (fun i _ _=>(d.length / 8) - i) 0 o cu ⟨hH,(Nat.zero_le _),hol,hoA,hoP,hB⟩ ?_
 clear hH
 rintro i o2 cu2 w ⟨hH,hi,hol2,hoA2,hoP2,hB2⟩
 refine ak (zr (zv .mv 0 ?_))
 refine zv .mv 0 ?_
 refine zv .len 1 ?_
 refine zv (v:=(.int .i64 (((d.length / 8):Nat):Int))) (fun _ _ hF=>de (z:=((d.length / 8:Nat):Int)) rfl (hF.ev 0 rfl) rfl (by omega) (wI ej (by omega) (by omega))) 1 ?_
 refine zv (.le (i+1≤d.length / 8)) 3 ?_
 refine zn ?_
 refine zP (fun hc14 => ?_) (fun hc14 => ?_)
 refine av (ah (ak (aj (zr (zm hH (.al (ae 16) (fun _=>0)) trivial 1 ?_)))))
 clear hH
 rintro _ _ w ⟨g15,rfl,rfl⟩ hH
 refine zn ?_
 have he8:8*(i+1)=8+8*i:=by omega
 refine zx ?_
 replace hH:=hH.drew
 refine rv 0 (v:=(.slice (some ⟨g15,0,none⟩) 16 16)) (fun _ _ hF=>aY (n:=16) (e:=5) (sz:=1) rfl (by kernel_rfl) (by kernel_rfl) (hF.ev 0 rfl)) 0 ?_
 refine rv 1 .mv 0 ?_
 refine rv 2 (v:=(.slice (some ⟨g8,0,none⟩) 8 c4)) (fun _ _ hF=>iP (h:=8) (e:=5) (sz:=1) rfl (by kernel_rfl) (by kernel_rfl) (hF.ev 0 rfl) rfl rfl (by omega)) 1 ?_
 refine rx1k 3 ?_
 refine re 3 2 hH rfl (fun _ hF=>eM (C:=af) (m:=(o2.take 8)) (e:=5) 8 rfl rfl (by kernel_rfl) (by kernel_rfl) (ltb rfl) (hF.ev 1 rfl) (hF.ev 0 rfl) (by rw [List.length_take]; omega) (by rw [Cod.size]; show 0+8*1≤16; omega) (hJ _ _)) ((hB2.vu (n:=(8+d.length)) (hH.blk 1 rfl) hol2).head (m:=8) (by omega)) 3 (.nil _ []) ?_
 clear hH
 rintro _ _ w ⟨rfl,rfl⟩ hH
 refine ⟨an,rn ?_⟩
 refine zx ?_
 replace hH:=hH.drew
 refine rv 0 (v:=(.slice (some ⟨g15,0+8*1,none⟩) (16 - 8) (16 - 8))) (fun _ _ hF=>dC (m:=16) (l:=8) (e:=5) (sz:=1) rfl (by kernel_rfl) (by kernel_rfl) (hF.ev 1 rfl) rfl rfl (by omega)) 1 ?_
 refine rv 1 .mv 0 ?_
 refine rv 2 .mv 0 ?_
 refine rv 3 (.mul ((8*(i+1):Nat):Int)) 1 ?_
 refine rv 4 .mv 0 ?_
 refine rv 5 (.mul ((8*(i+1):Nat):Int)) 1 ?_
 refine rv 6 (.add (((8*(i+1))+8:Nat):Int)) 1 ?_
 refine rv 7 (v:=(.slice (some ⟨g8,0+(8*(i+1))*1,none⟩) (((8*(i+1))+8) - (8*(i+1))) (c4 - (8*(i+1))))) (fun _ _ hF=>vc (k:=8*(i+1)) (h:=(8*(i+1))+8) (e:=5) (sz:=1) rfl (by kernel_rfl) (by kernel_rfl) (hF.ev 2 rfl) (hF.ev 1 rfl) (hF.ev 0 rfl) rfl rfl (by omega) (by omega) (by omega)) 7 ?_
 refine rx1k 8 ?_
 refine re 8 2 hH rfl (fun _ hF=>eM (C:=af) (m:=((o2.take ((8*(i+1))+8)).drop (8*(i+1)))) (e:=5) 8 (show min (8*(i+1)+8 - 8*(i+1)) (16 - 8)=8 by omega) rfl (by kernel_rfl) (by kernel_rfl) (ltb rfl) (hF.ev 1 rfl) (hF.ev 0 rfl) (by rw [List.length_drop,List.length_take]; omega) (by rw [Cod.size]; show 0+8*1+8*1≤16; omega) (qS 8 _ _)) (bK (sz:=1) (b:=g8) (off:=0) (c:=c4) (k:=8*(i+1)) (by omega) ▸ ((hB2.vu (n:=(8+d.length)) (hH.blk 1 rfl) hol2).cut (k:=8*(i+1)) (m:=(8*(i+1))+8) (by omega) (by omega))) 3 (.nil _ []) ?_
 clear hH
 rintro _ _ w ⟨rfl,rfl⟩ hH
 refine ⟨an,rn ?_⟩
 refine zr (zv .mv 1 ?_)
 refine zs (hH.q 2 rfl) (.ld (ae 16) (ovA 8 (((o2.take ((8*(i+1))+8)).drop (8*(i+1))).take 8) (ovr ((o2.take 8).take 8) (fun _=>0))) (fun _=>ac)) 0 ?_
 refine zc Tryz.func41 (Bw g1 l hk (ovA 8 (((o2.take ((8*(i+1))+8)).drop (8*(i+1))).take 8) (ovr ((o2.take 8).take 8) (fun _=>0)))) (hH.blk 0 rfl) hH 3 ?_
 clear hH
 intro w hH
 refine ze0 2 hH rfl (.sw (ae 16) (ovA 8 (((o2.take ((8*(i+1))+8)).drop (8*(i+1))).take 8) (ovr ((o2.take 8).take 8) (fun _=>0))) (aeE l (ovA 8 (((o2.take ((8*(i+1))+8)).drop (8*(i+1))).take 8) (ovr ((o2.take 8).take 8) (fun _=>0))))) trivial ?_
 clear hH
 rintro _ _ w rfl hH
 refine zn ?_
 have hat:(t+i)*8%d.length=8*i:=by rw [ht]; exact (congrArg (fun q=>((d.length / 8)*j+i)*8%q) (show d.length=8*(d.length / 8) by omega)).trans (wR (by omega))
 obtain ⟨X,hX⟩:∃ X,X=wrB (aeE l) d.length dq (ai d 0) (t+i):=⟨_,rfl⟩
 have he16:(ae 16).enc X=(ae 16).enc (aeE l (ovA 8 (((o2.take ((8*(i+1))+8)).drop (8*(i+1))).take 8) (ovr ((o2.take 8).take 8) (fun _=>0)))):=aB (fun j hj=>by rw [hX,he8]; unfold wrB; rw [hat]; exact (qM l (by unfold aeR; omega) (uI hol2 hoA2 hoP2 (by omega)) j hj).symm)
 replace hH:HH w0 [] [[bl g1 107 (cCi.enc (ag,bk ag 256,(upF (16*(l.length / 4+7)) (aeW l) fun _=>0),(l.length / 4+6)))],[bl g8 5 cu2],[bl g15 51 ((ae 16).enc X)]] w:=by rw [he16]; exact hH
 refine zr (zv .mv 17 ?_)
 refine zv (v:=(.int .u64 (((t+i+1):Nat):Int))) (fun _ _ hF=>gD (m:=t+i) (j:=1) (z:=(t+i+1)) rfl rfl (hF.ev 0 rfl) rfl (Nat.mod_eq_of_lt (by show _<18446744073709551616; omega))) 1 ?_
 refine zv .mv 1 ?_
 refine zn (ak (zr (zv .mv 0 ?_)))
 refine zn (aj ?_)
 have he17:(ae 16).enc (upF 0 (aT X (t+i+1)) X)=(ae 16).enc X:=aB (fun j _=>by rw [bE])
 replace hH:HH w0 [] [[bl g1 107 (cCi.enc (ag,bk ag 256,(upF (16*(l.length / 4+7)) (aeW l) fun _=>0),(l.length / 4+6)))],[bl g8 5 cu2],[bl g15 51 ((ae 16).enc (upF 0 (aT X (t+i+1)) X))]] w:=by rw [he17]; exact hH
 refine zL1 (fun (v8:Nat)=>[(66,(.int .i64 v8)),(39,(.int .i64 j)),(11,(.pointer (some ⟨g15,0,none⟩))),(10,(.int .i64 (((i+1):Nat):Int))),(9,(.int .u64 (((t+i+1):Nat):Int))),(8,(.slice (some ⟨g8,0,none⟩) (8+d.length) c4)),(6,(.pointer (some ⟨g1,0,none⟩))),(1,(.slice B d.length y))]) (fun v8 w=>HH w0 [] [[bl g1 107 (cCi.enc (ag,bk ag 256,(upF (16*(l.length / 4+7)) (aeW l) fun _=>0),(l.length / 4+6)))],[bl g8 5 cu2],[bl g15 51 ((ae 16).enc (upF v8 (aT X (t+i+1)) X))]] w∧(v8≤8)) (fun v8=>8 - v8) 0 ⟨hH,(Nat.zero_le _)⟩ ?_
 clear hH
 rintro v8 w ⟨hH,hk8⟩
 refine zr (zv (.lt (v8<8)) 0 ?_)
 refine zn (ak ?_)
 refine zP (fun hc18 => ?_) (fun hc18 => ?_)
 refine av (ah (ak (aj (zr (zv .mv 1 ?_)))))
 refine zv .mv 1 ?_
 refine zn (bv mixedOrders (by kernel_rfl) ?_)
 replace hH:=hH.drew
 refine rv 0 .mv 0 ?_
 refine rv 1 .mv 0 ?_
 have hi19:v8<16:=by omega
 refine rv 2 (.ia 1 16 v8 (hi:=hi19)) 1 ?_
 refine rld 3 (hH.q 2 rfl) (.ld af ((upF v8 (aT X (t+i+1)) X) v8) (fun _ hS=>((ac hS).elt hi19))) 1 ?_
 refine rv 4 .mv 0 ?_
 refine rv 5 .mv 8 ?_
 refine rv 6 (.mul ((8*v8:Nat):Int)) 1 ?_
 refine rv 7 (.sub (((56 - 8*v8):Nat):Int)) 1 ?_
 refine rv 8 (v:=(.int .u64 ((((t+i+1) / 2^(56 - 8*v8)):Nat):Int))) (fun _ _ hF=>dy (n:=56 - 8*v8) (z:=((t+i+1) / 2^(56 - 8*v8))) rfl (hF.ev 1 rfl) (hF.ev 0 rfl) (by show _≤64; omega) (rfl)) 3 ?_
 refine rv 9 .cb 1 ?_
 refine rv 10 (.xb (((upF v8 (aT X (t+i+1)) X) v8) ^^^ (UInt8.ofNat ((t+i+1) / 2^(56 - 8*v8)))) (u:=((upF v8 (aT X (t+i+1)) X) v8)) (v:=(UInt8.ofNat ((t+i+1) / 2^(56 - 8*v8))))) 3 ?_
 have hi20:v8<16:=by omega
 refine rv 11 (.ia 1 16 v8 (hi:=hi20)) 2 ?_
 refine rx1k 12 ?_
 refine re0 12 2 hH rfl (.st af (((upF v8 (aT X (t+i+1)) X) v8) ^^^ (UInt8.ofNat ((t+i+1) / 2^(56 - 8*v8)))) (aW (S:=sBy) (C:=(ae 16)) rfl hi20) (aQ (upF v8 (aT X (t+i+1)) X) (((upF v8 (aT X (t+i+1)) X) v8) ^^^ (UInt8.ofNat ((t+i+1) / 2^(56 - 8*v8)))) hi20)) trivial (pgo [] (.nil _ [])) ?_
 clear hH
 rintro _ _ w rfl hH
 refine ⟨an,cg (by kernel_rfl) ?_⟩
 refine aP (ah (aA (zv (.add ((v8+1:Nat):Int)) 7 ?_)))
 refine zv .mv 1 ?_
 refine aD ?_
 have he21:(ae 16).enc (upF (v8+1) (aT X (t+i+1)) X)=(ae 16).enc (stF (upF v8 (aT X (t+i+1)) X) v8 (((upF v8 (aT X (t+i+1)) X) v8) ^^^ (UInt8.ofNat ((t+i+1) / 2^(56 - 8*v8))))):=aB (fun j _=>(congrFun (bn v8 _ X (uH (by omega) (by omega))) j).symm)
 replace hH:HH w0 [] [[bl g1 107 (cCi.enc (ag,bk ag 256,(upF (16*(l.length / 4+7)) (aeW l) fun _=>0),(l.length / 4+6)))],[bl g8 5 cu2],[bl g15 51 ((ae 16).enc (upF (v8+1) (aT X (t+i+1)) X))]] w:=by rw [he21]; exact hH
 exact zR1 (v8+1) ⟨hH,(by omega)⟩ (by omega)
 refine aK (am (am (aS (ah ?_))))
 obtain rfl:v8=8:=by omega
 have he22:(ae 16).enc (aT X (t+i+1))=(ae 16).enc (upF 8 (aT X (t+i+1)) X):=aB (fun j _=>wP _ _ j)
 replace hH:HH w0 [] [[bl g1 107 (cCi.enc (ag,bk ag 256,(upF (16*(l.length / 4+7)) (aeW l) fun _=>0),(l.length / 4+6)))],[bl g8 5 cu2],[bl g15 51 ((ae 16).enc (aT X (t+i+1)))]] w:=by rw [he22]; exact hH
 refine zx ?_
 replace hH:=hH.drew
 refine rv 0 .mv 3 ?_
 refine rv 1 (v:=(.slice (some ⟨g8,0,none⟩) 8 c4)) (fun _ _ hF=>iP (h:=8) (e:=5) (sz:=1) rfl (by kernel_rfl) (by kernel_rfl) (hF.ev 0 rfl) rfl rfl (by omega)) 1 ?_
 refine rv 2 (v:=(.slice (some ⟨g15,0,none⟩) 8 16)) (fun _ _ hF=>ex (m:=16) (h:=8) (e:=5) (sz:=1) rfl (by kernel_rfl) (by kernel_rfl) (hF.ev 2 rfl) rfl rfl (by omega)) 0 ?_
 obtain ⟨cur24,hcs25,hB23⟩:∃ cs,bJ cu2 (0) (bi af ((lst 16 (aT X (t+i+1))).take 8))=cs∧Bk af c4 cs (o2.take 0++(((lst 16 (aT X (t+i+1))).take 8)++o2.drop (0+((lst 16 (aT X (t+i+1))).take 8).length))):=⟨_,rfl,hB2.copy 0 ((lst 16 (aT X (t+i+1))).take 8) (by rw [List.length_take,ao]; show 0+8≤_; omega)⟩
 refine rx1k 3 ?_
 refine re 3 1 hH rfl (fun _ hF=>eL (C:=af) (m:=((lst 16 (aT X (t+i+1))).take 8)) (e:=5) rfl (by kernel_rfl) (by kernel_rfl) (ltb rfl) (hF.ev 1 rfl) (hF.ev 0 rfl) (by omega) (by rw [List.length_take,ao]; rfl) (gZ hB2 (k:=0) (n:=8) (by omega)) hcs25) ((bp (hH.blk 2 rfl)).head (m:=8) (by omega)) 3 (.nil _ []) ?_
 clear hH
 rintro _ _ w ⟨rfl,rfl⟩ hH
 refine ⟨an,rn ?_⟩
 obtain ⟨o3,ho3⟩:∃ o3,o3=(o2.take 0++(((lst 16 (aT X (t+i+1))).take 8)++o2.drop (0+((lst 16 (aT X (t+i+1))).take 8).length))):=⟨_,rfl⟩
 rw [← ho3] at hB23
 obtain ⟨hq1,hq2,hq3⟩:=uJ (by omega) ho3
 refine bv mixedOrders (by kernel_rfl) ?_
 replace hH:=hH.drew
 refine rv 0 .mv 1 ?_
 refine rv 1 .mv 0 ?_
 refine rv 2 (.mul ((8*(i+1):Nat):Int)) 1 ?_
 refine rv 3 (v:=(.slice (some ⟨g8,0+(8*(i+1))*1,none⟩) ((8+d.length) - (8*(i+1))) (c4 - (8*(i+1))))) (fun _ _ hF=>fV (k:=8*(i+1)) (e:=5) (sz:=1) rfl (by kernel_rfl) (by kernel_rfl) (hF.ev 1 rfl) (hF.ev 0 rfl) rfl (by omega) (by omega)) 3 ?_
 refine rv 4 (v:=(.slice (some ⟨g15,0+8*1,none⟩) (16 - 8) (16 - 8))) (fun _ _ hF=>dC (m:=16) (l:=8) (e:=5) (sz:=1) rfl (by kernel_rfl) (by kernel_rfl) (hF.ev 2 rfl) rfl rfl (by omega)) 4 ?_
 obtain ⟨cur27,hcs28,hB26⟩:∃ cs,bJ cur24 (0+(8*(i+1))*1) (bi af ((lst 16 (aT X (t+i+1))).drop 8))=cs∧Bk af c4 cs (o3.take (8*(i+1))++(((lst 16 (aT X (t+i+1))).drop 8)++o3.drop (8*(i+1)+((lst 16 (aT X (t+i+1))).drop 8).length))):=⟨_,rfl,hB23.copy (8*(i+1)) ((lst 16 (aT X (t+i+1))).drop 8) (by rw [List.length_drop,ao]; omega)⟩
 refine rx1k 5 ?_
 refine re 5 1 hH rfl (fun _ hF=>eL (C:=af) (m:=((lst 16 (aT X (t+i+1))).drop 8)) (e:=5) rfl (by kernel_rfl) (by kernel_rfl) (ltb rfl) (hF.ev 1 rfl) (hF.ev 0 rfl) (by omega) (by rw [List.length_drop,ao]) (gZ hB23 (k:=8*(i+1)) (n:=16 - 8) (by omega)) hcs28) (bK (sz:=1) (b:=g15) (off:=0) (c:=16) (k:=8) (by omega) ▸ ((bp (hH.blk 2 rfl)).from (k:=8) (by omega))) 3 (.nil _ []) ?_
 clear hH
 rintro _ _ w ⟨rfl,rfl⟩ hH
 refine ⟨an,cg (by kernel_rfl) ?_⟩
 refine aP (ah (aA (zv .mv 5 ?_)))
 refine zv (.add (((i+1+1):Nat):Int)) 1 ?_
 refine zv .mv 1 ?_
 refine aD ?_
 replace hH:HH w0 [] [[bl g1 107 (cCi.enc (ag,bk ag 256,(upF (16*(l.length / 4+7)) (aeW l) fun _=>0),(l.length / 4+6)))],[bl g8 5 cur27]] w:=hH.only [true,true,false]
 have hsu:=ky (e:=aeE l) (m:=d.length) (A:=dq) (P:=ai d 0) (t:=t+i)
 rw [hat,← hX] at hsu
 exact zR3 (i+1) (o3.take (8*(i+1))++(((lst 16 (aT X (t+i+1))).drop 8)++o3.drop (8*(i+1)+((lst 16 (aT X (t+i+1))).drop 8).length))) cur27 ⟨hH,(by omega),(by rw [mN (by omega)]; omega),(fun j hj=>by rw [sC (by omega) hj (by omega),hq2 j hj,← Nat.add_assoc,hsu]),(fun j hj=>by rw [← Nat.add_assoc,hsu,he8]; exact pn (by omega) (by omega) (fun j hj=>(hq3 j).trans (hoP2 j hj)) (fun j hj=>if_neg (by omega)) j hj),hB26⟩ (by omega)
 refine aK (am (am (aS (aP (ah ?_)))))
 obtain rfl:i=(d.length / 8):=by omega
 refine aA (zv (.add ((j+1:Nat):Int)) 7 ?_)
 refine zv .mv 1 ?_
 refine aD ?_
 exact zR4 (j+1) (t+(d.length / 8)) o2 cu2 ⟨hH,(by omega),(by rw [ht]; exact (Nat.mul_succ _ _).symm),hol2,hoA2,hoP2,hB2⟩ (by omega)
 refine aK (am (am (aS (ah ?_))))
 obtain rfl:j=6:=by omega
 refine zr (zv .mv 63 ?_)
 refine zv .mv 1 ?_
 refine zv .mv 0 ?_
 refine zn (au (fm 1 0 rfl rfl rfl ?_))
 have hfin:=hB
 rw [wS hol hoA hoP,ht,Nat.mul_comm] at hfin
 exact ⟨_,_,rfl,⟨_,rfl,hfin.own 5 g8 (by rw [List.length_append,ao,ao])⟩,hH.out1 [false,true] rfl⟩
section
variable {o d:List UInt8} {A P:Nat→UInt8} {m k:Nat}
end
theorem sD (s u:Bt):Pure Tryz.prog 20 #[(ae 32).val s,(ae 32).val u] (fun _=>True) (.tuple #[(ae 32).val (bc s u),.int .i64 ((shE (bc s u):Nat):Int)]):=by
 have:=sd s u
 rwa [← eG] at this
theorem mQ (s:Bt):Pure Tryz.prog 21 #[(ae 32).val s] (fun _=>True) ((ae 32).val (aI s)):=by
 have:=zd s
 rwa [← qF] at this
theorem uK (A:Option Addr) (n z:Nat) (l:List UInt8) (hn:l.length=n) (hk:l.length=16 ∨ l.length=32) (B:Option Addr) (m y:Nat) (d:List UInt8) (hm:d.length=m) (hd:16≤d.length∧d.length≤128) (h8:d.length%8=0):Does Tryz.prog 22 #[.slice A n z,.slice B m y] [] (fun w=>Vu af w A n z l∧Vu af w B m y d) (fun v E' => ∃ s,v=.tuple #[s,.int .i64 0]∧OwnT af 5 s (bW l d) E'):=by
 subst hn hm; exact wT A z l hk B y d hd h8
section
variable {l:List UInt8}
end
theorem wU (S:Bt) (ct:Ct) (d:Bt):Does Tryz.prog 9 #[((ae 32).val S),(cCe.val ct),((ae 32).val d)] [] (fun _=>True) (fun v E' => ∃ s,v=.tuple #[s,.int .i64 ((skE d ct:Nat):Int)]∧OwnT af 5 s (skL S ct d) E'):=by
 refine dU Tryz.func9 Tryz.ntmps9 ?_
 intro w0 hH hR
 replace hH:HH w0 [] [] w0:=hH.only [false]
 refine zr (zm hH (.bx (ae 32) S) trivial 1 ?_)
 clear hH
 rintro _ _ w ⟨g1,rfl,rfl⟩ hH
 refine zm hH (.bx cCe ct) trivial 2 ?_
 clear hH
 rintro _ _ w ⟨g2,rfl,rfl⟩ hH
 refine zm hH (.bx (ae 32) d) trivial 4 ?_
 clear hH
 rintro _ _ w ⟨g3,rfl,rfl⟩ hH
 refine zv .mv 0 ?_
 refine zv .mv 1 ?_
 refine zn (zr (zs (hH.q 2 rfl) (.ld (ae 32) d (fun _=>ac)) 1 ?_))
 refine zv (.fld 33) 0 ?_
 refine zs (hH.q 1 rfl) (.ld (ae 32) ct.2.2.1 (fun _ hS=>(((ac hS).snd).snd).fst)) 1 ?_
 refine zc Tryz.func20 (sD d ct.2.2.1) trivial hH 3 ?_
 clear hH
 intro w hH
 refine zv .mv 1 ?_
 refine zv .ext 0 ?_
 refine zv .ext 2 ?_
 refine zm hH (.al (ae 32) (fun _=>0)) trivial 0 ?_
 clear hH
 rintro _ _ w ⟨g4,rfl,rfl⟩ hH
 refine ze0 3 hH rfl (.sw (ae 32) (fun _=>0) (bc d ct.2.2.1)) trivial ?_
 clear hH
 rintro _ _ w rfl hH
 refine zv .mv 6 ?_
 refine zn (ak (zr (zv .mv 0 ?_)))
 refine zv (.ne (shE (bc d ct.2.2.1)≠0)) 1 ?_
 refine zn ?_
 refine zP (fun hc5 => ?_) (fun hc5 => ?_)
 refine zr (zv .mv 63 ?_)
 refine zv .mv 0 ?_
 refine zv .mv 2 ?_
 refine zn (au (bO ?_))
 refine fm 1 0 rfl rfl rfl ?_
 have hl:skL S ct d=[]:=if_neg hc5
 exact ⟨_,_,rfl,⟨_,rfl,hl ▸ OwnT.nil _ _⟩,HH.out (HH.pad hH 1) [false,false,false,false,true]⟩
 refine av (ah (zr (zs (hH.q 2 rfl) (.ld (ae 32) d (fun _=>ac)) 11 ?_)))
 refine zc Tryz.func21 (mQ d) trivial hH 1 ?_
 clear hH
 intro w hH
 refine zm hH (.al (ae 32) (fun _=>0)) trivial 0 ?_
 clear hH
 rintro _ _ w ⟨g6,rfl,rfl⟩ hH
 refine ze0 4 hH rfl (.sw (ae 32) (fun _=>0) (aI d)) trivial ?_
 clear hH
 rintro _ _ w rfl hH
 refine zn (zx ?_)
 replace hH:=hH.drew
 refine rld 0 (hH.q 4 rfl) (.ld (ae 32) (aI d) (fun _=>ac)) 2 ?_
 refine rv 1 (.fld 33) 0 ?_
 refine rld 2 (hH.q 1 rfl) (.ld (ae 32) ct.2.2.1 (fun _ hS=>(((ac hS).snd).snd).fst)) 1 ?_
 refine rld 3 (hH.q 3 rfl) (.ld (ae 32) (bc d ct.2.2.1) (fun _=>ac)) 8 ?_
 refine rv 5 (v:=(.slice (some ⟨g1,0,none⟩) 32 32)) (fun _ _ hF=>aY (n:=32) (e:=5) (sz:=1) rfl (by kernel_rfl) (by kernel_rfl) (hF.ev 5 rfl)) 32 ?_
 refine rx1k 4 ?_
 refine rm 4 hH (.call Tryz.func23 ((yD (aI d) ct.2.2.1 (bc d ct.2.2.1)))) trivial 14 (pgo [] (pgo [] (pgo [] (.nil _ [])))) ?_
 clear hH
 rintro v11 E7 w hO8 hH
 obtain ⟨A9,c10,rfl⟩:=hO8.slice
 refine ⟨an,rx1k 6 ?_⟩
 refine rm 6 hH (.call Tryz.func22 ((uK A9 ((df (aI d) ct.2.2.1 (bc d ct.2.2.1)).length) c10 (df (aI d) ct.2.2.1 (bc d ct.2.2.1)) rfl (.inl (fZ _ _ _)) (some ⟨g1,0,none⟩) 32 32 (lst 32 S) (ao _ _) (by rw [ao]; decide) (by rw [ao])))) (⟨(hO8.vuAt (hH.has 5 rfl)),(bp (hH.blk 0 rfl))⟩) 3 (.nil _ []) ?_
 clear hH
 rintro _ E13 w ⟨s17,rfl,hO14⟩ hH
 obtain ⟨A15,c16,rfl⟩:=hO14.slice
 refine ⟨an,rv 7 .mv 1 ?_⟩
 refine rv 8 .ext 0 ?_
 refine rv 9 .ext 2 ?_
 refine rv 10 .mv 2 ?_
 refine rv 11 .mv 2 ?_
 refine rn ?_
 refine zx ?_
 replace hH:=hH.drew
 have hi20:1<2:=by omega
 refine cP 3 [mkv 0 35 [] [] (fun G g=>(.slice (some ⟨g,0,none⟩) 3 3)) fun G g=>[bl g 5 (bi af [6,33,6]).toArray],pv 1 36 [] [] fun G=>(.pointer (some ⟨g2,65,none⟩)),pv 2 37 [1] [] fun G=>(.pointer (some ⟨g2,65+1*32,none⟩)),pv 3 38 [2] [] fun G=>(.slice (some ⟨g2,65+1*32,none⟩) 32 32),mkv 4 39 [] [] (fun G g=>(.slice (some ⟨g,0,none⟩) 1 1)) fun G g=>[bl g 5 (af.enc 25)],pv 5 40 [] [] fun G=>(.slice (some ⟨g6,0,none⟩) 32 32),mkv 6 41 [] [] (fun G g=>(.slice (some ⟨g,0,none⟩) 1 1)) fun G g=>[bl g 5 (af.enc 40)],pv 7 42 [] [] fun G=>(.slice A15 ((bW (df (aI d) ct.2.2.1 (bc d ct.2.2.1)) (lst 32 S)).length) c16),mkv 8 43 [0,3,4,5,6,7] [0,4,6] (fun G g=>(.slice (some ⟨g,0,none⟩) 6 6)) fun G g=>[bl g 27 (bi cSl [((some ⟨(G 0).g,0,none⟩),3,3),((some ⟨g2,65+1*32,none⟩),32,32),((some ⟨(G 4).g,0,none⟩),1,1),((some ⟨g6,0,none⟩),32,32),((some ⟨(G 6).g,0,none⟩),1,1),(A15,(bW (df (aI d) ct.2.2.1 (bc d ct.2.2.1)) (lst 32 S)).length,c16)]).toArray]] (fun G=>[(43,(.slice (some ⟨(G 8).g,0,none⟩) 6 6))]) (fun G=>[[bl g1 22 ((ae 32).enc S)],[bl g2 36 (cCe.enc ct)],[bl g3 22 ((ae 32).enc d)],[bl g4 22 ((ae 32).enc (bc d ct.2.2.1))],[bl g6 22 ((ae 32).enc (aI d))],E7,E13,[bl (G 0).g 5 (bi af [6,33,6]).toArray],[bl (G 4).g 5 (af.enc 25)],[bl (G 6).g 5 (af.enc 40)],[bl (G 8).g 27 (bi cSl [((some ⟨(G 0).g,0,none⟩),3,3),((some ⟨g2,65+1*32,none⟩),32,32),((some ⟨(G 4).g,0,none⟩),1,1),((some ⟨g6,0,none⟩),32,32),((some ⟨(G 6).g,0,none⟩),1,1),(A15,(bW (df (aI d) ct.2.2.1 (bc d ct.2.2.1)) (lst 32 S)).length,c16)]).toArray]]) hH (.c (.a (fun _ _ _ _=>trivial) (fun G=>(fun _ hF=>cX (C:=af) (e:=5) (z:=(.int .u8 0)) (by_:=1) [6,33,6] rfl (by kernel_rfl) (by kernel_rfl) (EvP.cons (v:=af.val 6) rfl (EvP.cons (v:=af.val 33) rfl (EvP.cons (v:=af.val 6) rfl EvP.nil))) rfl (ltb rfl) (leb rfl) rfl)) fun _ _ _ h=>h) <| .c (.v fun G=>(.fld 65)) <| .c (.v fun G=>(.ia 32 2 1 (hi:=hi20))) <| .c (.v fun G=>(fun _ _ hF=>aY (n:=32) (e:=5) (sz:=1) rfl (by kernel_rfl) (by kernel_rfl) (hF.ev 0 rfl))) <| .c (.a (fun _ _ _ _=>trivial) (fun G=>(fun _ hF=>cz (e:=5) (sz:=1) (z:=(.int .u8 0)) (by_:=1) (cs:=af.enc 25) rfl (by kernel_rfl) (by kernel_rfl) rfl (af.len 25) (ltb rfl) (leb rfl) rfl)) fun _ _ _ h=>h) <| .c (.v fun G=>(fun _ _ hF=>aY (n:=32) (e:=5) (sz:=1) rfl (by kernel_rfl) (by kernel_rfl) (hF.ev 2 rfl))) <| .c (.a (fun _ _ _ _=>trivial) (fun G=>(fun _ hF=>cz (e:=5) (sz:=1) (z:=(.int .u8 0)) (by_:=1) (cs:=af.enc 40) rfl (by kernel_rfl) (by kernel_rfl) rfl (af.len 40) (ltb rfl) (leb rfl) rfl)) fun _ _ _ h=>h) <| .c (.v fun G=>.mv) <| .c (.a (fun _ _ _ _=>trivial) (fun G=>(fun _ hF=>cX (C:=cSl) (e:=27) (z:=(.slice none 0 0)) (by_:=24) [((some ⟨(G 0).g,0,none⟩),3,3),((some ⟨g2,65+1*32,none⟩),32,32),((some ⟨(G 4).g,0,none⟩),1,1),((some ⟨g6,0,none⟩),32,32),((some ⟨(G 6).g,0,none⟩),1,1),(A15,(bW (df (aI d) ct.2.2.1 (bc d ct.2.2.1)) (lst 32 S)).length,c16)] rfl (by kernel_rfl) (by kernel_rfl) (EvP.cons (v:=cSl.val ((some ⟨(G 0).g,0,none⟩),3,3)) (hF.ev 0 rfl) (EvP.cons (v:=cSl.val ((some ⟨g2,65+1*32,none⟩),32,32)) (hF.ev 1 rfl) (EvP.cons (v:=cSl.val ((some ⟨(G 4).g,0,none⟩),1,1)) (hF.ev 2 rfl) (EvP.cons (v:=cSl.val ((some ⟨g6,0,none⟩),32,32)) (hF.ev 3 rfl) (EvP.cons (v:=cSl.val ((some ⟨(G 6).g,0,none⟩),1,1)) (hF.ev 4 rfl) (EvP.cons (v:=cSl.val (A15,(bW (df (aI d) ct.2.2.1 (bc d ct.2.2.1)) (lst 32 S)).length,c16)) (hF.ev 5 rfl) EvP.nil)))))) rfl (ltb rfl) (leb rfl) rfl)) fun _ _ _ h=>h) <| .nil) ?_
 clear hH
 rintro G w - hH
 revert hH
 generalize (G 0).g=g19
 generalize (G 4).g=g21
 generalize (G 6).g=g22
 generalize (G 8).g=g23
 intro hH
 refine rx1k 9 ?_
 refine rm 9 hH (.call Tryz.func24 ((jG (some ⟨g23,0,none⟩) 6 6 [((some ⟨g19,0,none⟩),3,3),((some ⟨g2,65+1*32,none⟩),32,32),((some ⟨g21,0,none⟩),1,1),((some ⟨g6,0,none⟩),32,32),((some ⟨g22,0,none⟩),1,1),(A15,(bW (df (aI d) ct.2.2.1 (bc d ct.2.2.1)) (lst 32 S)).length,c16)] [[6,33,6],(lst 32 (fun q9=>ct.2.2.2 (32*1+q9))),[25],(lst 32 (aI d)),[40],(bW (df (aI d) ct.2.2.1 (bc d ct.2.2.1)) (lst 32 S))] rfl (by decide) (by simp only [List.flatten_cons,List.flatten_nil,List.length_append,List.length_cons,List.length_nil,ao,i8]; omega)))) (⟨((Bk.lits (C:=cSl) [((some ⟨g19,0,none⟩),3,3),((some ⟨g2,65+1*32,none⟩),32,32),((some ⟨g21,0,none⟩),1,1),((some ⟨g6,0,none⟩),32,32),((some ⟨g22,0,none⟩),1,1),(A15,(bW (df (aI d) ct.2.2.1 (bc d ct.2.2.1)) (lst 32 S)).length,c16)] (by show 6≤_; unfold maxLen; decide)).vu (n:=6) (hH.blk 10 rfl) rfl),(.cons ((Bk.lits (C:=af) [6,33,6] (by show 3≤_; unfold maxLen; decide)).vu (n:=3) (hH.blk 7 rfl) rfl) (.cons (dJ (Holds.row ((((ac (hH.blk 1 rfl)).snd).snd).snd) 1 32 (by omega))) (.cons ((Bk.lit1 (C:=af) 25).vu (n:=1) (hH.blk 8 rfl) rfl) (.cons (bp (hH.blk 4 rfl)) (.cons ((Bk.lit1 (C:=af) 40).vu (n:=1) (hH.blk 9 rfl) rfl) (.cons (hO14.vuAt (hH.has 6 rfl)) ViewsL.nil))))))⟩) 1 (.nil _ []) ?_
 clear hH
 rintro v28 E24 w hO25 hH
 obtain ⟨A26,c27,rfl⟩:=hO25.slice
 refine ⟨an,rv 10 .mv 1 ?_⟩
 refine rv 11 .mv 0 ?_
 refine rn ?_
 refine au (fm 1 0 rfl rfl rfl ?_)
 have he:=Decidable.not_not.1 hc5
 have hl:skL S ct d=dg (pr1 ct) (aI d) (skW S d ct):=if_pos he
 exact ⟨_,_,rfl,⟨(.slice A26 (([[6,33,6],(lst 32 (fun q9=>ct.2.2.2 (32*1+q9))),[25],(lst 32 (aI d)),[40],(bW (df (aI d) ct.2.2.1 (bc d ct.2.2.1)) (lst 32 S))].flatten).length) c27),by rw [show skE d ct=0 from he]; rfl,hl.trans (n9 _ _ _).symm ▸ hO25⟩,hH.out1 [false,false,false,false,false,false,false,false,false,false,false,true] rfl⟩
theorem i9 {Q:UInt8→Prop} (h:∀ n:Fin 256,Q (UInt8.ofNat n.val)) (x:UInt8):Q x:=by
 have:=h ⟨x.toNat,x.toNat_lt⟩
 rwa [UInt8.ofNat_toNat] at this
theorem zI (b:Nat→UInt8) (j:Nat) (hj:j<256):(b (j / 8)).toNat / 2^(j%8)%2=lv b 32 / 2^j%2:=by
 have h:=nC b 32 (j / 8) (by omega)
 rw [← h,dR]
 have e:(2:Nat)^j=256^(j / 8)*2^(j%8):=by
  rw [show (256:Nat)=2^8 from rfl,← Nat.pow_mul,← Nat.pow_add]
  congr 1; omega
 rw [e,← Nat.div_div_eq_div_mul]
 generalize lv b 32 / 256^(j / 8)=v
 have hr:j%8<8:=Nat.mod_lt _ (by decide)
 generalize j%8=r at *
 have e2:(256:Nat)=2^r*(2*2^(7 - r)):=by
  rw [show (256:Nat)=2^8 from rfl,← Nat.pow_succ',← Nat.pow_add]
  congr 1; omega
 rw [e2,Nat.mod_mul_right_div_self,Nat.mod_mul_right_mod]
theorem wV (b:Nat→UInt8) (j:Nat) (hj:j<256):(bitB b j).toNat=lv b 32 / 2^j%2:=by
 rw [← zI b j hj]
 unfold bitB
 rw [UInt8.toNat_and,show (1:UInt8).toNat=1 from rfl,Nat.and_one_is_mod,pZ]
theorem Bx:toF 121665=aF:=by decide +kernel
theorem xT (a:Nat×Nat):tP (dD a.1 a.2)=ladD aF (tP a).1 (tP a).2:=by
 unfold tP dD ladD
 simp only [eY,mz,mA,Bx]
theorem xU (x:Nat) (a b:Nat×Nat):tP (dA x a.1 a.2 b.1 b.2)=ladA (toF x) (tP a).1 (tP a).2 (tP b).1 (tP b).2:=by
 unfold tP dA ladA
 simp only [eY,mz,mA]
theorem q7 (n:Nat→UInt8) (x:Nat):∀ i,i≤255→(tP (dLad n x i).1,tP (dLad n x i).2)=ladTo aF (toF x) 255 (lv n 32) i
 | 0,_=>by
  show (tP (1,0),tP (x,1))=((1,0),(toF x,1))
  unfold tP
  rw [o8,qA]
 | i+1,hi=>by
  have ih:=q7 n x i (by omega)
  have hb:=wV n (254 - i) (by omega)
  show (tP (fJ x (bitB n (254 - i)) (dLad n x i)).1,tP (fJ x (bitB n (254 - i)) (dLad n x i)).2)=dh aF (toF x) (lv n 32 / 2^(255 - (i+1))%2 == 1) (ladTo aF (toF x) 255 (lv n 32) i)
  rw [← ih,show 255 - (i+1)=254 - i by omega,← hb]
  generalize bitB n (254 - i)=t
  generalize dLad n x i=S
  unfold fJ dh
  by_cases h:t.toNat=1
  ·rw [if_pos h,if_pos (by simpa using h)]
   exact Prod.ext (xU x S.2 S.1) (xT S.2)
  ·rw [if_neg h,if_neg (by simpa using h)]
   exact Prod.ext (xT S.1) (xU x S.1 S.2)
def kX (s:Nat→UInt8):Nat:=lv (dNm s) 32
def mX (u:Nat→UInt8):Fin pF:=nF (dPt u)
theorem ja (s u:Nat→UInt8):eH s u=bF (xmul (kX s) (mX u)):=by
 have h:=q7 (dNm s) (lv (dPt u) 32) 255 (Nat.le_refl _)
 unfold eH xmul eE kX mX nF
 generalize dLad (dNm s) (lv (dPt u) 32) 255=D at h ⊢
 generalize ladTo aF (toF (lv (dPt u) 32)) 255 (lv (dNm s) 32) 255=E at h ⊢
 subst h
 rw [← ko,eY,qx]
 rfl
theorem oc (b:Nat→UInt8):∀ m,lv b (m+1)%8=(b 0).toNat%8
 | 0=>by show (lv b 0+(b 0).toNat*256^0)%8=_; simp [lv]
 | m+1=>by
  show (lv b (m+1)+(b (m+1)).toNat*256^(m+1))%8=_
  have h:(b (m+1)).toNat*256^(m+1)=8*((b (m+1)).toNat*256^m*32):=by rw [Nat.pow_succ]; generalize 256^m=x; generalize (b (m+1)).toNat=y; rw [← Nat.mul_assoc,Nat.mul_comm 8,Nat.mul_assoc _ 32 8]
  rw [h,Nat.add_mul_mod_self_left,oc b m]
theorem Bz (s:Nat→UInt8):(dNm s 0).toNat%8=0:=by
 show (s 0 &&& 248).toNat%8=0
 exact i9 (Q:=fun x=>(x &&& 248).toNat%8=0) (by decide +kernel) (s 0)
theorem zJ (s:Nat→UInt8):64≤(dNm s 31).toNat∧(dNm s 31).toNat<128:=by
 show 64≤((s 31 &&& 127) ||| 64).toNat∧((s 31 &&& 127) ||| 64).toNat<128
 exact i9 (Q:=fun x=>64≤((x &&& 127) ||| 64).toNat∧((x &&& 127) ||| 64).toNat<128) (by decide +kernel) (s 31)
theorem kJ (s:Nat→UInt8):∃ k,kX s=8*k∧0<k∧8*k<2^255:=by
 have h8:kX s%8=0:=by unfold kX; rw [oc]; exact Bz s
 have e:kX s=lv (dNm s) 31+(dNm s 31).toNat*256^31:=rfl
 have hl:=gy (dNm s) 31
 have ht:=zJ s
 have hp:(256:Nat)^31=2^248:=by decide
 rw [hp] at e hl
 have h2:(2:Nat)^255=128*2^248:=by decide
 have hpos:0<(2:Nat)^248:=Nat.pow_pos (by decide)
 refine ⟨kX s / 8,by omega,?_,?_⟩
 ·have h3:64*2^248≤(dNm s 31).toNat*2^248:=Nat.mul_le_mul_right _ ht.1
  have h4:(8:Nat)≤64*2^248:=by decide
  omega
 ·have h3:((dNm s 31).toNat+1)*2^248≤128*2^248:=Nat.mul_le_mul_right _ (by omega)
  rw [Nat.add_mul,Nat.one_mul] at h3
  omega
theorem xV (s:Nat→UInt8):kX s<2^255:=by
 obtain ⟨k,h1,_,h2⟩:=kJ s
 omega
theorem sE (s t:Nat→UInt8):xmul (kX s) (xmul (kX t) fG)≠0:=by
 obtain ⟨k,h1,h2,h3⟩:=kJ s
 obtain ⟨l,h4,h5,h6⟩:=kJ t
 rw [h1,h4]
 exact oR _ _ (by omega) (by omega) (kP k l h3 h6 h2 h5)
theorem uL (x:Fin pF):mX (bF x)=x:=by
 unfold mX
 have h:∀ i,i<32→dPt (bF x) i=bF x i:=fun i hi=>by
  unfold dPt stF
  split
  ·rename_i e; subst e
   have hx:=x.isLt
   have hb:(bF x 31).toNat<128:=by
    show (be x.val 31).toNat<128
    rw [dR]
    have:x.val / 256^31<128:=by
     refine (Nat.div_lt_iff_lt_mul (Nat.pow_pos (by decide))).2 (Nat.lt_trans hx (by decide))
    omega
   exact i9 (Q:=fun x=>x.toNat<128→x &&& 127=x) (by decide +kernel) (bF x 31) hb
  ·rfl
 rw [eF h,lM]
theorem wW:mX fj=fG:=by decide +kernel
theorem pp (s:Nat→UInt8):aI s=bF (xmul (kX s) fG):=by rw [qF,ja,wW]
theorem pq (s t:Nat→UInt8):bc s (aI t)=bc t (aI s):=by
 rw [eG,eG,ja,ja,pp,pp,uL,uL,rX _ _ (xV s) (xV t)]
theorem q8 (s t:Nat→UInt8):shE (bc s (aI t))=0:=by
 rw [eG,ja,pp,uL]
 have h:=sE s t
 generalize xmul (kX s) (xmul (kX t) fG)=x at h
 unfold shE
 rw [if_neg fun h0=>h ?_]
 have h1:nF (bF x)=nF (fun _=>0):=eF fun i hi=>by
  have:=congrArg (fun l=>l[i]?) h0
  simp only [bs hi] at this
  exact Option.some.inj this
 rw [lM,qz] at h1
 exact h1
theorem mR (d s:Bt) (ct:Ct) (h:ct.2.2.1=aI s):skE d ct=0:=by unfold skE; rw [h]; exact q8 d s
theorem wX (S:Bt) (ct:Ct) (d:Bt) (h:skE d ct=0):(skL S ct d).length=109:=by
 unfold skL
 rw [if_pos h,lW,mO]
def dr1:Bt:=fun i=>if i=0 then 1 else 0
theorem zK  : Pure Tryz.prog 6 #[] (fun w=>w.heap[4]?=some (.cells ((cQs 80).enc K64) 159 (0,0))∧w.heap[1]?=some (.cells ((cQs 8).enc H64) 141 (0,0))∧w.heap[3]?=some (.cells ((cWs 64).enc K32) 119 (0,0))∧w.heap[2]?=some (.cells ((cWs 8).enc H32) 118 (0,0))∧w.heap[0]?=some (.cells ((ae 256).enc ag) 103 (0,0))) (.bool true):=by
 refine pU Tryz.func6 Tryz.ntmps6 ?_
 intro w0 hH hR
 refine zr (zv .mv 0 ?_)
 refine zn (zr (zv (v:=((ae 32).val (fun _=>0))) (fun _ _ hF=>aG (cells:=(ae 32).enc (fun _=>0)) (vals:=[]) rfl EvP.nil (by kernel_rfl) _) 1 ?_))
 refine zv (v:=(cKy.val (fun _=>0,fun _=>0))) (fun _ _ hF=>aG (cells:=cKy.enc (fun _=>0,fun _=>0)) (vals:=[]) rfl EvP.nil (by kernel_rfl) _) 0 ?_
 refine zc Tryz.func8 (jK (fun _=>0,fun _=>0) 0) (⟨(hH.oldBlk hR.1 (by simp)),(hH.oldBlk hR.2.1 (by simp)),(hH.oldBlk hR.2.2.1 (by simp)),(hH.oldBlk hR.2.2.2.1 (by simp))⟩) hH 1 ?_
 clear hH
 intro w hH
 refine zv (v:=((ae 32).val dr1)) (fun _ _ hF=>aG (cells:=(ae 32).enc dr1) (vals:=[(0,(.int .u8 1))]) rfl (EvP.cons (v:=(.int .u8 1)) rfl EvP.nil) (by kernel_rfl) _) 0 ?_
 refine zm hH (.call Tryz.func7 (uE (fun _=>0) (aN sha 0 (aX (fun _=>0)) (aI (fun _=>0))) dr1)) (⟨(hH.oldBlk hR.2.2.1 (by simp)),(hH.oldBlk hR.2.2.2.1 (by simp)),(hH.oldBlk hR.2.2.2.2 (by simp))⟩) 7 ?_
 clear hH
 rintro _ E1 w ⟨s5,rfl,hO2⟩ hH
 obtain ⟨A3,c4,rfl⟩:=hO2.slice
 refine zv .mv 1 ?_
 refine zv .ext 0 ?_
 refine zv .ext 2 ?_
 refine zv .mv 2 ?_
 refine zv .mv 2 ?_
 refine zn ?_
 have hsk:skE dr1 (aN sha 0 (aX (fun _=>0)) (aI (fun _=>0)))=0:=mR _ _ _ rfl
 have hsl:=wX (fun _=>0) (aN sha 0 (aX (fun _=>0)) (aI (fun _=>0))) dr1 hsk
 refine zr (zv .mv 1 ?_)
 refine zv (v:=(.bool true)) (fun _ _ hF=>dH rfl (hF.ev 0 rfl) rfl (decide_eq_true (by rw [hsk]; rfl))) 1 ?_
 refine zv .mv 1 ?_
 refine pxV (v:=(.slice A3 ((skL (fun _=>0) (aN sha 0 (aX (fun _=>0)) (aI (fun _=>0))) dr1).length) c4)) (fun _ _ hF=>bo rfl (hF.ev 1 rfl)) rfl (gOn 0 rfl rfl rfl (by decide)) (kM [true,false] rfl rfl) (by decide) ?_
 refine pxV (v:=(.int .i64 ((((skL (fun _=>0) (aN sha 0 (aX (fun _=>0)) (aI (fun _=>0))) dr1).length):Nat):Int))) (fun _ _ hF=>gr (e:=5) rfl (by kernel_rfl) (hF.ev 0 rfl)) rfl (gOn 1 rfl rfl rfl (by decide)) (kM [false,true] rfl rfl) (by decide) ?_
 refine pxV (v:=(.bool true)) (fun _ _ hF=>dH rfl (hF.ev 0 rfl) rfl (decide_eq_true (by rw [hsl]; rfl))) rfl (gOn 1 rfl rfl rfl (by decide)) (kM [false,true] rfl rfl) (by decide) ?_
 refine zv (v:=(.bool true)) (fun _ _ hF=>ce rfl (hF.ev 1 rfl) (hF.ev 0 rfl)) 3 ?_
 refine zv .mv 1 ?_
 refine zn (au (aZ 0 rfl rfl ?_))
 exact ⟨rfl,HH.toBelow hH⟩
theorem uM {u v:Bt} (h:∀ i,i<32→u i=v i):mX u=mX v:=by
 unfold mX
 refine eF fun i hi => ?_
 unfold dPt stF
 split
 ·rw [h 31 (by decide)]
 ·exact h i hi
theorem od {s u v:Bt} (h:∀ i,i<32→u i=v i):bc s u=bc s v:=by
 rw [eG,eG,ja,ja,uM h]
theorem pr {a b:Bt} (x y:Bt) (h:lst 32 a=lst 32 b):df a x y=df b x y:=by unfold df; rw [h]
theorem jv {p q u v:Bt} (w:List UInt8) (hp:lst 32 p=lst 32 q) (hu:lst 32 u=lst 32 v):dg p u w=dg q v w:=by unfold dg; rw [hp,hu]
theorem zL {p u:Bt} {w:List UInt8} {j:Nat} (hj:j<32):ai (dg p u w) 3 j=p j:=by
 unfold ai dg
 rw [List.getD_eq_getElem?_getD,List.getElem?_append_right (by simp),List.getElem?_append_left (by rw [ao]; simp; omega),show 3+j - ([6,33,6]:List UInt8).length=j by simp,bs hj]
 rfl
theorem zM {p u:Bt} {w:List UInt8} {j:Nat} (hj:j<32):ai (dg p u w) 36 j=u j:=by
 unfold ai dg
 rw [List.getD_eq_getElem?_getD,List.getElem?_append_right (by simp; omega),List.getElem?_append_right (by rw [ao]; simp; omega),List.getElem?_append_right (by rw [ao]; simp; omega),List.getElem?_append_left (by rw [ao,ao]; simp; omega),ao,show 36+j - ([6,33,6]:List UInt8).length - 32 - ([25]:List UInt8).length=j by simp; omega,bs hj]
 rfl
theorem zN {p u:Bt} {w:List UInt8}:(dg p u w).drop 69=w:=by
 have h:dg p u w=([6,33,6]++(lst 32 p++([25]++(lst 32 u++[40]))))++w:=by unfold dg; simp only [List.append_assoc]
 rw [h]
 exact List.drop_left' (by simp [ao])
theorem uN {S d k:Bt} {ct:Ct} (hc:ct.2.2.1=aI k):lst 32 (opR (skL S ct d) k ct).1=lst 32 S∧(opR (skL S ct d) k ct).2=0:=by
 have hs:skE d ct=0:=by unfold skE; rw [hc]; exact q8 d k
 have hl:skL S ct d=dg (pr1 ct) (aI d) (skW S d ct):=by unfold skL; exact if_pos hs
 have h3:∀ j,j<32→ai (skL S ct d) 3 j=pr1 ct j:=fun j hj=>by rw [hl]; exact zL hj
 have h36:∀ j,j<32→ai (skL S ct d) 36 j=aI d j:=fun j hj=>by rw [hl]; exact zM hj
 have h69:(skL S ct d).drop 69=skW S d ct:=by rw [hl]; exact zN
 have e3:=eu h3
 have e36:=eu h36
 have hb:isB (skL S ct d):=⟨by rw [hl,lW,mO],by rw [h69,jv _ e3 e36]; exact hl⟩
 have hx:bc k (ai (skL S ct d) 36)=bc d ct.2.2.1:=by rw [od h36,hc,pq]
 have hk:df (ai (skL S ct d) 36) (aI k) (bc k (ai (skL S ct d) 36))=df (aI d) ct.2.2.1 (bc d ct.2.2.1):=by rw [hx,pr _ _ e36,← hc]
 have hw:unE (df (aI d) ct.2.2.1 (bc d ct.2.2.1)) (skW S d ct)=0∧unL (df (aI d) ct.2.2.1 (bc d ct.2.2.1)) (skW S d ct)=lst 32 S:=kE _ _ (by rw [ao]; decide) (by rw [ao])
 unfold opR
 rw [if_pos hb,if_pos e3,if_pos (by rw [hx]; exact hs),hk,h69,if_pos hw.1,hw.2]
 exact ⟨iH (ao _ _),rfl⟩
theorem uO (S:List UInt8→Bt) (t:Nat) (s q b:Bt):lst 32 (pr1 (aN S t s b))=lst 32 (pr1 (aN S t q b)):=by
 refine eu fun j hj => ?_
 show prB S t s b (32*1+j)=prB S t q b (32*1+j)
 unfold prB kQ
 rw [if_pos (by omega),if_pos (by omega)]
theorem uP (K d:Bt) (S:List UInt8→Bt) (t:Nat) (s q b:Bt):skL K (aN S t s b) d=skL K (aN S t q b) d:=by
 unfold skL
 rw [jv _ (uO S t s q b) rfl]
 rfl
theorem kK {P:Program} {e:TypeId} (d n:Nat) (he:P.underlying e=some (.int .u64)) (f g:Nat→Nat):∀ (l:List Nat) (w:World),(∀ i∈l,i<n)→(Op.eqItems (d+1) e 1 (sNt.row n f) (sNt.row n g) l).run P w=.ok (l.all fun i=>f i == g i) w
 | [],w,_=>by simp [Op.eqItems]
 | i :: l,w,h=>by
  have hi:=h i (by simp)
  have h1:(sNt.row n f)[i]?=some (.int .u64 (f i:Int)):=ib sNt f hi
  have h2:(sNt.row n g)[i]?=some (.int .u64 (g i:Int)):=ib sNt g hi
  have ih:=kK d n he f g l w (fun j hj=>h j (by simp [hj]))
  have p1:(part e (sNt.row n f) (i*1)).run P w=.ok (.int .u64 (f i:Int)) w:=by simp [part,isAgg,run_underlying he,h1]
  have p2:(part e (sNt.row n g) (i*1)).run P w=.ok (.int .u64 (g i:Int)) w:=by simp [part,isAgg,run_underlying he,h2]
  have p3:(Op.equalIn (d+1) e (.int .u64 (f i:Int)) (.int .u64 (g i:Int))).run P w=.ok (f i == g i) w:=by
   have e2:((f i:Int) == (g i:Int))=(f i == g i):=by
    rw [Bool.eq_iff_iff]
    simp
    omega
   simp [Op.equalIn,run_underlying he,e2]
  simp only [Op.eqItems,Sem.run_bind,p1,p2,p3,Result.andThen_ok,List.all_cons]
  cases f i == g i
  ·simp
  ·simpa using ih
theorem uQ {P:Program} {a:Act} {o:Oper} {x y:Operand} {t t2 e:TypeId} {n:Nat} {f g:Nat→Nat} {w:World} {p:Prop} [Decidable p] (ho:o.op=.binOp .eql t x y t2) (hu:P.underlying t=some (.array n e)) (he:P.underlying e=some (.int .u64)) (hs:(P.info? e).map (·.size)=some 1) (hx:a.eval x=(cNs n).val f) (hy:a.eval y=(cNs n).val g) (hq:P.eqGuardType P.depth t=false) (hb:(∀ i,i<n→f i=g i) ↔ p):(execOp a.eval o).run P w=.ok (.value (.bool (decide p))) w:=by
 obtain ⟨i,hi,hsz⟩:=Option.map_eq_some_iff.1 hs
 have h:=run_equalIn_array (P:=P) (w:=w) 9999 (sNt.row n f) (sNt.row n g) hu hi
 have hc:P.cellsOf e=1:=by simp [Program.cellsOf,hi,hsz]
 rw [hc,kK 9998 n he f g _ w (fun j hj=>List.mem_range.1 hj)] at h
 have hd:((List.range n).all fun i=>f i == g i)=decide p:=by
  rw [Bool.eq_iff_iff,List.all_eq_true,decide_eq_true_iff,← hb]
  simp
 rw [hd] at h
 have h2:(binOp .eql t (.agg (sNt.row n f)) (.agg (sNt.row n g))).run P w=.ok (.bool (decide p)) w:=by
  have h3:(Op.equal t (.agg (sNt.row n f)) (.agg (sNt.row n g))).run P w=.ok (decide p) w:=h
  simp only [binOp,Sem.run_bind,h3,Result.andThen_ok,Sem.run_pure]
 unfold execOp
 simp only [ho,hx,hy]
 simp [Scal.vec,eqGuard,h2,hq]
theorem ra {a b:Nat} (ha:a<2^256) (hb:b<2^256):(∀ i,i<4→wd a i=wd b i) ↔ a=b:=by
 refine ⟨fun h => ?_,fun h _ _=>by rw [h]⟩
 have e3:a / 2^(64*(3+1))=b / 2^(64*(3+1)):=by rw [Nat.div_eq_of_lt ha,Nat.div_eq_of_lt hb]
 have e2:=nU e3 (h 3 (by decide))
 have e1:=nU (m:=2) e2 (h 2 (by decide))
 have e0:=nU (m:=1) e1 (h 1 (by decide))
 have:=nU (m:=0) e0 (h 0 (by decide))
 simpa using this
def dN:Nat:=37095705934669439343138083508754565189542113879843219016388785533085940283555
def sqN:Nat:=19681161376707505956807079304988542015446066515923890162744021073123829784752
theorem fl:dN<2^256:=by decide
theorem uR:sqN<2^256:=by decide
def rtE:Nat:=7237005577332262213973186563042994240829374041602535252466099000494570602494
def rRt (a:Nat):Nat:=if tm (cv a rtE 256) (cv a rtE 256)%pN=a%pN then cv a rtE 256 else tm (cv a rtE 256) sqN
def rOk (a:Nat):Prop:=tm (rRt a) (rRt a)%pN=a%pN
instance (a:Nat):Decidable (rOk a):=by unfold rOk; infer_instance
theorem zO  : Pure Tryz.prog 126 #[] (fun _=>True) (rN dN):=by
 refine pU Tryz.func126 Tryz.ntmps126 ?_
 intro w0 hH hR
 refine zr (zm hH (.al (cNs 4) (fun _=>0)) trivial 0 ?_)
 clear hH
 rintro _ _ w ⟨g1,rfl,rfl⟩ hH
 refine zn (zr (zv (v:=((cNs 4).val (wd dN))) (fun _ _ hF=>aG (cells:=(cNs 4).enc (wd dN)) (vals:=[(0,(.int .u64 8496970652267935907)),(1,(.int .u64 31536524315187371)),(2,(.int .u64 10144147576115030168)),(3,(.int .u64 5909686906226998899))]) rfl (EvP.cons (v:=(.int .u64 8496970652267935907)) rfl (EvP.cons (v:=(.int .u64 31536524315187371)) rfl (EvP.cons (v:=(.int .u64 10144147576115030168)) rfl (EvP.cons (v:=(.int .u64 5909686906226998899)) rfl EvP.nil)))) (by kernel_rfl) _) 0 ?_))
 refine ze0 0 hH rfl (.sw (cNs 4) (fun _=>0) (wd dN)) trivial ?_
 clear hH
 rintro _ _ w rfl hH
 refine zn (au (aH 1 (hH.blk 0 rfl) rfl rfl (by kernel_rfl) (Cod.size _ _) (by kernel_rfl) ?_))
 exact ⟨rfl,HH.toBelow hH⟩
theorem Cu  : Pure Tryz.prog 155 #[] (fun _=>True) (rN sqN):=by
 refine pU Tryz.func155 Tryz.ntmps155 ?_
 intro w0 hH hR
 refine zr (zm hH (.al (cNs 4) (fun _=>0)) trivial 0 ?_)
 clear hH
 rintro _ _ w ⟨g1,rfl,rfl⟩ hH
 refine zn (zr (zv (v:=((cNs 4).val (wd sqN))) (fun _ _ hF=>aG (cells:=(cNs 4).enc (wd sqN)) (vals:=[(0,(.int .u64 14190309331451158704)),(1,(.int .u64 3405592160176694392)),(2,(.int .u64 3120150775007532967)),(3,(.int .u64 3135389899092516619))]) rfl (EvP.cons (v:=(.int .u64 14190309331451158704)) rfl (EvP.cons (v:=(.int .u64 3405592160176694392)) rfl (EvP.cons (v:=(.int .u64 3120150775007532967)) rfl (EvP.cons (v:=(.int .u64 3135389899092516619)) rfl EvP.nil)))) (by kernel_rfl) _) 0 ?_))
 refine ze0 0 hH rfl (.sw (cNs 4) (fun _=>0) (wd sqN)) trivial ?_
 clear hH
 rintro _ _ w rfl hH
 refine zn (au (aH 1 (hH.blk 0 rfl) rfl rfl (by kernel_rfl) (Cod.size _ _) (by kernel_rfl) ?_))
 exact ⟨rfl,HH.toBelow hH⟩
theorem rg (a b:Nat) (ha:a<2^256) (hb:b<2^256):Pure Tryz.prog 154 #[((cNs 4).val (wd a)),((cNs 4).val (wd b))] (fun _=>True) (.bool (decide (a%pN=b%pN))):=by
 refine pU Tryz.func154 Tryz.ntmps154 ?_
 intro w0 hH hR
 refine zr (zm hH (.bx (cNs 4) (wd a)) trivial 1 ?_)
 clear hH
 rintro _ _ w ⟨g1,rfl,rfl⟩ hH
 refine zm hH (.bx (cNs 4) (wd b)) trivial 2 ?_
 clear hH
 rintro _ _ w ⟨g2,rfl,rfl⟩ hH
 refine zv .mv 0 ?_
 refine zn (zx ?_)
 replace hH:=hH.drew
 refine rld 0 (hH.q 0 rfl) (.ld (cNs 4) (wd a) (fun _=>ac)) 4 ?_
 refine rld 2 (hH.q 1 rfl) (.ld (cNs 4) (wd b) (fun _=>ac)) 4 ?_
 refine rx1k 1 (rpc 1 Tryz.func119 (eh a ha) trivial hH 2 (.keep (pgo [] (.nil _ []))) ?_)
 clear hH
 intro w hH
 refine ⟨pcons (hH.blk 1 rfl) an,?_⟩
 refine rx1k 3 (rpc 3 Tryz.func119 (eh b hb) trivial hH 2 (pgo [] (.nil _ [])) ?_)
 clear hH
 intro w hH
 refine ⟨an,rv 4 (v:=(.bool (decide (a%pN=b%pN)))) (fun _ _ hF=>uQ (n:=4) (e:=72) (f:=(wd (a%pN))) (g:=(wd (b%pN))) rfl (by kernel_rfl) (by kernel_rfl) (by kernel_rfl) (hF.ev 1 rfl) (hF.ev 0 rfl) (by kernel_rfl) (ra (Nat.lt_trans (Nat.mod_lt _ (by decide)) fH) (Nat.lt_trans (Nat.mod_lt _ (by decide)) fH))) 3 ?_⟩
 refine rv 5 .mv 3 ?_
 refine rn ?_
 refine au (aZ 0 rfl rfl ?_)
 exact ⟨rfl,HH.toBelow hH⟩
theorem zQ (b:Nat→UInt8):Pure Tryz.prog 124 #[((ae 32).val b)] (fun _=>True) (.bool (decide (lv b 32<pN))):=by
 refine pU Tryz.func124 Tryz.ntmps124 ?_
 intro w0 hH hR
 refine zr (zm hH (.bx (ae 32) b) trivial 1 ?_)
 clear hH
 rintro _ _ w ⟨g1,rfl,rfl⟩ hH
 refine zv .mv 0 ?_
 refine zn (zr (zs (hH.q 0 rfl) (.ld (ae 32) b (fun _=>ac)) 3 ?_))
 refine zc Tryz.func71 (mw b) trivial hH 1 ?_
 clear hH
 intro w hH
 refine zm hH (.call Tryz.func118 (tV.does)) trivial 0 ?_
 clear hH
 rintro _ _ w ⟨rfl,rfl⟩ hH
 replace hH:HH w0 [] [[bl g1 22 ((ae 32).enc b)]] w:=hH.unpad
 refine zc Tryz.func153 (nV (lv b 32) pN (bG _) fH) trivial hH 3 ?_
 clear hH
 intro w hH
 refine zv .mv 1 ?_
 refine zn (au (aZ 0 rfl rfl ?_))
 exact ⟨rfl,HH.toBelow hH⟩
theorem wY (a:Nat) (ha:a<2^256):Pure Tryz.prog 125 #[((cNs 4).val (wd a))] (fun _=>True) (.tuple #[rN (rRt a%pN),.bool (decide (rOk a))]):=by
 refine pU Tryz.func125 Tryz.ntmps125 ?_
 intro w0 hH hR
 refine zr (zm hH (.bx (cNs 4) (wd a)) trivial 1 ?_)
 clear hH
 rintro _ _ w ⟨g1,rfl,rfl⟩ hH
 refine zm hH (.al (cNs 4) (fun _=>0)) trivial 0 ?_
 clear hH
 rintro _ _ w ⟨g2,rfl,rfl⟩ hH
 refine zv .mv 0 ?_
 refine zn (zr (zs (hH.q 0 rfl) (.ld (cNs 4) (wd a) (fun _=>ac)) 1 ?_))
 refine zv (v:=((cNs 4).val (wd rtE))) (fun _ _ hF=>aG (cells:=(cNs 4).enc (wd rtE)) (vals:=[(0,(.int .u64 18446744073709551614)),(1,(.int .u64 18446744073709551615)),(2,(.int .u64 18446744073709551615)),(3,(.int .u64 1152921504606846975))]) rfl (EvP.cons (v:=(.int .u64 18446744073709551614)) rfl (EvP.cons (v:=(.int .u64 18446744073709551615)) rfl (EvP.cons (v:=(.int .u64 18446744073709551615)) rfl (EvP.cons (v:=(.int .u64 1152921504606846975)) rfl EvP.nil)))) (by kernel_rfl) _) 0 ?_
 refine zc Tryz.func121 (nZ a rtE ha) trivial hH 3 ?_
 clear hH
 intro w hH
 refine zm hH (.al (cNs 4) (fun _=>0)) trivial 0 ?_
 clear hH
 rintro _ _ w ⟨g3,rfl,rfl⟩ hH
 refine ze0 2 hH rfl (.sw (cNs 4) (fun _=>0) (wd (cv a rtE 256))) trivial ?_
 clear hH
 rintro _ _ w rfl hH
 refine zn ?_
 refine kI (σ:=Nat) (fun x=>[(4,(.pointer (some ⟨g3,0,none⟩))),(2,(.pointer (some ⟨g2,0,none⟩))),(1,(.pointer (some ⟨g1,0,none⟩)))]) (fun x w=>HH w0 [] [[bl g1 97 ((cNs 4).enc (wd a))],[bl g2 97 ((cNs 4).enc (fun _=>0))],[bl g3 97 ((cNs 4).enc (wd x))]] w∧(x=rRt a)∧(x<2^256)) ?_ ?_
 obtain ⟨x,hx,lx⟩:∃ x,x=cv a rtE 256∧x<2^256:=⟨_,rfl,fw ha _⟩
 replace hH:HH w0 [] [[bl g1 97 ((cNs 4).enc (wd a))],[bl g2 97 ((cNs 4).enc (fun _=>0))],[bl g3 97 ((cNs 4).enc (wd x))]] w:=by rw [hx]; exact hH
 refine zx ?_
 replace hH:=hH.drew
 refine rld 0 (hH.q 2 rfl) (.ld (cNs 4) (wd x) (fun _=>ac)) 2 ?_
 refine rld 1 (hH.q 2 rfl) (.ld (cNs 4) (wd x) (fun _=>ac)) 0 ?_
 refine rld 3 (hH.q 0 rfl) (.ld (cNs 4) (wd a) (fun _=>ac)) 0 ?_
 refine rx1k 2 (rpc 2 Tryz.func75 (aV x x lx lx) trivial hH 6 (.keep (pgo [] (pgo [] (.nil _ [])))) ?_)
 clear hH
 intro w hH
 refine ⟨pcons (hH.blk 0 rfl) an,?_⟩
 refine rx1k 4 (rpc 4 Tryz.func154 (rg (tm x x) a (ba lx lx) ha) trivial hH 3 (pgo [] (.nil _ [])) ?_)
 clear hH
 intro w hH
 refine ⟨an,rv 5 (v:=(.bool (decide (¬ (tm x x%pN=a%pN))))) (fun _ _ hF=>el rfl (hF.ev 0 rfl) decide_not.symm) 1 ?_⟩
 refine rn ?_
 refine zP (fun hc4 => ?_) (fun hc4 => ?_)
 refine bv mixedOrders (by kernel_rfl) ?_
 replace hH:=hH.drew
 refine rld 0 (hH.q 2 rfl) (.ld (cNs 4) (wd x) (fun _=>ac)) 1 ?_
 refine rx1k 1 (rpc 1 Tryz.func155 (Cu) trivial hH 0 (.keep (.nil _ [])) ?_)
 clear hH
 intro w hH
 refine ⟨pcons (hH.blk 2 rfl) an,?_⟩
 refine rx1k 2 (rpc 2 Tryz.func75 (aV x sqN lx uR) trivial hH 3 (pgo [] (.nil _ [])) ?_)
 clear hH
 intro w hH
 refine ⟨an,rx1k 3 ?_⟩
 refine re0 3 2 hH rfl (.sw (cNs 4) (wd x) (wd (tm x sqN))) trivial (.nil _ []) ?_
 clear hH
 rintro _ _ w rfl hH
 refine ⟨an,cg (by kernel_rfl) ?_⟩
 exact ek (tm x sqN) ⟨hH,(by unfold rRt; rw [if_neg (by rw [← hx]; exact hc4),hx]),(ba lx uR)⟩ (cD [1,2,3] rfl)
 refine av ?_
 exact ek x ⟨hH,(by unfold rRt; rw [if_pos (by rw [← hx]; exact Decidable.not_not.1 hc4),hx]),lx⟩ (cD [1,2,3] rfl)
 clear hH
 rintro y w ⟨hH,hy,ly⟩
 change CX _ _ _ _ [(4,(.pointer (some ⟨g3,0,none⟩))),(2,(.pointer (some ⟨g2,0,none⟩))),(1,(.pointer (some ⟨g1,0,none⟩)))] _
 replace hH:HH w0 [] [[bl g1 97 ((cNs 4).enc (wd a))],[bl g2 97 ((cNs 4).enc (fun _=>0))],[bl g3 97 ((cNs 4).enc (wd y))]] w:=hH
 replace hy:y=rRt a:=hy
 replace ly:y<2^256:=ly
 refine zx ?_
 replace hH:=hH.drew
 refine rld 0 (hH.q 2 rfl) (.ld (cNs 4) (wd y) (fun _=>ac)) 0 ?_
 refine rld 2 (hH.q 2 rfl) (.ld (cNs 4) (wd y) (fun _=>ac)) 0 ?_
 refine rld 3 (hH.q 2 rfl) (.ld (cNs 4) (wd y) (fun _=>ac)) 4 ?_
 refine rld 5 (hH.q 0 rfl) (.ld (cNs 4) (wd a) (fun _=>ac)) 16 ?_
 refine rx1k 1 (rpc 1 Tryz.func119 (eh y ly) trivial hH 8 (.keep (.keep (.keep (pgo [] (.nil _ []))))) ?_)
 clear hH
 intro w hH
 refine ⟨pcons (hH.blk 0 rfl) (pcons (hH.blk 2 rfl) (pcons (hH.blk 2 rfl) an)),?_⟩
 refine rx1k 4 (rpc 4 Tryz.func75 (aV y y ly ly) trivial hH 12 (.keep (pgo [] (pgo [] (.nil _ [])))) ?_)
 clear hH
 intro w hH
 refine ⟨pcons (hH.blk 0 rfl) an,?_⟩
 refine rx1k 6 (rpc 6 Tryz.func154 (rg (tm y y) a (ba ly ly) ha) trivial hH 5 (pgo [] (.nil _ [])) ?_)
 clear hH
 intro w hH
 refine ⟨an,rx1k 7 ?_⟩
 refine re0 7 1 hH rfl (.sw (cNs 4) (fun _=>0) (wd (y%pN))) trivial (.nil _ []) ?_
 clear hH
 rintro _ _ w rfl hH
 refine ⟨an,rv 8 .mv 3 ?_⟩
 refine rn ?_
 refine au (bj 1 0 (hH.blk 1 rfl) rfl rfl rfl (by kernel_rfl) (Cod.size _ _) (by kernel_rfl) ?_)
 subst hy; exact ⟨rfl,HH.toBelow hH⟩
end Go.Proofs.YtajppfmjbkebfaaGreatDoor
