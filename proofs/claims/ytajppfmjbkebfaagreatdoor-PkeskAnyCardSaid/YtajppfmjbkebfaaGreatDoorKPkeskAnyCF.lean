/- What the claim leans on, part 6: plain theorems, and walks of functions of the program and of the document. -/
import Derived.Test.YtajppfmjbkebfaaGreatDoorKPkeskAnyCE
import Derived.Test.YtajppfmjbkebfaaGreatDoorKPkeskAnyCB
import Derived.Test.YtajppfmjbkebfaaGreatDoorKPkeskAnyCC
import Derived.Test.YtajppfmjbkebfaaGreatDoorKPkeskAnyCD
import Derived.Test.YtajppfmjbkebfaaGreatDoorKPkeskAnyCA
set_option maxHeartbeats 8000000
namespace Go.Proofs.YtajppfmjbkebfaaGreatDoor
open Go Go.RowKit
set_option maxRecDepth 100000
section
variable {e d':(Nat→UInt8)→Nat→UInt8} {m t k:Nat} {A P B:Nat→UInt8} {o:List UInt8}
def wrB (e:(Nat→UInt8)→Nat→UInt8) (m:Nat) (A P:Nat→UInt8) (t:Nat):Nat→UInt8:=e (bothF (wrapR e m A P t).1 fun j=>(wrapR e m A P t).2 (t*8%m+j))
theorem wrapR_succ:wrapR e m A P (t+1)=(countF (wrB e m A P t) (t+1),cpy (t*8%m) 8 (wrapR e m A P t).2 fun j=>wrB e m A P t (8+j)):=rfl
def unB (e:(Nat→UInt8)→Nat→UInt8) (m N:Nat) (A P:Nat→UInt8) (k:Nat):Nat→UInt8:=e (bothF (countF (unR e m N A P k).1 (N - k)) fun j=>(unR e m N A P k).2 ((N - k - 1)*8%m+j))
theorem unR_succ {N:Nat}:unR e m N A P (k+1)=(unB e m N A P k,cpy ((N - k - 1)*8%m) 8 (unR e m N A P k).2 fun j=>unB e m N A P k (8+j)):=rfl
theorem both_E16 {A A' P Q:Nat→UInt8} (hA:∀ j,j<8→A j=A' j) (h:∀ j,j<8→P j=Q j):E16 (bothF A P) (bothF A' Q):=fun j hj=>by
 unfold bothF
 by_cases h8:j<8
 ·rw [if_pos h8,if_pos h8,hA j h8]
 ·rw [if_neg h8,if_neg h8,h _ (by omega)]
theorem cut_part {o:List UInt8} {b k j:Nat} (hj:j<8):cutF ((o.take (b+k+8)).drop (b+k)) 0 j=o.getD (b+(k+j)) 0:=by
 unfold cutF
 rw [List.getD_eq_getElem?_getD,List.getElem?_drop,List.getElem?_take,if_pos (by omega),List.getD_eq_getElem?_getD]
 congr 2
 omega
theorem part_known {b:Nat} (h:∀ j,j<m→o[b+j]?=some (P j)) (hk:k+8≤m) (j:Nat) (hj:j<8):cutF ((o.take (b+k+8)).drop (b+k)) 0 j=P (k+j):=by
 rw [cut_part hj,List.getD_eq_getElem?_getD,h _ (by omega)]
 rfl
theorem part_known0 (h:∀ j,j<m→o[j]?=some (P j)) (hk:k+8≤m) (j:Nat) (hj:j<8):cutF ((o.take (k+8)).drop k) 0 j=P (k+j):=by
 have:=part_known (b:=0) (fun j hj=>by rw [Nat.zero_add]; exact h j hj) hk j hj
 rwa [Nat.zero_add] at this
theorem put_part {b:Nat} (hol:o.length=b+m) (hk:k+8≤m) (h:∀ j,j<m→o[b+j]?=some (P j)) (j:Nat) (hj:j<m) :
  (o.take (b+k)++((lst 16 B).drop 8++o.drop (b+k+((lst 16 B).drop 8).length)))[b+j]?=some (cpy k 8 P (fun j=>B (8+j)) j):=by
 have hl:((lst 16 B).drop 8).length=8:=by rw [List.length_drop,lst_len]
 unfold cpy
 by_cases h1:j<k
 ·rw [List.getElem?_append_left (by rw [List.length_take]; omega),List.getElem?_take,if_pos (by omega),if_neg (by omega),h j hj]
 ·rw [List.getElem?_append_right (by rw [List.length_take]; omega),List.length_take,Nat.min_eq_left (by omega)]
  by_cases h2:j<k+8
  ·rw [List.getElem?_append_left (by omega),List.getElem?_drop,lst_get (by omega),if_pos (by omega)]
   congr 2
   omega
  ·rw [List.getElem?_append_right (by omega),hl,List.getElem?_drop,if_neg (by omega),← h j hj]
   congr 1
   omega
theorem put_part0 (hol:o.length=m) (hk:k+8≤m) (h:∀ j,j<m→o[j]?=some (P j)) (j:Nat) (hj:j<m) :
  (o.take k++((lst 16 B).drop 8++o.drop (k+((lst 16 B).drop 8).length)))[j]?=some (cpy k 8 P (fun j=>B (8+j)) j):=by
 have:=put_part (o:=o) (b:=0) (B:=B) (by omega) hk (fun j hj=>by rw [Nat.zero_add]; exact h j hj) j hj
 rwa [Nat.zero_add,Nat.zero_add] at this
theorem put_len {b:Nat} (hb:b+8≤o.length):(o.take b++((lst 16 B).drop 8++o.drop (b+((lst 16 B).drop 8).length))).length=o.length:=by
 have hl:((lst 16 B).drop 8).length=8:=by rw [List.length_drop,lst_len]
 rw [List.length_append,List.length_append,hl,List.length_take,List.length_drop]
 omega
theorem count_head (B:Nat→UInt8) (t j:Nat) (hj:j<8):countF B t j=countF (cutF ((lst 16 B).take 8) 0) t j:=countF_congr (fun i hi=>by
 unfold cutF
 rw [Nat.zero_add,List.getD_eq_getElem?_getD,List.getElem?_take,if_pos hi,lst_get (by omega)]
 rfl) t j hj
theorem head8 (B:Nat→UInt8) (j:Nat) (hj:j<8):B j=cutF ((lst 16 B).take 8) 0 j:=by
 unfold cutF
 rw [Nat.zero_add,List.getD_eq_getElem?_getD,List.getElem?_take,if_pos hj,lst_get (by omega)]
 rfl
theorem wrap_end (hol:o.length=8+m) (h:∀ j,j<m→o[8+j]?=some (P j)):o.take 0++(lst 8 A++o.drop (0+(lst 8 A).length))=lst 8 A++lst m P:=by
 rw [List.take_zero,List.nil_append,lst_len]
 congr 1
 exact lst_of_known (fun j hj=>by rw [List.getElem?_drop]; exact h j hj) (by rw [List.length_drop]; omega)
end
def ini8:Nat→UInt8:=fun _=>166
def wrS (l d:List UInt8):(Nat→UInt8)×(Nat→UInt8):=wrapR (aeE l) d.length ini8 (cutF d 0) (6*(d.length / 8))
def wrapL (l d:List UInt8):List UInt8:=lst 8 (wrS l d).1++lst d.length (wrS l d).2
def unS (l d:List UInt8):(Nat→UInt8)×(Nat→UInt8):=unR (aeD l) (d.length - 8) (6*((d.length - 8) / 8)) (cutF d 0) (cutF d 8) (6*((d.length - 8) / 8))
def unE (l d:List UInt8):Nat:=if lst 8 (unS l d).1=lst 8 ini8 then 0 else 5
def unL (l d:List UInt8):List UInt8:=if lst 8 (unS l d).1=lst 8 ini8 then lst (d.length - 8) (unS l d).2 else []
theorem unR_like {e:(Nat→UInt8)→Nat→UInt8} (he:∀ x y,E16 x y→E16 (e x) (e y)) {m N:Nat} {A A' P P':Nat→UInt8} (h0:0<m) (h8:m%8=0) (hA:∀ j,j<8→A j=A' j) (hP:∀ j,j<m→P j=P' j):∀ k,Like m (unR e m N A P k) (unR e m N A' P' k)
 | 0=>⟨hA,hP⟩
 | k+1=>by
  have ih:=unR_like he (N:=N) h0 h8 hA hP k
  have hat:=at_fits (t:=N - k - 1) h0 h8
  have hB:E16 (unB e m N A P k) (unB e m N A' P' k):=he _ _ (both_E16 (fun j hj=>countF_congr ih.1 _ j hj) (fun j hj=>ih.2 _ (by omega)))
  rw [unR_succ,unR_succ]
  refine ⟨fun j hj=>hB j (by omega),fun j hj => ?_⟩
  dsimp only
  unfold cpy
  by_cases h:(N - k - 1)*8%m≤j∧j<(N - k - 1)*8%m+8
  ·rw [if_pos h,if_pos h]; exact hB _ (by omega)
  ·rw [if_neg h,if_neg h,ih.2 j hj]
theorem unwrap_of_wrap (l d:List UInt8) (h0:0<d.length) (h8:d.length%8=0):unE l (wrapL l d)=0∧unL l (wrapL l d)=d:=by
 have hlen:(wrapL l d).length=8+d.length:=by unfold wrapL; rw [List.length_append,lst_len,lst_len]
 have hm:(wrapL l d).length - 8=d.length:=by omega
 have hu:=unwrap_wrap (e:=aeE l) (d:=aeD l) (fun x y h=>aeD_E16 l h) (fun x=>aeD_aeE l x) d.length (6*(d.length / 8)) h8 h0 ini8 (cutF d 0)
 have hA:∀ j,j<8→cutF (wrapL l d) 0 j=(wrS l d).1 j:=fun j hj=>by
  unfold cutF wrapL
  rw [Nat.zero_add,List.getD_eq_getElem?_getD,List.getElem?_append_left (by rw [lst_len]; omega),lst_get hj]
  rfl
 have hP:∀ j,j<d.length→cutF (wrapL l d) 8 j=(wrS l d).2 j:=fun j hj=>by
  unfold cutF wrapL
  rw [List.getD_eq_getElem?_getD,List.getElem?_append_right (by rw [lst_len]; omega),lst_len,lst_get (by omega),show 8+j - 8=j by omega]
  rfl
 have hc:Like d.length (unS l (wrapL l d)) (unR (aeD l) d.length (6*(d.length / 8)) (wrS l d).1 (wrS l d).2 (6*(d.length / 8))):=by
  have:=unR_like (e:=aeD l) (fun x y h=>aeD_E16 l h) (N:=6*(d.length / 8)) h0 h8 hA hP (6*(d.length / 8))
  unfold unS
  rw [hm]
  exact this
 have h1:lst 8 (unS l (wrapL l d)).1=lst 8 ini8:=lst_congr fun j hj=>(hc.1 j hj).trans (hu.1 j hj)
 unfold unE unL
 rw [if_pos h1,if_pos h1,hm]
 refine ⟨rfl,(lst_of_known (fun j hj => ?_) rfl).symm⟩
 rw [hc.2 j hj,show (unR (aeD l) d.length (6*(d.length / 8)) (wrS l d).1 (wrS l d).2 (6*(d.length / 8))).2 j=_ from hu.2 j hj]
 unfold cutF
 rw [Nat.zero_add,List.getD_eq_getElem?_getD,List.getElem?_eq_getElem hj]
 rfl
theorem getD_some {d:List UInt8} {j:Nat} (hj:j<d.length):d[j]?=some (cutF d 0 j):=by
 unfold cutF
 rw [Nat.zero_add,List.getD_eq_getElem?_getD,List.getElem?_eq_getElem hj]
 rfl
theorem wrap_c (A:Option Addr) (z:Nat) (l:List UInt8) (hk:l.length=16 ∨ l.length=32) (B:Option Addr) (y:Nat) (d:List UInt8) (hd:16≤d.length∧d.length≤128) (h8:d.length%8=0):Does Tryz.prog 32 #[(.slice A l.length z),(.slice B d.length y)] [] (fun w=>w.heap[0]?=some (.cells ((cArr 256).enc boxF) 103 (0,0))∧Vu cByte w A l.length z l∧Vu cByte w B d.length y d) (fun v E' => ∃ s,v=.tuple #[s,.int .i64 0]∧OwnT cByte 5 s (wrapL l d) E'):=by
 refine does_of (fn:=Tryz.f32) Tryz.func32 rfl Tryz.ntmps32 (Nat.le_of_ble_eq_true rfl) rfl ?_
 intro w0 hH hR
 replace hH:HH w0 [] [] w0:=hH.only [false]
 have hlk:=hR.2.1.len; have hld:=hR.2.2.len
 refine zr (zv .mv 0 ?_)
 refine zv .mv 1 ?_
 refine zn (cxSeq (zr (zv .mv 1 ?_)))
 refine zc Tryz.func54 (isKey_c A l.length z hk) trivial hH 1 ?_
 clear hH
 intro w hH
 refine zv (v:=(.bool false)) (fun _ _ hF=>opNot rfl (hF.ev 0 rfl) rfl) 1 ?_
 refine zv .mv 1 ?_
 refine pxV (v:=(.slice B d.length y)) (fun _ _ hF=>opMove rfl (hF.ev 2 rfl)) rfl (gOn 0 rfl rfl rfl (by decide)) (kA rfl) (by decide) ?_
 refine pxV (v:=(.int .i64 (((d.length):Nat):Int))) (fun _ _ hF=>opLen (e:=5) rfl (by kernel_rfl) (hF.ev 0 rfl)) rfl (gOn 1 rfl rfl rfl (by decide)) (kM [false,true,true,true] rfl rfl) (by decide) ?_
 refine pxM hH (fun _ hF=>Does.small ((may_c d.length (by omega) (by omega) (by omega)).does) (fun w=>opCall rfl Tryz.func55 rfl rfl (Evs.cons (v:=(.int .i64 (((d.length):Nat):Int))) (hF.ev 0 rfl) Evs.nil) w)) trivial rfl (gOn 1 rfl rfl rfl (by decide)) (kM [false,true,true,true] rfl rfl) (by decide) ?_
 clear hH
 rintro _ _ w ⟨rfl,rfl⟩ hH
 replace hH:HH w0 [] [] w:=hH.unpad
 refine pxV (v:=(.bool false)) (fun _ _ hF=>opNot rfl (hF.ev 0 rfl) rfl) rfl (gOn 1 rfl rfl rfl (by decide)) (kM [false,true,true,true] rfl rfl) (by decide) ?_
 refine zv (v:=(.bool false)) (fun _ _ hF=>opPickF rfl (hF.ev 1 rfl) (hF.ev 0 rfl)) 3 ?_
 refine zn (zF ?_)
 refine cxSkip (qxThen (zr (zv .mv 3 ?_)))
 refine zm hH (.call Tryz.func56 (roundKeys_c A z l hk)) (⟨(hH.oldBlk hR.1 (by simp)),(hH.vu hR.2.1 (by decide) (Off.nil _ _))⟩) 1 ?_
 clear hH
 rintro v E3 w hO4 hH
 replace hO4:OwnT (cArr 16) 51 v (aeK l) E3:=hO4
 obtain ⟨A1,c2,rfl⟩:=hO4.slice
 refine zv .mv 1 ?_
 refine zn (zr (zc Tryz.func57 (start_c ) trivial hH 0 ?_))
 clear hH
 intro w hH
 refine zm hH (.al (cArr 8) (fun _=>0)) trivial 0 ?_
 clear hH
 rintro _ _ w ⟨g5,rfl,rfl⟩ hH
 refine ze0 1 hH rfl (.sw (cArr 8) (fun _=>0) (fun _=>166)) trivial ?_
 clear hH
 rintro _ _ w rfl hH
 refine zn (zr (zv .mv 2 ?_))
 refine zv .len 1 ?_
 refine zv (.add ((8+d.length:Nat):Int)) 1 ?_
 refine zm hH (fun _ hF=>smMake (e:=5) (n:=8+d.length) (sz:=1) (by_:=1) (z:=(.int .u8 0)) (cs:=madeCells (cByte.enc 0) ((8+d.length)*1)) rfl (by kernel_rfl) (by kernel_rfl) (hF.ev 0 rfl) (hF.ev 0 rfl) rfl rfl (by omega) (by omega) rfl) trivial 1 ?_
 clear hH
 rintro _ _ w ⟨g6,rfl,rfl⟩ hH
 refine zv .mv 1 ?_
 refine zn (zr (zv .mv 0 ?_))
 refine zv (v:=(.slice (some ⟨g6,0+8*1,none⟩) ((8+d.length) - 8) ((8+d.length) - 8))) (fun _ _ hF=>opSlcL (k:=8) (e:=5) (sz:=1) rfl (by kernel_rfl) (by kernel_rfl) (hF.ev 0 rfl) rfl rfl (by omega) (by omega)) 1 ?_
 refine zv .mv 1 ?_
 refine zn ?_
 rw [show 8+d.length - 8=d.length by omega]
 refine zr (zv .mv 0 ?_)
 refine zv .mv 32 ?_
 obtain ⟨cur8,hcs9,hB7⟩:∃ cs,putL (madeCells (cByte.enc 0) ((8+d.length)*1)) (0+8*1) (flat cByte d)=cs∧Bk cByte (8+d.length) cs ((List.replicate (8+d.length) 0).take 8++(d++(List.replicate (8+d.length) 0).drop (8+d.length))):=⟨_,rfl,(Bk.make (C:=cByte) 0 (8+d.length) (ltb rfl) (by unfold maxLen; omega)).copy 8 d (by rw [List.length_replicate]; omega)⟩
 refine ze 2 hH rfl (fun _ hF=>smCopyT (C:=cByte) (m:=d) (e:=5) rfl (by kernel_rfl) (by kernel_rfl) (ltb rfl) (hF.ev 1 rfl) (hF.ev 0 rfl) (by omega) rfl (by rw [size_madeCells]; show 0+8*1+d.length*1≤(8+d.length)*1; omega) hcs9) (hH.vu hR.2.2 (by decide) (Off.nil _ _)) 3 ?_
 clear hH
 rintro _ _ w ⟨rfl,rfl⟩ hH
 refine zn (cxSeq (zr (zv .mv 1 ?_)))
 refine zn (cxBlock ?_)
 have he10:(cArr 8).enc ((wrapR (aeE l) d.length ini8 (cutF d 0) 0).1)=(cArr 8).enc (fun _=>166):=arr_congr (fun j _=>rfl)
 replace hH:HH w0 [] [E3,[bl g5 84 ((cArr 8).enc ((wrapR (aeE l) d.length ini8 (cutF d 0) 0).1))],[bl g6 5 cur8]] w:=by rw [he10]; exact hH
 refine zL3 (fun (t:Nat) (_:List UInt8) (_:Array Value)=>[(10,(.int .i64 (((t+1):Nat):Int))),(9,(.slice (some ⟨g6,0+8*1,none⟩) d.length d.length)),(8,(.slice (some ⟨g6,0,none⟩) (8+d.length) (8+d.length))),(7,(.pointer (some ⟨g5,0,none⟩))),(6,(.slice A1 ((aeK l).length) c2))]) (fun t o cu w=>HH w0 [] [E3,[bl g5 84 ((cArr 8).enc ((wrapR (aeE l) d.length ini8 (cutF d 0) t).1))],[bl g6 5 cu]] w∧(t≤6*(d.length / 8))∧(o.length=8+d.length)∧(∀ j,j<d.length→o[8+j]?=some ((wrapR (aeE l) d.length ini8 (cutF d 0) t).2 j))∧(Bk cByte (8+d.length) cu o)) (fun t _ _=>6*(d.length / 8) - t) 0 ((List.replicate (8+d.length) 0).take 8++(d++(List.replicate (8+d.length) 0).drop (8+d.length))) cur8 ⟨hH,(Nat.zero_le _),(by simp; omega),(fun j hj=>by rw [List.getElem?_append_right (by simp),List.length_take,List.length_replicate,Nat.min_eq_left (by omega),List.getElem?_append_left (by omega),Nat.add_sub_cancel_left]; exact getD_some hj),hB7⟩ ?_
 clear hH
 rintro t o cu w ⟨hH,ht,hol,hoP,hB⟩
 refine cxSeq (zr (zv .mv 0 ?_))
 refine zv .mv 0 ?_
 refine zc Tryz.func58 (steps_c (some ⟨g6,0+8*1,none⟩) d.length d.length (by omega)) trivial hH 1 ?_
 clear hH
 intro w hH
 refine zv (.le (t+1≤6*(d.length / 8))) 3 ?_
 refine zn ?_
 refine zP (fun hc11 => ?_) (fun hc11 => ?_)
 refine cxSkip (qxThen (cxSeq (cxBlock ?_)))
 have hat:=at_fits (t:=t) (n:=d.length) (by omega) h8
 refine zr (zv .mv 1 ?_)
 refine zv .mv 0 ?_
 refine zc Tryz.func59 ((partOf_c (some ⟨g6,0+8*1,none⟩) d.length d.length t (by omega) (by omega) (by omega)).as (v:=(.slice (some ⟨g6,0+(8+t*8%d.length)*1,none⟩) (8+t*8%d.length+8 - (8+t*8%d.length)) (8+d.length - (8+t*8%d.length)))) (part_val ((cutA_some (by omega)).trans (addr_eq (by omega))) (by omega) (by omega))) trivial hH 3 ?_
 clear hH
 intro w hH
 refine zv .mv 1 ?_
 refine zn (zr (zv .mv 0 ?_))
 refine zs (hH.q 1 rfl) (.ld (cArr 8) ((wrapR (aeE l) d.length ini8 (cutF d 0) t).1) (fun _ hS=>(holds_blk0 hS))) 0 ?_
 refine zv .mv 0 ?_
 refine zc Tryz.func61 (both_c ((wrapR (aeE l) d.length ini8 (cutF d 0) t).1) (some ⟨g6,0+(8+t*8%d.length)*1,none⟩) (8+t*8%d.length+8 - (8+t*8%d.length)) (8+d.length - (8+t*8%d.length)) ((o.take (8+t*8%d.length+8)).drop (8+t*8%d.length)) (by omega)) (cutA_some (sz:=1) (b:=g6) (off:=0) (c:=8+d.length) (k:=8+t*8%d.length) (by omega) ▸ ((hB.vu (n:=8+d.length) (hH.blk 2 rfl) hol).cut (k:=8+t*8%d.length) (m:=8+t*8%d.length+8) (by omega) (by omega))) hH 3 ?_
 clear hH
 intro w hH
 refine zc Tryz.func60 (encK_c A1 ((aeK l).length) c2 l hk (aeK_len l) (bothF ((wrapR (aeE l) d.length ini8 (cutF d 0) t).1) (cutF ((o.take (8+t*8%d.length+8)).drop (8+t*8%d.length)) 0))) (⟨(hH.oldBlk hR.1 (by simp)),(hO4.vuAt (hH.has 0 rfl))⟩) hH 3 ?_
 clear hH
 intro w hH
 refine zm hH (.al (cArr 16) (fun _=>0)) trivial 0 ?_
 clear hH
 rintro _ _ w ⟨g12,rfl,rfl⟩ hH
 refine ze0 3 hH rfl (.sw (cArr 16) (fun _=>0) (aeE l (bothF ((wrapR (aeE l) d.length ini8 (cutF d 0) t).1) (cutF ((o.take (8+t*8%d.length+8)).drop (8+t*8%d.length)) 0)))) trivial ?_
 clear hH
 rintro _ _ w rfl hH
 refine zn ?_
 obtain ⟨X,hX⟩:∃ X,X=(wrB (aeE l) d.length ini8 (cutF d 0) t):=⟨_,rfl⟩
 have he13:(cArr 16).enc X=(cArr 16).enc (aeE l (bothF ((wrapR (aeE l) d.length ini8 (cutF d 0) t).1) (cutF ((o.take (8+t*8%d.length+8)).drop (8+t*8%d.length)) 0))):=arr_congr (fun j hj=>hX ▸ (aeE_E16 l (by unfold aeR; omega) (both_E16 (fun _ _=>rfl) (fun j hj=>part_known hoP hat j hj)) j hj).symm)
 replace hH:HH w0 [] [E3,[bl g5 84 ((cArr 8).enc ((wrapR (aeE l) d.length ini8 (cutF d 0) t).1))],[bl g6 5 cu],[bl g12 51 ((cArr 16).enc X)]] w:=by rw [he13]; exact hH
 refine zr (zv (v:=(.slice (some ⟨g12,0,none⟩) 8 16)) (fun _ _ hF=>opSliceAH (m:=16) (h:=8) (e:=5) (sz:=1) rfl (by kernel_rfl) (by kernel_rfl) (hF.ev 0 rfl) rfl rfl (by omega)) 2 ?_)
 refine zv (v:=(.pointer (some ⟨g12,0,none⟩))) (fun _ _ hF=>opToArray (m:=8) (e:=5) rfl (by kernel_rfl) (hF.ev 0 rfl) (by omega)) 1 ?_
 refine zs (hH.q 3 rfl) (.ld (cArr 8) (cutF ((lst 16 X).take 8) 0) (fun _ hS=>(((holdsL_arr hS).cut 0 8).arr 0 8 (by first | omega | (rw [lst_len]; omega) | (simp only [List.length_drop,List.length_take,lst_len]; omega) | (simp only [List.length_drop,List.length_take]; omega))))) 1 ?_
 refine zv .mv 0 ?_
 refine zc Tryz.func62 (counted_c (cutF ((lst 16 X).take 8) 0) (t+1)) trivial hH 3 ?_
 clear hH
 intro w hH
 refine ze0 1 hH rfl (.sw (cArr 8) ((wrapR (aeE l) d.length ini8 (cutF d 0) t).1) (countF (cutF ((lst 16 X).take 8) 0) (t+1))) trivial ?_
 clear hH
 rintro _ _ w rfl hH
 refine zn ?_
 have he14:(cArr 8).enc (countF X (t+1))=(cArr 8).enc (countF (cutF ((lst 16 X).take 8) 0) (t+1)):=arr_congr (fun j hj=>count_head _ _ j hj)
 replace hH:HH w0 [] [E3,[bl g5 84 ((cArr 8).enc (countF X (t+1)))],[bl g6 5 cu],[bl g12 51 ((cArr 16).enc X)]] w:=by rw [he14]; exact hH
 refine cxReg (zv .mv 5 ?_)
 refine zv (v:=(.slice (some ⟨g12,0+8*1,none⟩) (16 - 8) (16 - 8))) (fun _ _ hF=>opSliceAL (m:=16) (l:=8) (e:=5) (sz:=1) rfl (by kernel_rfl) (by kernel_rfl) (hF.ev 1 rfl) rfl rfl (by omega)) 2 ?_
 obtain ⟨cur16,hcs17,hB15⟩:∃ cs,putL cu (0+(8+t*8%d.length)*1) (flat cByte ((lst 16 X).drop 8))=cs∧Bk cByte (8+d.length) cs (o.take (8+t*8%d.length)++(((lst 16 X).drop 8)++o.drop (8+t*8%d.length+((lst 16 X).drop 8).length))):=⟨_,rfl,hB.copy (8+t*8%d.length) ((lst 16 X).drop 8) (by rw [List.length_drop,lst_len]; omega)⟩
 refine ze 2 hH rfl (fun _ hF=>smCopyT (C:=cByte) (m:=((lst 16 X).drop 8)) (e:=5) rfl (by kernel_rfl) (by kernel_rfl) (ltb rfl) (hF.ev 1 rfl) (hF.ev 0 rfl) (by omega) (by rw [List.length_drop,lst_len]) (room_cp hB (k:=8+t*8%d.length) (n:=16 - 8) (by omega)) hcs17) (cutA_some (sz:=1) (b:=g12) (off:=0) (c:=16) (k:=8) (by omega) ▸ ((vu_arr (hH.blk 3 rfl)).from (k:=8) (by omega))) 3 ?_
 clear hH
 rintro _ _ w ⟨rfl,rfl⟩ hH
 refine pxEnd (qxInN (qxThen (cxReg (zv .mv 3 ?_))))
 refine zv (.add (((t+1+1):Nat):Int)) 1 ?_
 refine zv .mv 1 ?_
 refine pxEnd ?_
 replace hH:HH w0 [] [E3,[bl g5 84 ((cArr 8).enc (countF X (t+1)))],[bl g6 5 cur16]] w:=hH.only [true,true,true,false]
 have he18:(cArr 8).enc ((wrapR (aeE l) d.length ini8 (cutF d 0) (t+1)).1)=(cArr 8).enc (countF X (t+1)):=arr_congr (fun j _=>by rw [hX]; rfl)
 replace hH:HH w0 [] [E3,[bl g5 84 ((cArr 8).enc ((wrapR (aeE l) d.length ini8 (cutF d 0) (t+1)).1))],[bl g6 5 cur16]] w:=by rw [he18]; exact hH
 exact zR3 (t+1) (o.take (8+t*8%d.length)++(((lst 16 X).drop 8)++o.drop (8+t*8%d.length+((lst 16 X).drop 8).length))) cur16 ⟨hH,(by omega),(by rw [put_len (by omega)]; exact hol),(fun j hj=>by rw [wrapR_succ,← hX]; exact put_part hol hat hoP j hj),hB15⟩ (by omega)
 refine cxExit (qxThenE (qxThenE (qxInE (qxThen ?_))))
 obtain rfl:t=6*(d.length / 8):=by omega
 refine zr (zv .mv 39 ?_)
 refine zv (v:=(.slice (some ⟨g5,0,none⟩) 8 8)) (fun _ _ hF=>opSliceA (n:=8) (e:=5) (sz:=1) rfl (by kernel_rfl) (by kernel_rfl) (hF.ev 2 rfl)) 4 ?_
 obtain ⟨cur20,hcs21,hB19⟩:∃ cs,putL cu (0) (flat cByte (lst 8 ((wrapR (aeE l) d.length ini8 (cutF d 0) (6*(d.length / 8))).1)))=cs∧Bk cByte (8+d.length) cs (o.take 0++((lst 8 ((wrapR (aeE l) d.length ini8 (cutF d 0) (6*(d.length / 8))).1))++o.drop (0+(lst 8 ((wrapR (aeE l) d.length ini8 (cutF d 0) (6*(d.length / 8))).1)).length))):=⟨_,rfl,hB.copy 0 (lst 8 ((wrapR (aeE l) d.length ini8 (cutF d 0) (6*(d.length / 8))).1)) (by rw [lst_len]; omega)⟩
 refine ze 2 hH rfl (fun _ hF=>smCopyT (C:=cByte) (m:=(lst 8 ((wrapR (aeE l) d.length ini8 (cutF d 0) (6*(d.length / 8))).1))) (e:=5) rfl (by kernel_rfl) (by kernel_rfl) (ltb rfl) (hF.ev 1 rfl) (hF.ev 0 rfl) (by omega) (lst_len _ _) (room_cp hB (k:=0) (n:=8) (by omega)) hcs21) (vu_arr (hH.blk 1 rfl)) 3 ?_
 clear hH
 rintro _ _ w ⟨rfl,rfl⟩ hH
 refine zn (zr (zv .mv 3 ?_))
 refine zv .mv 1 ?_
 refine zv .mv 0 ?_
 refine zn (cxRet (qxRet2 1 0 rfl rfl rfl ?_))
 have hfin:=hB19
 rw [wrap_end hol hoP] at hfin
 exact ⟨_,_,rfl,⟨_,rfl,hfin.own 5 g6 (by rw [List.length_append,lst_len,lst_len])⟩,hH.out1 [false,false,true] rfl⟩
theorem cut_at8 {d:List UInt8} {k j:Nat} (hj:k+j<d.length):d[k+j]?=some (cutF d k j):=by
 unfold cutF
 rw [List.getD_eq_getElem?_getD,List.getElem?_eq_getElem hj]
 rfl
theorem unwrap_c (A:Option Addr) (z:Nat) (l:List UInt8) (hk:l.length=16 ∨ l.length=32) (B:Option Addr) (y:Nat) (d:List UInt8) (hd:24≤d.length∧d.length≤136) (h8:d.length%8=0):Does Tryz.prog 49 #[(.slice A l.length z),(.slice B d.length y)] [] (fun w=>w.heap[0]?=some (.cells ((cArr 256).enc boxF) 103 (0,0))∧Vu cByte w A l.length z l∧Vu cByte w B d.length y d) (fun v E' => ∃ s,v=.tuple #[s,.int .i64 ((unE l d:Nat):Int)]∧OwnT cByte 5 s (unL l d) E'):=by
 refine does_of (fn:=Tryz.f49) Tryz.func49 rfl Tryz.ntmps49 (Nat.le_of_ble_eq_true rfl) rfl ?_
 intro w0 hH hR
 replace hH:HH w0 [] [] w0:=hH.only [false]
 have hlk:=hR.2.1.len; have hld:=hR.2.2.len
 refine zr (zv .mv 0 ?_)
 refine zv .mv 1 ?_
 refine zn (cxSeq (zr (zv .mv 1 ?_)))
 refine zc Tryz.func54 (isKey_c A l.length z hk) trivial hH 1 ?_
 clear hH
 intro w hH
 refine zv (v:=(.bool false)) (fun _ _ hF=>opNot rfl (hF.ev 0 rfl) rfl) 1 ?_
 refine zv .mv 1 ?_
 refine pxV (v:=(.slice B d.length y)) (fun _ _ hF=>opMove rfl (hF.ev 2 rfl)) rfl (gOn 0 rfl rfl rfl (by decide)) (kA rfl) (by decide) ?_
 refine pxV (v:=(.int .i64 (((d.length):Nat):Int))) (fun _ _ hF=>opLen (e:=5) rfl (by kernel_rfl) (hF.ev 0 rfl)) rfl (gOn 1 rfl rfl rfl (by decide)) (kM [false,true,true,true] rfl rfl) (by decide) ?_
 refine pxV (v:=(.int .i64 ((((d.length - 8)):Nat):Int))) (fun _ _ hF=>opSub rfl (hF.ev 0 rfl) rfl (wI (by omega) (by omega) (by omega))) rfl (gOn 1 rfl rfl rfl (by decide)) (kM [false,true,true,true] rfl rfl) (by decide) ?_
 refine pxM hH (fun _ hF=>Does.small ((may_c (d.length - 8) (by omega) (by omega) (by omega)).does) (fun w=>opCall rfl Tryz.func55 rfl rfl (Evs.cons (v:=(.int .i64 ((((d.length - 8)):Nat):Int))) (hF.ev 0 rfl) Evs.nil) w)) trivial rfl (gOn 1 rfl rfl rfl (by decide)) (kM [false,true,true,true] rfl rfl) (by decide) ?_
 clear hH
 rintro _ _ w ⟨rfl,rfl⟩ hH
 replace hH:HH w0 [] [] w:=hH.unpad
 refine pxV (v:=(.bool false)) (fun _ _ hF=>opNot rfl (hF.ev 0 rfl) rfl) rfl (gOn 1 rfl rfl rfl (by decide)) (kM [false,true,true,true] rfl rfl) (by decide) ?_
 refine zv (v:=(.bool false)) (fun _ _ hF=>opPickF rfl (hF.ev 1 rfl) (hF.ev 0 rfl)) 3 ?_
 refine zn (zF ?_)
 refine cxSkip (qxThen (zr (zv .mv 3 ?_)))
 refine zm hH (.call Tryz.func56 (roundKeys_c A z l hk)) (⟨(hH.oldBlk hR.1 (by simp)),(hH.vu hR.2.1 (by decide) (Off.nil _ _))⟩) 1 ?_
 clear hH
 rintro v E3 w hO4 hH
 replace hO4:OwnT (cArr 16) 51 v (aeK l) E3:=hO4
 obtain ⟨A1,c2,rfl⟩:=hO4.slice
 refine zc Tryz.func91 (back_c ) (hH.oldBlk hR.1 (by simp)) hH 0 ?_
 clear hH
 intro w hH
 refine zm hH (.al (cArr 256) (fun _=>0)) trivial 0 ?_
 clear hH
 rintro _ _ w ⟨g5,rfl,rfl⟩ hH
 refine zv .mv 4 ?_
 refine ze0 1 hH rfl (.sw (cArr 256) (fun _=>0) (bk boxF 256)) trivial ?_
 clear hH
 rintro _ _ w rfl hH
 refine zn ?_
 obtain ⟨b6,off7,rfl,hL8,hb9,hR10⟩:=hR.2.2.blk (by decide) (Off.nil _ _) (by omega)
 have:=hR.2.2.cap
 refine zr (zv .mv 4 ?_)
 refine zv (v:=(.pointer (some ⟨b6,off7,none⟩))) (fun _ _ hF=>opToArray (m:=8) (e:=5) rfl (by kernel_rfl) (hF.ev 0 rfl) (by omega)) 1 ?_
 refine zs (S:=fun w=>HoldsL cByte w b6 off7 d) (hH.holdsL hL8 hb9 hR10) (.ld (cArr 8) (cutF d 0) (fun _ hS=>(hS.arr 0 8 (by first | omega | (rw [lst_len]; omega) | (simp only [List.length_drop,List.length_take,lst_len]; omega) | (simp only [List.length_drop,List.length_take]; omega))))) 1 ?_
 refine zm hH (.al (cArr 8) (fun _=>0)) trivial 0 ?_
 clear hH
 rintro _ _ w ⟨g11,rfl,rfl⟩ hH
 refine ze0 2 hH rfl (.sw (cArr 8) (fun _=>0) (cutF d 0)) trivial ?_
 clear hH
 rintro _ _ w rfl hH
 refine zn (zr (zv .mv 2 ?_))
 refine zv .len 1 ?_
 refine zv (.sub ((((d.length - 8)):Nat):Int)) 1 ?_
 refine zm hH (fun _ hF=>smMake (e:=5) (n:=(d.length - 8)) (sz:=1) (by_:=1) (z:=(.int .u8 0)) (cs:=madeCells (cByte.enc 0) ((d.length - 8)*1)) rfl (by kernel_rfl) (by kernel_rfl) (hF.ev 0 rfl) (hF.ev 0 rfl) rfl rfl (by omega) (by omega) rfl) trivial 1 ?_
 clear hH
 rintro _ _ w ⟨g12,rfl,rfl⟩ hH
 refine zv .mv 1 ?_
 refine zn (zr (zv .mv 0 ?_))
 refine zv .mv 32 ?_
 refine zv (v:=(.slice (some ⟨b6,off7+8*1,none⟩) (d.length - 8) (y - 8))) (fun _ _ hF=>opSlcL (k:=8) (e:=5) (sz:=1) rfl (by kernel_rfl) (by kernel_rfl) (hF.ev 0 rfl) rfl rfl (by omega) (by omega)) 1 ?_
 obtain ⟨cur14,hcs15,hB13⟩:∃ cs,putL (madeCells (cByte.enc 0) ((d.length - 8)*1)) (0) (flat cByte (d.drop 8))=cs∧Bk cByte (d.length - 8) cs ((List.replicate (d.length - 8) 0).take 0++((d.drop 8)++(List.replicate (d.length - 8) 0).drop (0+(d.drop 8).length))):=⟨_,rfl,(Bk.make (C:=cByte) 0 (d.length - 8) (ltb rfl) (by unfold maxLen; omega)).copy 0 (d.drop 8) (by rw [List.length_replicate,List.length_drop]; omega)⟩
 refine ze 3 hH rfl (fun _ hF=>smCopyT (C:=cByte) (m:=(d.drop 8)) (e:=5) rfl (by kernel_rfl) (by kernel_rfl) (ltb rfl) (hF.ev 1 rfl) (hF.ev 0 rfl) (by omega) (by rw [List.length_drop]) (by rw [size_madeCells]; show 0+(d.length - 8)*1≤(d.length - 8)*1; omega) hcs15) (cutA_some (sz:=1) (b:=b6) (off:=off7) (c:=y) (k:=8) (by omega) ▸ ((hH.vu hR.2.2 (by decide) (Off.nil _ _)).from (k:=8) (by omega))) 3 ?_
 clear hH
 rintro _ _ w ⟨rfl,rfl⟩ hH
 refine zn (cxSeq (zr (zv .mv 1 ?_)))
 refine zc Tryz.func58 (steps_c (some ⟨g12,0,none⟩) (d.length - 8) (d.length - 8) (by omega)) trivial hH 1 ?_
 clear hH
 intro w hH
 refine zv .mv 1 ?_
 refine zn (cxBlock ?_)
 have he16:(cArr 8).enc ((unR (aeD l) (d.length - 8) (6*((d.length - 8) / 8)) (cutF d 0) (cutF d 8) 0).1)=(cArr 8).enc (cutF d 0):=arr_congr (fun j _=>rfl)
 replace hH:HH w0 [] [E3,[bl g5 103 ((cArr 256).enc (bk boxF 256))],[bl g11 84 ((cArr 8).enc ((unR (aeD l) (d.length - 8) (6*((d.length - 8) / 8)) (cutF d 0) (cutF d 8) 0).1))],[bl g12 5 cur14]] w:=by rw [he16]; exact hH
 refine zL3 (fun (k:Nat) (_:List UInt8) (_:Array Value)=>[(10,(.int .i64 ((((6*((d.length - 8) / 8)) - k):Nat):Int))),(9,(.slice (some ⟨g12,0,none⟩) (d.length - 8) (d.length - 8))),(8,(.pointer (some ⟨g11,0,none⟩))),(7,(.pointer (some ⟨g5,0,none⟩))),(6,(.slice A1 ((aeK l).length) c2))]) (fun k o cu w=>HH w0 [] [E3,[bl g5 103 ((cArr 256).enc (bk boxF 256))],[bl g11 84 ((cArr 8).enc ((unR (aeD l) (d.length - 8) (6*((d.length - 8) / 8)) (cutF d 0) (cutF d 8) k).1))],[bl g12 5 cu]] w∧(k≤(6*((d.length - 8) / 8)))∧(o.length=(d.length - 8))∧(∀ j,j<(d.length - 8)→o[j]?=some ((unR (aeD l) (d.length - 8) (6*((d.length - 8) / 8)) (cutF d 0) (cutF d 8) k).2 j))∧(Bk cByte (d.length - 8) cu o)) (fun k _ _=>(6*((d.length - 8) / 8)) - k) 0 ((List.replicate (d.length - 8) 0).take 0++((d.drop 8)++(List.replicate (d.length - 8) 0).drop (0+(d.drop 8).length))) cur14 ⟨hH,(Nat.zero_le _),(by simp),(fun j hj=>by rw [List.take_zero,List.nil_append,List.getElem?_append_left (by rw [List.length_drop]; exact hj),List.getElem?_drop]; exact (cut_at8 (by omega))),hB13⟩ ?_
 clear hH
 rintro k o cu w ⟨hH,hk2,hol,hoP,hB⟩
 refine cxSeq (zr (zv .mv 0 ?_))
 refine zv (.ge ((6*((d.length - 8) / 8)) - k ≥ 1)) 1 ?_
 refine zn ?_
 refine zP (fun hc17 => ?_) (fun hc17 => ?_)
 refine cxSkip (qxThen (cxSeq (cxBlock ?_)))
 obtain ⟨t,ht⟩:∃ t,(6*((d.length - 8) / 8)) - k=t+1:=⟨(6*((d.length - 8) / 8)) - k - 1,by omega⟩
 rw [ht]
 have hat:=at_fits (t:=t) (n:=(d.length - 8)) (by omega) (by omega)
 refine zr (zv .mv 1 ?_)
 refine zv .mv 0 ?_
 refine zc Tryz.func59 ((partOf_c (some ⟨g12,0,none⟩) (d.length - 8) (d.length - 8) t (by omega) (by omega) (by omega)).as (v:=(.slice (some ⟨g12,0+(t*8%(d.length - 8))*1,none⟩) (t*8%(d.length - 8)+8 - (t*8%(d.length - 8))) ((d.length - 8) - (t*8%(d.length - 8))))) (part_val (cutA_some (by omega)) (by omega) (by omega))) trivial hH 3 ?_
 clear hH
 intro w hH
 refine zv .mv 1 ?_
 refine zn (zr (zv .mv 0 ?_))
 refine zs (hH.q 2 rfl) (.ld (cArr 8) ((unR (aeD l) (d.length - 8) (6*((d.length - 8) / 8)) (cutF d 0) (cutF d 8) k).1) (fun _ hS=>(holds_blk0 hS))) 0 ?_
 refine zv .mv 0 ?_
 refine zc Tryz.func62 (counted_c ((unR (aeD l) (d.length - 8) (6*((d.length - 8) / 8)) (cutF d 0) (cutF d 8) k).1) (t+1)) trivial hH 3 ?_
 clear hH
 intro w hH
 refine zv .mv 0 ?_
 refine zc Tryz.func61 (both_c (countF ((unR (aeD l) (d.length - 8) (6*((d.length - 8) / 8)) (cutF d 0) (cutF d 8) k).1) (t+1)) (some ⟨g12,0+(t*8%(d.length - 8))*1,none⟩) (t*8%(d.length - 8)+8 - (t*8%(d.length - 8))) ((d.length - 8) - (t*8%(d.length - 8))) ((o.take (t*8%(d.length - 8)+8)).drop (t*8%(d.length - 8))) (by omega)) (cutA_some (sz:=1) (b:=g12) (off:=0) (c:=(d.length - 8)) (k:=t*8%(d.length - 8)) (by omega) ▸ ((hB.vu (n:=(d.length - 8)) (hH.blk 3 rfl) hol).cut (k:=t*8%(d.length - 8)) (m:=t*8%(d.length - 8)+8) (by omega) (by omega))) hH 3 ?_
 clear hH
 intro w hH
 refine zc Tryz.func92 (decK_c g5 A1 ((aeK l).length) c2 l hk (aeK_len l) (bothF (countF ((unR (aeD l) (d.length - 8) (6*((d.length - 8) / 8)) (cutF d 0) (cutF d 8) k).1) (t+1)) (cutF ((o.take (t*8%(d.length - 8)+8)).drop (t*8%(d.length - 8))) 0))) (⟨(hH.blk 1 rfl),(hO4.vuAt (hH.has 0 rfl))⟩) hH 3 ?_
 clear hH
 intro w hH
 refine zm hH (.al (cArr 16) (fun _=>0)) trivial 0 ?_
 clear hH
 rintro _ _ w ⟨g18,rfl,rfl⟩ hH
 refine ze0 4 hH rfl (.sw (cArr 16) (fun _=>0) (aeD l (bothF (countF ((unR (aeD l) (d.length - 8) (6*((d.length - 8) / 8)) (cutF d 0) (cutF d 8) k).1) (t+1)) (cutF ((o.take (t*8%(d.length - 8)+8)).drop (t*8%(d.length - 8))) 0)))) trivial ?_
 clear hH
 rintro _ _ w rfl hH
 refine zn ?_
 obtain ⟨X,hX⟩:∃ X,X=(aeD l (bothF (countF (unR (aeD l) (d.length - 8) (6*((d.length - 8) / 8)) (cutF d 0) (cutF d 8) k).1 (t+1)) fun j=>(unR (aeD l) (d.length - 8) (6*((d.length - 8) / 8)) (cutF d 0) (cutF d 8) k).2 (t*8%(d.length - 8)+j))):=⟨_,rfl⟩
 have he19:(cArr 16).enc X=(cArr 16).enc (aeD l (bothF (countF ((unR (aeD l) (d.length - 8) (6*((d.length - 8) / 8)) (cutF d 0) (cutF d 8) k).1) (t+1)) (cutF ((o.take (t*8%(d.length - 8)+8)).drop (t*8%(d.length - 8))) 0))):=arr_congr (fun j hj=>hX ▸ (aeD_E16 l (both_E16 (fun _ _=>rfl) (fun j hj=>part_known0 hoP hat j hj)) j hj).symm)
 replace hH:HH w0 [] [E3,[bl g5 103 ((cArr 256).enc (bk boxF 256))],[bl g11 84 ((cArr 8).enc ((unR (aeD l) (d.length - 8) (6*((d.length - 8) / 8)) (cutF d 0) (cutF d 8) k).1))],[bl g12 5 cu],[bl g18 51 ((cArr 16).enc X)]] w:=by rw [he19]; exact hH
 refine zr (zv (v:=(.slice (some ⟨g18,0,none⟩) 8 16)) (fun _ _ hF=>opSliceAH (m:=16) (h:=8) (e:=5) (sz:=1) rfl (by kernel_rfl) (by kernel_rfl) (hF.ev 0 rfl) rfl rfl (by omega)) 2 ?_)
 refine zv (v:=(.pointer (some ⟨g18,0,none⟩))) (fun _ _ hF=>opToArray (m:=8) (e:=5) rfl (by kernel_rfl) (hF.ev 0 rfl) (by omega)) 1 ?_
 refine zs (hH.q 4 rfl) (.ld (cArr 8) (cutF ((lst 16 X).take 8) 0) (fun _ hS=>(((holdsL_arr hS).cut 0 8).arr 0 8 (by first | omega | (rw [lst_len]; omega) | (simp only [List.length_drop,List.length_take,lst_len]; omega) | (simp only [List.length_drop,List.length_take]; omega))))) 1 ?_
 refine ze0 2 hH rfl (.sw (cArr 8) ((unR (aeD l) (d.length - 8) (6*((d.length - 8) / 8)) (cutF d 0) (cutF d 8) k).1) (cutF ((lst 16 X).take 8) 0)) trivial ?_
 clear hH
 rintro _ _ w rfl hH
 refine zn (cxReg (zv .mv 5 ?_))
 refine zv (v:=(.slice (some ⟨g18,0+8*1,none⟩) (16 - 8) (16 - 8))) (fun _ _ hF=>opSliceAL (m:=16) (l:=8) (e:=5) (sz:=1) rfl (by kernel_rfl) (by kernel_rfl) (hF.ev 1 rfl) rfl rfl (by omega)) 2 ?_
 obtain ⟨cur21,hcs22,hB20⟩:∃ cs,putL cu (0+(t*8%(d.length - 8))*1) (flat cByte ((lst 16 X).drop 8))=cs∧Bk cByte (d.length - 8) cs (o.take (t*8%(d.length - 8))++(((lst 16 X).drop 8)++o.drop (t*8%(d.length - 8)+((lst 16 X).drop 8).length))):=⟨_,rfl,hB.copy (t*8%(d.length - 8)) ((lst 16 X).drop 8) (by rw [List.length_drop,lst_len]; omega)⟩
 refine ze 3 hH rfl (fun _ hF=>smCopyT (C:=cByte) (m:=((lst 16 X).drop 8)) (e:=5) rfl (by kernel_rfl) (by kernel_rfl) (ltb rfl) (hF.ev 1 rfl) (hF.ev 0 rfl) (by omega) (by rw [List.length_drop,lst_len]) (room_cp hB (k:=t*8%(d.length - 8)) (n:=16 - 8) (by omega)) hcs22) (cutA_some (sz:=1) (b:=g18) (off:=0) (c:=16) (k:=8) (by omega) ▸ ((vu_arr (hH.blk 4 rfl)).from (k:=8) (by omega))) 3 ?_
 clear hH
 rintro _ _ w ⟨rfl,rfl⟩ hH
 refine pxEnd (qxInN (qxThen (cxReg (zv .mv 3 ?_))))
 refine zv (.sub ((((6*((d.length - 8) / 8)) - (k+1)):Nat):Int)) 1 ?_
 refine zv .mv 1 ?_
 refine pxEnd ?_
 replace hH:HH w0 [] [E3,[bl g5 103 ((cArr 256).enc (bk boxF 256))],[bl g11 84 ((cArr 8).enc (cutF ((lst 16 X).take 8) 0))],[bl g12 5 cur21]] w:=hH.only [true,true,true,true,false]
 have hS:unR (aeD l) (d.length - 8) (6*((d.length - 8) / 8)) (cutF d 0) (cutF d 8) (k+1)=(X,cpy (t*8%(d.length - 8)) 8 (unR (aeD l) (d.length - 8) (6*((d.length - 8) / 8)) (cutF d 0) (cutF d 8) k).2 fun j=>X (8+j)):=by rw [unR_succ]; unfold unB; rw [ht,hX]; rfl
 have he23:(cArr 8).enc ((unR (aeD l) (d.length - 8) (6*((d.length - 8) / 8)) (cutF d 0) (cutF d 8) (k+1)).1)=(cArr 8).enc (cutF ((lst 16 X).take 8) 0):=arr_congr (fun j hj=>by rw [hS]; exact head8 X j hj)
 replace hH:HH w0 [] [E3,[bl g5 103 ((cArr 256).enc (bk boxF 256))],[bl g11 84 ((cArr 8).enc ((unR (aeD l) (d.length - 8) (6*((d.length - 8) / 8)) (cutF d 0) (cutF d 8) (k+1)).1))],[bl g12 5 cur21]] w:=by rw [he23]; exact hH
 exact zR3 (k+1) (o.take (t*8%(d.length - 8))++(((lst 16 X).drop 8)++o.drop (t*8%(d.length - 8)+((lst 16 X).drop 8).length))) cur21 ⟨hH,(by omega),(by rw [put_len (by omega)]; exact hol),(fun j hj=>by rw [hS]; exact put_part0 hol hat hoP j hj),hB20⟩ (by omega)
 refine cxExit (qxThenE (qxThenE (qxInE (qxThen (cxSeq ?_)))))
 obtain rfl:k=(6*((d.length - 8) / 8)):=by omega
 refine zx ?_
 replace hH:=hH.drew
 refine rld 0 (hH.q 2 rfl) (.ld (cArr 8) ((unR (aeD l) (d.length - 8) (6*((d.length - 8) / 8)) (cutF d 0) (cutF d 8) (6*((d.length - 8) / 8))).1) (fun _ hS=>(holds_blk0 hS))) 59 ?_
 refine rx1k 1 (rpc 1 Tryz.func57 (start_c ) trivial hH 0 (.keep (.nil _ [])) ?_)
 clear hH
 intro w hH
 refine ⟨pcons (hH.blk 2 rfl) pnil,?_⟩
 refine rv 2 (v:=(.bool (decide (lst 8 (unS l d).1≠lst 8 ini8)))) (fun _ _ hF=>opNeA (n:=8) (e:=5) (f:=(unR (aeD l) (d.length - 8) (6*((d.length - 8) / 8)) (cutF d 0) (cutF d 8) (6*((d.length - 8) / 8))).1) (g:=(fun _=>166)) rfl (by kernel_rfl) (by kernel_rfl) (by kernel_rfl) (hF.ev 1 rfl) (hF.ev 0 rfl) (by kernel_rfl) Iff.rfl) 3 ?_
 refine rn ?_
 refine zP (fun hc24 => ?_) (fun hc24 => ?_)
 refine zr (zv .mv 3 ?_)
 refine zv .mv 0 ?_
 refine zn (cxRet (qxThenR ?_))
 refine qxRet2 1 0 rfl rfl rfl ?_
 have he:unE l d=5:=if_neg hc24
 have hl:unL l d=[]:=if_neg hc24
 exact ⟨_,_,rfl,⟨_,by rw [he]; rfl,hl ▸ OwnT.nil _ _⟩,HH.out (HH.pad hH 1) [false,false,false,false,true]⟩
 refine cxSkip (qxThen (zr (zv .mv 3 ?_)))
 refine zv .mv 1 ?_
 refine zv .mv 0 ?_
 refine zn (cxRet (qxRet2 1 0 rfl rfl rfl ?_))
 have hz:=Decidable.not_not.1 hc24
 have he:unE l d=0:=if_pos hz
 have hl:unL l d=lst (d.length - 8) (unS l d).2:=if_pos hz
 have hfin:=hB
 rw [lst_of_known hoP hol] at hfin
 exact ⟨_,_,rfl,⟨_,by rw [he]; rfl,hl ▸ hfin.own 5 g12 (lst_len _ _)⟩,hH.out1 [false,false,false,true] rfl⟩
end Go.Proofs.YtajppfmjbkebfaaGreatDoor

namespace Go.Proofs.YtajppfmjbkebfaaGreatDoor
open Go Go.RowKit
def bodyL (p u:Bt) (w:List UInt8):List UInt8:=[6,33,6]++(lst 32 p++([25]++(lst 32 u++([40]++w))))
theorem bodyL_is (p u:Bt) (w:List UInt8):[[6,33,6],lst 32 p,[25],lst 32 u,[40],w].flatten=bodyL p u w:=by
 unfold bodyL
 simp only [List.flatten_cons,List.flatten_nil,List.append_nil]
theorem bodyL_len (p u:Bt) (w:List UInt8):(bodyL p u w).length=69+w.length:=by
 unfold bodyL
 simp only [List.length_append,List.length_cons,List.length_nil,lst_len]
 omega
theorem lst_cut {l:List UInt8} {n:Nat} (h:l.length=n):lst n (cutF l 0)=l:=(lst_of_known (fun _ hj=>getD_some (by omega)) h).symm
theorem lst_drop {l:List UInt8} {n k:Nat} (h:l.length=k+n):lst n (cutF l k)=l.drop k:=(lst_of_known (fun j hj=>by rw [List.getElem?_drop]; exact cut_at8 (by omega)) (by rw [List.length_drop]; omega)).symm
theorem wrapL_len (l d:List UInt8):(wrapL l d).length=8+d.length:=by unfold wrapL; rw [List.length_append,lst_len,lst_len]
theorem unE_5 {l d:List UInt8} (h:unE l d≠0):unE l d=5:=by
 unfold unE at h ⊢
 by_cases hh:lst 8 (unS l d).1=lst 8 ini8
 ·rw [if_pos hh] at h; exact absurd rfl h
 ·rw [if_neg hh]
theorem unL_len {l d:List UInt8} (h:unE l d=0):(unL l d).length=d.length - 8:=by
 unfold unE at h
 unfold unL
 by_cases hh:lst 8 (unS l d).1=lst 8 ini8
 ·rw [if_pos hh,lst_len]
 ·rw [if_neg hh] at h; cases h
abbrev Ct:=Nat×Bt×Bt×Bt
def pr1 (ct:Ct):Bt:=fun j=>ct.2.2.2 (32*1+j)
def skE (d:Bt) (ct:Ct):Nat:=shE (xMulB d ct.2.2.1)
def skW (S d:Bt) (ct:Ct):List UInt8:=wrapL (kekL (xPub d) ct.2.2.1 (xMulB d ct.2.2.1)) (lst 32 S)
theorem skW_len (S d:Bt) (ct:Ct):(skW S d ct).length=40:=by unfold skW; rw [wrapL_len,lst_len]
def skL (S:Bt) (ct:Ct) (d:Bt):List UInt8:=if skE d ct=0 then bodyL (pr1 ct) (xPub d) (skW S d ct) else []
def isB (l:List UInt8):Prop:=l.length=109∧l=bodyL (cutF l 3) (cutF l 36) (l.drop 69)
instance (l:List UInt8):Decidable (isB l):=by unfold isB; infer_instance
def opR (l:List UInt8) (k:Bt) (ct:Ct):Bt×Nat :=
 if isB l then
  if lst 32 (cutF l 3)=lst 32 (pr1 ct) then
   if shE (xMulB k (cutF l 36))=0 then
    if unE (kekL (cutF l 36) (xPub k) (xMulB k (cutF l 36))) (l.drop 69)=0 then (cutF (unL (kekL (cutF l 36) (xPub k) (xMulB k (cutF l 36))) (l.drop 69)) 0,0) else (fun _=>0,5)
   else (fun _=>0,2)
  else (fun _=>0,3)
 else (fun _=>0,2)
def uwV (K:Bt) (m:List UInt8):Bt:=if unE (lst 16 K) m=0 then cutF (unL (lst 16 K) m) 0 else fun _=>0
theorem shE_2 {r:Bt} (h:shE r≠0):shE r=2:=by
 unfold shE at h ⊢
 by_cases hh:lst 32 r=lst 32 (fun _=>0)
 ·rw [if_pos hh]
 ·rw [if_neg hh] at h; exact absurd rfl h
end Go.Proofs.YtajppfmjbkebfaaGreatDoor

namespace Go.Proofs.YtajppfmjbkebfaaGreatDoor
open Go Go.RowKit
set_option maxRecDepth 100000
abbrev cSe:Cod (Bt×Bt×Bt):=cPair (cArr 32) (cPair (cArr 32) (cArr 40))
theorem wrapn_c (A:Option Addr) (n z:Nat) (l:List UInt8) (hn:l.length=n) (hk:l.length=16 ∨ l.length=32) (B:Option Addr) (m y:Nat) (d:List UInt8) (hm:d.length=m) (hd:16≤d.length∧d.length≤128) (h8:d.length%8=0):Does Tryz.prog 32 #[.slice A n z,.slice B m y] [] (fun w=>w.heap[0]?=some (.cells ((cArr 256).enc boxF) 103 (0,0))∧Vu cByte w A n z l∧Vu cByte w B m y d) (fun v E' => ∃ s,v=.tuple #[s,.int .i64 0]∧OwnT cByte 5 s (wrapL l d) E'):=by
 subst hn hm; exact wrap_c A z l hk B y d hd h8
theorem unwrapn_c (A:Option Addr) (n z:Nat) (l:List UInt8) (hn:l.length=n) (hk:l.length=16 ∨ l.length=32) (B:Option Addr) (m y:Nat) (d:List UInt8) (hm:d.length=m) (hd:24≤d.length∧d.length≤136) (h8:d.length%8=0):Does Tryz.prog 49 #[.slice A n z,.slice B m y] [] (fun w=>w.heap[0]?=some (.cells ((cArr 256).enc boxF) 103 (0,0))∧Vu cByte w A n z l∧Vu cByte w B m y d) (fun v E' => ∃ s,v=.tuple #[s,.int .i64 ((unE l d:Nat):Int)]∧OwnT cByte 5 s (unL l d) E'):=by
 subst hn hm; exact unwrap_c A z l hk B y d hd h8
theorem wrapKey_c (a b c:Nat→UInt8):Pure Tryz.prog 16 #[((cArr 32).val a),((cArr 32).val b),((cArr 32).val c)] (fun w=>w.heap[3]?=some (.cells ((cWs 64).enc K32) 119 (0,0))∧w.heap[2]?=some (.cells ((cWs 8).enc H32) 118 (0,0))) ((cArr 16).val (cutF (kekL a b c) 0)):=by
 refine pure_of (fn:=Tryz.f16) Tryz.func16 rfl Tryz.ntmps16 (Nat.le_of_ble_eq_true rfl) rfl ?_
 intro w0 hH hR
 refine zr (zm hH (.bx (cArr 32) a) trivial 1 ?_)
 clear hH
 rintro _ _ w ⟨g1,rfl,rfl⟩ hH
 refine zm hH (.bx (cArr 32) b) trivial 2 ?_
 clear hH
 rintro _ _ w ⟨g2,rfl,rfl⟩ hH
 refine zm hH (.bx (cArr 32) c) trivial 4 ?_
 clear hH
 rintro _ _ w ⟨g3,rfl,rfl⟩ hH
 refine zm hH (.al (cArr 16) (fun _=>0)) trivial 0 ?_
 clear hH
 rintro _ _ w ⟨g4,rfl,rfl⟩ hH
 refine zn (zx ?_)
 replace hH:=hH.drew
 refine rv 0 (v:=(.slice (some ⟨g1,0,none⟩) 32 32)) (fun _ _ hF=>opSliceA (n:=32) (e:=5) (sz:=1) rfl (by kernel_rfl) (by kernel_rfl) (hF.ev 3 rfl)) 8 ?_
 refine rv 1 (v:=(.slice (some ⟨g2,0,none⟩) 32 32)) (fun _ _ hF=>opSliceA (n:=32) (e:=5) (sz:=1) rfl (by kernel_rfl) (by kernel_rfl) (hF.ev 3 rfl)) 8 ?_
 refine rv 2 (v:=(.slice (some ⟨g3,0,none⟩) 32 32)) (fun _ _ hF=>opSliceA (n:=32) (e:=5) (sz:=1) rfl (by kernel_rfl) (by kernel_rfl) (hF.ev 3 rfl)) 8 ?_
 refine rx1k 3 ?_
 refine rm 3 hH (fun _ hF=>smLits (C:=cSl) (e:=27) (z:=(.slice none 0 0)) (by_:=24) [((some ⟨g1,0,none⟩),32,32),((some ⟨g2,0,none⟩),32,32),((some ⟨g3,0,none⟩),32,32)] rfl (by kernel_rfl) (by kernel_rfl) (EvP.cons (v:=cSl.val ((some ⟨g1,0,none⟩),32,32)) (hF.ev 2 rfl) (EvP.cons (v:=cSl.val ((some ⟨g2,0,none⟩),32,32)) (hF.ev 1 rfl) (EvP.cons (v:=cSl.val ((some ⟨g3,0,none⟩),32,32)) (hF.ev 0 rfl) EvP.nil))) rfl (ltb rfl) (leb rfl) rfl) trivial 7 (.nil _ []) ?_
 clear hH
 rintro _ _ w ⟨g5,rfl,rfl⟩ hH
 refine ⟨pnil,rx1k 4 ?_⟩
 refine rm 4 hH (.call Tryz.func33 ((cat3 (some ⟨g5,0,none⟩) 3 [((some ⟨g1,0,none⟩),32,32),((some ⟨g2,0,none⟩),32,32),((some ⟨g3,0,none⟩),32,32)] (lst 32 a) (lst 32 b) (lst 32 c) (by rw [lst_len,lst_len,lst_len]; decide)))) (⟨((Bk.lits (C:=cSl) [((some ⟨g1,0,none⟩),32,32),((some ⟨g2,0,none⟩),32,32),((some ⟨g3,0,none⟩),32,32)] (by show 3≤_; unfold maxLen; decide)).vu (n:=3) (hH.blk 4 rfl) rfl),(.cons (vu_arr (hH.blk 0 rfl)) (.cons (vu_arr (hH.blk 1 rfl)) (.cons (vu_arr (hH.blk 2 rfl)) ViewsL.nil)))⟩) 1 (.nil _ []) ?_
 clear hH
 rintro v10 E6 w hO7 hH
 obtain ⟨A8,c9,rfl⟩:=hO7.slice
 refine ⟨pnil,rv 5 .mv 1 ?_⟩
 refine rn ?_
 refine zr (zv .mv 1 ?_)
 refine zm hH (fun _ hF=>smLits (C:=cByte) (e:=5) (z:=(.int .u8 0)) (by_:=1) [79,112,101,110,80,71,80,32,88,50,53,53,49,57] rfl (by kernel_rfl) (by kernel_rfl) (EvP.cons (v:=cByte.val 79) rfl (EvP.cons (v:=cByte.val 112) rfl (EvP.cons (v:=cByte.val 101) rfl (EvP.cons (v:=cByte.val 110) rfl (EvP.cons (v:=cByte.val 80) rfl (EvP.cons (v:=cByte.val 71) rfl (EvP.cons (v:=cByte.val 80) rfl (EvP.cons (v:=cByte.val 32) rfl (EvP.cons (v:=cByte.val 88) rfl (EvP.cons (v:=cByte.val 50) rfl (EvP.cons (v:=cByte.val 53) rfl (EvP.cons (v:=cByte.val 53) rfl (EvP.cons (v:=cByte.val 49) rfl (EvP.cons (v:=cByte.val 57) rfl EvP.nil)))))))))))))) rfl (ltb rfl) (leb rfl) rfl) trivial 0 ?_
 clear hH
 rintro _ _ w ⟨g12,rfl,rfl⟩ hH
 refine ze 6 hH rfl (fun _ hF=>smMark (e:=5) rfl (by kernel_rfl) (by kernel_rfl) (hF.ev 0 rfl)) trivial 1 ?_
 clear hH
 rintro _ _ w ⟨rfl,rfl⟩ hH
 refine zm hH (.call Tryz.func34 ((hkdf_c none 0 0 [] (by decide) A8 (((lst 32 a)++((lst 32 b)++(lst 32 c))).length) c9 ((lst 32 a)++((lst 32 b)++(lst 32 c))) (by simp only [List.length_append,lst_len]; decide) (some ⟨g12,0,none⟩) 14 14 ([79,112,101,110,80,71,80,32,88,50,53,53,49,57]) (by decide) 16 (by decide) (by decide)))) (⟨(hH.oldBlk hR.1 (by simp)),(hH.oldBlk hR.2 (by simp)),Vu.none _ _,(hO7.vuAt (hH.has 5 rfl)),((Bk.lits (C:=cByte) [79,112,101,110,80,71,80,32,88,50,53,53,49,57] (by show 14≤_; unfold maxLen; decide)).vuM (hH.blk 6 rfl) rfl)⟩) 3 ?_
 clear hH
 rintro v17 E13 w hO14 hH
 obtain ⟨q,hq⟩:∃ q,q=kekL a b c:=⟨_,rfl⟩
 replace hO14:OwnT cByte 5 v17 (kekL a b c) E13:=hO14
 rw [← hq] at hO14
 have hkl:q.length=16:=hq ▸ kekL_len a b c
 obtain ⟨A15,c16,rfl⟩:=hO14.slice
 obtain ⟨g19,cap20,cur21,hv23,rfl,hB22⟩:=hO14.open (by omega)
 obtain ⟨rfl,rfl⟩:A15=some ⟨g19,0,none⟩∧c16=cap20:=by injection hv23 with h1 h2 h3; exact ⟨h1,h3⟩
 have:=hB22.le
 refine zv (v:=(.pointer (some ⟨g19,0,none⟩))) (fun _ _ hF=>opToArray (m:=16) (e:=5) rfl (by kernel_rfl) (hF.ev 0 rfl) (by omega)) 1 ?_
 refine zs (hH.q 7 rfl) (.ld (cArr 16) (cutF q 0) (fun _ hS=>((hB22.holdsL hS).arr 0 16 (by first | omega | (rw [lst_len]; omega) | (simp only [List.length_drop,List.length_take,lst_len]; omega) | (simp only [List.length_drop,List.length_take]; omega))))) 1 ?_
 refine ze0 3 hH rfl (.sw (cArr 16) (fun _=>0) (cutF q 0)) trivial ?_
 clear hH
 rintro _ _ w rfl hH
 refine zn (cxRet (qxRetC 1 (hH.blk 3 rfl) rfl rfl (by kernel_rfl) (Cod.size _ _) (by kernel_rfl) ?_))
 exact ⟨by first | (rw [← hq]; rfl) | rw [← hq],HH.toBelow hH⟩
theorem wrap40_c (K S:Nat→UInt8):Pure Tryz.prog 15 #[((cArr 16).val K),((cArr 32).val S)] (fun w=>w.heap[0]?=some (.cells ((cArr 256).enc boxF) 103 (0,0))) ((cArr 40).val (cutF (wrapL (lst 16 K) (lst 32 S)) 0)):=by
 refine pure_of (fn:=Tryz.f15) Tryz.func15 rfl Tryz.ntmps15 (Nat.le_of_ble_eq_true rfl) rfl ?_
 intro w0 hH hR
 refine zr (zm hH (.bx (cArr 16) K) trivial 1 ?_)
 clear hH
 rintro _ _ w ⟨g1,rfl,rfl⟩ hH
 refine zm hH (.bx (cArr 32) S) trivial 2 ?_
 clear hH
 rintro _ _ w ⟨g2,rfl,rfl⟩ hH
 refine zm hH (.al (cArr 40) (fun _=>0)) trivial 0 ?_
 clear hH
 rintro _ _ w ⟨g3,rfl,rfl⟩ hH
 refine zn (zx ?_)
 replace hH:=hH.drew
 refine rv 0 (v:=(.slice (some ⟨g1,0,none⟩) 16 16)) (fun _ _ hF=>opSliceA (n:=16) (e:=5) (sz:=1) rfl (by kernel_rfl) (by kernel_rfl) (hF.ev 2 rfl)) 4 ?_
 refine rv 1 (v:=(.slice (some ⟨g2,0,none⟩) 32 32)) (fun _ _ hF=>opSliceA (n:=32) (e:=5) (sz:=1) rfl (by kernel_rfl) (by kernel_rfl) (hF.ev 2 rfl)) 4 ?_
 refine rx1k 2 ?_
 refine rm 2 hH (.call Tryz.func32 ((wrapn_c (some ⟨g1,0,none⟩) 16 16 (lst 16 K) (lst_len _ _) (.inl (lst_len _ _)) (some ⟨g2,0,none⟩) 32 32 (lst 32 S) (lst_len _ _) (by rw [lst_len]; decide) (by rw [lst_len])))) (⟨(hH.oldBlk hR (by simp)),(vu_arr (hH.blk 0 rfl)),(vu_arr (hH.blk 1 rfl))⟩) 3 (.nil _ []) ?_
 clear hH
 rintro _ E4 w ⟨s8,rfl,hO5⟩ hH
 obtain ⟨A6,c7,rfl⟩:=hO5.slice
 refine ⟨pnil,rv 3 .mv 1 ?_⟩
 refine rv 4 .ext 0 ?_
 refine rv 5 .ext 2 ?_
 refine rv 6 .mv 2 ?_
 refine rv 7 .mv 2 ?_
 refine rn ?_
 have hwl:(wrapL (lst 16 K) (lst 32 S)).length=40:=by rw [wrapL_len,lst_len]
 refine zr (zv .mv 3 ?_)
 obtain ⟨g10,cap11,cur12,hv14,rfl,hB13⟩:=hO5.open (by omega)
 obtain ⟨rfl,rfl⟩:A6=some ⟨g10,0,none⟩∧c7=cap11:=by injection hv14 with h1 h2 h3; exact ⟨h1,h3⟩
 have:=hB13.le
 refine zv (v:=(.pointer (some ⟨g10,0,none⟩))) (fun _ _ hF=>opToArray (m:=40) (e:=5) rfl (by kernel_rfl) (hF.ev 0 rfl) (by omega)) 1 ?_
 refine zs (hH.q 3 rfl) (.ld (cArr 40) (cutF (wrapL (lst 16 K) (lst 32 S)) 0) (fun _ hS=>((hB13.holdsL hS).arr 0 40 (by first | omega | (rw [lst_len]; omega) | (simp only [List.length_drop,List.length_take,lst_len]; omega) | (simp only [List.length_drop,List.length_take]; omega))))) 1 ?_
 refine ze0 2 hH rfl (.sw (cArr 40) (fun _=>0) (cutF (wrapL (lst 16 K) (lst 32 S)) 0)) trivial ?_
 clear hH
 rintro _ _ w rfl hH
 refine zn (cxRet (qxRetC 1 (hH.blk 2 rfl) rfl rfl (by kernel_rfl) (Cod.size _ _) (by kernel_rfl) ?_))
 exact ⟨rfl,HH.toBelow hH⟩
theorem unwrap40_c (K:Nat→UInt8) (A:Option Addr) (n c:Nat) (m:List UInt8) (hn:n=40):Pure Tryz.prog 29 #[((cArr 16).val K),(.slice A n c)] (fun w=>w.heap[0]?=some (.cells ((cArr 256).enc boxF) 103 (0,0))∧Vu cByte w A n c m) (.tuple #[(cArr 32).val (uwV K m),.int .i64 ((unE (lst 16 K) m:Nat):Int)]):=by
 refine pure_of (fn:=Tryz.f29) Tryz.func29 rfl Tryz.ntmps29 (Nat.le_of_ble_eq_true rfl) rfl ?_
 intro w0 hH hR
 have hml:=hR.2.len
 refine zr (zm hH (.bx (cArr 16) K) trivial 1 ?_)
 clear hH
 rintro _ _ w ⟨g1,rfl,rfl⟩ hH
 refine zm hH (.al (cArr 32) (fun _=>0)) trivial 0 ?_
 clear hH
 rintro _ _ w ⟨g2,rfl,rfl⟩ hH
 refine zv .mv 0 ?_
 refine zn (zr (zv (v:=(.slice (some ⟨g1,0,none⟩) 16 16)) (fun _ _ hF=>opSliceA (n:=16) (e:=5) (sz:=1) rfl (by kernel_rfl) (by kernel_rfl) (hF.ev 2 rfl)) 5 ?_))
 refine zv .mv 4 ?_
 refine zm hH (.call Tryz.func49 ((unwrapn_c (some ⟨g1,0,none⟩) 16 16 (lst 16 K) (lst_len _ _) (.inl (lst_len _ _)) A n c m hR.2.len (by omega) (by omega)))) (⟨(hH.oldBlk hR.1 (by simp)),(vu_arr (hH.blk 0 rfl)),(hH.vu hR.2 (by decide) (Off.nil _ _))⟩) 3 ?_
 clear hH
 rintro _ E3 w ⟨s7,rfl,hO4⟩ hH
 obtain ⟨A5,c6,rfl⟩:=hO4.slice
 refine zv .mv 1 ?_
 refine zv .ext 0 ?_
 refine zv .ext 2 ?_
 refine zv .mv 2 ?_
 refine zv .mv 2 ?_
 refine zn (cxSeq (zr (zv .mv 1 ?_)))
 refine zv (.ne (unE (lst 16 K) m≠0)) 1 ?_
 refine zv .mv 1 ?_
 refine pxSplitP 0 rfl (l1:=[(16,(.bool true)),(6,(.slice A5 ((unL (lst 16 K) m).length) c6)),(4,(.pointer (some ⟨g2,0,none⟩)))]) (l2:=[(16,(.bool false)),(6,(.slice A5 ((unL (lst 16 K) m).length) c6)),(4,(.pointer (some ⟨g2,0,none⟩)))]) rfl rfl (fun hg9 => ?_) (fun hg9 => ?_)
 refine pxU rfl (gOff 0 rfl rfl rfl (by decide)) (kA rfl) (by decide) ?_
 refine pxU rfl (gOff 0 rfl rfl rfl (by decide)) (kA rfl) (by decide) ?_
 refine pxU rfl (gOff 0 rfl rfl rfl (by decide)) (kA rfl) (by decide) ?_
 refine zv (v:=(.bool true)) (fun _ _ hF=>opPickT rfl (hF.ev 0 rfl) rfl) 1 ?_
 refine zn (zT ?_)
 refine zr (zv (v:=((cArr 32).val (fun _=>0))) (fun _ _ hF=>opBuildP (cells:=(cArr 32).enc (fun _=>0)) (vals:=[]) rfl EvP.nil (by kernel_rfl) _) 3 ?_)
 refine ze0 1 hH rfl (.sw (cArr 32) (fun _=>0) (fun _=>0)) trivial ?_
 clear hH
 rintro _ _ w rfl hH
 refine zv .mv 1 ?_
 refine zn (cxRet (qxThenR ?_))
 refine qxRetCT 1 0 (hH.blk 1 rfl) rfl rfl rfl (by kernel_rfl) (Cod.size _ _) (by kernel_rfl) ?_
 have he:=unE_5 hg9
 have hv:uwV K m=fun _=>0:=if_neg hg9
 exact ⟨by rw [he,hv]; rfl,HH.toBelow hH⟩
 refine pxV (v:=(.slice A5 ((unL (lst 16 K) m).length) c6)) (fun _ _ hF=>opMove rfl (hF.ev 1 rfl)) rfl (gOn 0 rfl rfl rfl (by decide)) (kA rfl) (by decide) ?_
 refine pxV (v:=(.int .i64 ((((unL (lst 16 K) m).length):Nat):Int))) (fun _ _ hF=>opLen (e:=5) rfl (by kernel_rfl) (hF.ev 0 rfl)) rfl (gOn 1 rfl rfl rfl (by decide)) (kM [false,true,true,true] rfl rfl) (by decide) ?_
 refine pxV (v:=(.bool false)) (fun _ _ hF=>opNeI rfl (hF.ev 0 rfl) rfl (decide_eq_false (by rw [unL_len (Decidable.not_not.1 hg9)]; omega))) rfl (gOn 1 rfl rfl rfl (by decide)) (kM [false,true,true,true] rfl rfl) (by decide) ?_
 refine zv (v:=(.bool false)) (fun _ _ hF=>opPickF rfl (hF.ev 1 rfl) (hF.ev 0 rfl)) 3 ?_
 refine zn (zF ?_)
 refine cxSkip (qxThen ?_)
 have hwl:(unL (lst 16 K) m).length=32:=by rw [unL_len (Decidable.not_not.1 hg9)]; omega
 refine zr (zv .mv 3 ?_)
 obtain ⟨g10,cap11,cur12,hv14,rfl,hB13⟩:=hO4.open (by omega)
 obtain ⟨rfl,rfl⟩:A5=some ⟨g10,0,none⟩∧c6=cap11:=by injection hv14 with h1 h2 h3; exact ⟨h1,h3⟩
 have:=hB13.le
 refine zv (v:=(.pointer (some ⟨g10,0,none⟩))) (fun _ _ hF=>opToArray (m:=32) (e:=5) rfl (by kernel_rfl) (hF.ev 0 rfl) (by omega)) 1 ?_
 refine zs (hH.q 2 rfl) (.ld (cArr 32) (cutF (unL (lst 16 K) m) 0) (fun _ hS=>((hB13.holdsL hS).arr 0 32 (by first | omega | (rw [lst_len]; omega) | (simp only [List.length_drop,List.length_take,lst_len]; omega) | (simp only [List.length_drop,List.length_take]; omega))))) 1 ?_
 refine ze0 1 hH rfl (.sw (cArr 32) (fun _=>0) (cutF (unL (lst 16 K) m) 0)) trivial ?_
 clear hH
 rintro _ _ w rfl hH
 refine zv .mv 1 ?_
 refine zn (cxRet (qxRetCT 1 0 (hH.blk 1 rfl) rfl rfl rfl (by kernel_rfl) (Cod.size _ _) (by kernel_rfl) ?_))
 have he:=Decidable.not_not.1 hg9
 have hv:uwV K m=cutF (unL (lst 16 K) m) 0:=if_pos he
 exact ⟨by rw [he,hv]; rfl,HH.toBelow hH⟩
theorem bytesEq_c (A:Option Addr) (n c:Nat) (l:List UInt8) (B:Option Addr) (m d:Nat) (x:List UInt8):Pure Tryz.prog 48 #[(.slice A n c),(.slice B m d)] (fun w=>Vu cByte w A n c l∧Vu cByte w B m d x) (.bool (decide (l=x))):=by
 refine pure_of (fn:=Tryz.f48) Tryz.func48 rfl Tryz.ntmps48 (Nat.le_of_ble_eq_true rfl) rfl ?_
 intro w0 hH hR
 refine zr (zv .mv 0 ?_)
 refine zn (zr (zv .mv 3 ?_))
 refine zs (S:=fun w=>Vu cByte w A n c l) (hH.vu hR.1 (by decide) (Off.nil _ _)) (v:=(.string (strL l))) (fun _ _ hF hS=>opStr (e:=5) rfl (by kernel_rfl) (by kernel_rfl) (by kernel_rfl) (hF.ev 0 rfl) hS) 1 ?_
 refine zv .mv 2 ?_
 refine zs (S:=fun w=>Vu cByte w B m d x) (hH.vu hR.2 (by decide) (Off.nil _ _)) (v:=(.string (strL x))) (fun _ _ hF hS=>opStr (e:=5) rfl (by kernel_rfl) (by kernel_rfl) (by kernel_rfl) (hF.ev 0 rfl) hS) 1 ?_
 refine zv (v:=(.bool (decide (l=x)))) (fun _ _ hF=>opEqL (l:=l) (m:=x) rfl (hF.ev 1 rfl) (hF.ev 0 rfl) Iff.rfl) 3 ?_
 refine zv .mv 1 ?_
 refine zn (cxRet (qxRet1 0 rfl rfl ?_))
 exact ⟨rfl,HH.toBelow hH⟩
theorem body_c (s:Bt×Bt×Bt):Does Tryz.prog 17 #[(cSe.val s)] [] (fun _=>True) (fun v E'=>OwnT cByte 5 v (bodyL s.1 s.2.1 (lst 40 s.2.2)) E'):=by
 refine does_of (fn:=Tryz.f17) Tryz.func17 rfl Tryz.ntmps17 (Nat.le_of_ble_eq_true rfl) rfl ?_
 intro w0 hH hR
 replace hH:HH w0 [] [] w0:=hH.only [false]
 refine zr (zm hH (.bx cSe s) trivial 1 ?_)
 clear hH
 rintro _ _ w ⟨g1,rfl,rfl⟩ hH
 refine zv .mv 0 ?_
 refine zn (zx ?_)
 replace hH:=hH.drew
 refine rxPg 2 [mkv 0 3 [] [] (fun G g=>(.slice (some ⟨g,0,none⟩) 3 3)) fun G g=>[bl g 5 (flat cByte [6,33,6]).toArray],pv 1 4 [] [] fun G=>(.pointer (some ⟨g1,0,none⟩)),pv 2 5 [1] [] fun G=>(.slice (some ⟨g1,0,none⟩) 32 32),mkv 3 6 [] [] (fun G g=>(.slice (some ⟨g,0,none⟩) 1 1)) fun G g=>[bl g 5 (cByte.enc 25)],pv 4 7 [] [] fun G=>(.pointer (some ⟨g1,32,none⟩)),pv 5 8 [4] [] fun G=>(.slice (some ⟨g1,32,none⟩) 32 32),mkv 6 9 [] [] (fun G g=>(.slice (some ⟨g,0,none⟩) 1 1)) fun G g=>[bl g 5 (cByte.enc 40)],pv 7 10 [] [] fun G=>(.pointer (some ⟨g1,64,none⟩)),pv 8 11 [7] [] fun G=>(.slice (some ⟨g1,64,none⟩) 40 40),mkv 9 12 [0,2,3,5,6,8] [0,3,6] (fun G g=>(.slice (some ⟨g,0,none⟩) 6 6)) fun G g=>[bl g 27 (flat cSl [((some ⟨(G 0).g,0,none⟩),3,3),((some ⟨g1,0,none⟩),32,32),((some ⟨(G 3).g,0,none⟩),1,1),((some ⟨g1,32,none⟩),32,32),((some ⟨(G 6).g,0,none⟩),1,1),((some ⟨g1,64,none⟩),40,40)]).toArray]] (fun G=>[(12,(.slice (some ⟨(G 9).g,0,none⟩) 6 6)),(2,(.slice none 0 0))]) (fun G=>[[bl g1 49 (cSe.enc s)],[bl (G 0).g 5 (flat cByte [6,33,6]).toArray],[bl (G 3).g 5 (cByte.enc 25)],[bl (G 6).g 5 (cByte.enc 40)],[bl (G 9).g 27 (flat cSl [((some ⟨(G 0).g,0,none⟩),3,3),((some ⟨g1,0,none⟩),32,32),((some ⟨(G 3).g,0,none⟩),1,1),((some ⟨g1,32,none⟩),32,32),((some ⟨(G 6).g,0,none⟩),1,1),((some ⟨g1,64,none⟩),40,40)]).toArray]]) hH (.c (.a (fun _ _ _ _=>trivial) (fun G=>(fun _ hF=>smLits (C:=cByte) (e:=5) (z:=(.int .u8 0)) (by_:=1) [6,33,6] rfl (by kernel_rfl) (by kernel_rfl) (EvP.cons (v:=cByte.val 6) rfl (EvP.cons (v:=cByte.val 33) rfl (EvP.cons (v:=cByte.val 6) rfl EvP.nil))) rfl (ltb rfl) (leb rfl) rfl)) fun _ _ _ h=>h) <| .c (.v fun G=>(.fld 0)) <| .c (.v fun G=>(fun _ _ hF=>opSliceA (n:=32) (e:=5) (sz:=1) rfl (by kernel_rfl) (by kernel_rfl) (hF.ev 0 rfl))) <| .c (.a (fun _ _ _ _=>trivial) (fun G=>(fun _ hF=>smLit1 (e:=5) (sz:=1) (z:=(.int .u8 0)) (by_:=1) (cs:=cByte.enc 25) rfl (by kernel_rfl) (by kernel_rfl) rfl (cByte.len 25) (ltb rfl) (leb rfl) rfl)) fun _ _ _ h=>h) <| .c (.v fun G=>(.fld 32)) <| .c (.v fun G=>(fun _ _ hF=>opSliceA (n:=32) (e:=5) (sz:=1) rfl (by kernel_rfl) (by kernel_rfl) (hF.ev 0 rfl))) <| .c (.a (fun _ _ _ _=>trivial) (fun G=>(fun _ hF=>smLit1 (e:=5) (sz:=1) (z:=(.int .u8 0)) (by_:=1) (cs:=cByte.enc 40) rfl (by kernel_rfl) (by kernel_rfl) rfl (cByte.len 40) (ltb rfl) (leb rfl) rfl)) fun _ _ _ h=>h) <| .c (.v fun G=>(.fld 64)) <| .c (.v fun G=>(fun _ _ hF=>opSliceA (n:=40) (e:=5) (sz:=1) rfl (by kernel_rfl) (by kernel_rfl) (hF.ev 0 rfl))) <| .c (.a (fun _ _ _ _=>trivial) (fun G=>(fun _ hF=>smLits (C:=cSl) (e:=27) (z:=(.slice none 0 0)) (by_:=24) [((some ⟨(G 0).g,0,none⟩),3,3),((some ⟨g1,0,none⟩),32,32),((some ⟨(G 3).g,0,none⟩),1,1),((some ⟨g1,32,none⟩),32,32),((some ⟨(G 6).g,0,none⟩),1,1),((some ⟨g1,64,none⟩),40,40)] rfl (by kernel_rfl) (by kernel_rfl) (EvP.cons (v:=cSl.val ((some ⟨(G 0).g,0,none⟩),3,3)) (hF.ev 0 rfl) (EvP.cons (v:=cSl.val ((some ⟨g1,0,none⟩),32,32)) (hF.ev 1 rfl) (EvP.cons (v:=cSl.val ((some ⟨(G 3).g,0,none⟩),1,1)) (hF.ev 2 rfl) (EvP.cons (v:=cSl.val ((some ⟨g1,32,none⟩),32,32)) (hF.ev 3 rfl) (EvP.cons (v:=cSl.val ((some ⟨(G 6).g,0,none⟩),1,1)) (hF.ev 4 rfl) (EvP.cons (v:=cSl.val ((some ⟨g1,64,none⟩),40,40)) (hF.ev 5 rfl) EvP.nil)))))) rfl (ltb rfl) (leb rfl) rfl)) fun _ _ _ h=>h) <| .nil) ?_
 clear hH
 rintro G w - hH
 revert hH
 generalize (G 0).g=g2
 generalize (G 3).g=g3
 generalize (G 6).g=g4
 generalize (G 9).g=g5
 intro hH
 refine rx1k 10 ?_
 refine rm 10 hH (.call Tryz.func33 ((concat_c (some ⟨g5,0,none⟩) 6 6 [((some ⟨g2,0,none⟩),3,3),((some ⟨g1,0,none⟩),32,32),((some ⟨g3,0,none⟩),1,1),((some ⟨g1,32,none⟩),32,32),((some ⟨g4,0,none⟩),1,1),((some ⟨g1,64,none⟩),40,40)] [[6,33,6],(lst 32 s.1),[25],(lst 32 s.2.1),[40],(lst 40 s.2.2)] rfl (by decide) (by simp only [List.flatten_cons,List.flatten_nil,List.length_append,List.length_cons,List.length_nil,lst_len]; omega)))) (⟨((Bk.lits (C:=cSl) [((some ⟨g2,0,none⟩),3,3),((some ⟨g1,0,none⟩),32,32),((some ⟨g3,0,none⟩),1,1),((some ⟨g1,32,none⟩),32,32),((some ⟨g4,0,none⟩),1,1),((some ⟨g1,64,none⟩),40,40)] (by show 6≤_; unfold maxLen; decide)).vu (n:=6) (hH.blk 4 rfl) rfl),(.cons ((Bk.lits (C:=cByte) [6,33,6] (by show 3≤_; unfold maxLen; decide)).vu (n:=3) (hH.blk 1 rfl) rfl) (.cons (vu_holds (holds_blk0 (hH.blk 0 rfl)).fst) (.cons ((Bk.lit1 (C:=cByte) 25).vu (n:=1) (hH.blk 2 rfl) rfl) (.cons (vu_holds ((holds_blk0 (hH.blk 0 rfl)).snd).fst) (.cons ((Bk.lit1 (C:=cByte) 40).vu (n:=1) (hH.blk 3 rfl) rfl) (.cons (vu_holds ((holds_blk0 (hH.blk 0 rfl)).snd).snd) ViewsL.nil))))))⟩) 1 (.nil _ []) ?_
 clear hH
 rintro v10 E6 w hO7 hH
 obtain ⟨A8,c9,rfl⟩:=hO7.slice
 refine ⟨pnil,rv 11 .mv 3 ?_⟩
 refine rn ?_
 refine cxRet (qxRet1 0 rfl rfl ?_)
 exact ⟨_,_,rfl,bodyL_is _ _ _ ▸ hO7,hH.out1 [false,false,false,false,false,true] rfl⟩
def rbV (l:List UInt8):Bt×Bt×Bt:=if isB l then (cutF l 3,cutF l 36,cutF l 69) else (fun _=>0,fun _=>0,fun _=>0)
theorem readBody_c (A:Option Addr) (n c:Nat) (l:List UInt8):Pure Tryz.prog 28 #[(.slice A n c)] (fun w=>Vu cByte w A n c l) (.tuple #[cSe.val (rbV l),.bool (decide (isB l))]):=by
 refine pure_of (fn:=Tryz.f28) Tryz.func28 rfl Tryz.ntmps28 (Nat.le_of_ble_eq_true rfl) rfl ?_
 intro w0 hH hR
 have hll:=hR.len
 refine zr (zm hH (.al cSe (fun _=>0,fun _=>0,fun _=>0)) trivial 0 ?_)
 clear hH
 rintro _ _ w ⟨g1,rfl,rfl⟩ hH
 refine zv .mv 0 ?_
 refine zn (cxSeq (zr (zv .mv 1 ?_)))
 refine zv .len 1 ?_
 refine zv (.ne (n≠109)) 1 ?_
 refine zn ?_
 refine zP (fun hc2 => ?_) (fun hc2 => ?_)
 refine zr (zv (v:=(cSe.val (fun _=>0,fun _=>0,fun _=>0))) (fun _ _ hF=>opBuildP (cells:=cSe.enc (fun _=>0,fun _=>0,fun _=>0)) (vals:=[]) rfl EvP.nil (by kernel_rfl) _) 5 ?_)
 refine ze0 0 hH rfl (.sw cSe (fun _=>0,fun _=>0,fun _=>0) (fun _=>0,fun _=>0,fun _=>0)) trivial ?_
 clear hH
 rintro _ _ w rfl hH
 refine zv .mv 1 ?_
 refine zn (cxRet (qxThenR ?_))
 refine qxRetCT 1 0 (hH.blk 0 rfl) rfl rfl rfl (by kernel_rfl) (Cod.size _ _) (by kernel_rfl) ?_
 have hb:¬ isB l:=fun hb=>hc2 (by rw [← hll]; exact hb.1)
 have he:rbV l=(fun _=>0,fun _=>0,fun _=>0):=if_neg hb
 exact ⟨by rw [he,decide_eq_false hb]; rfl,HH.toBelow hH⟩
 refine cxSkip (qxThen ?_)
 obtain ⟨b3,off4,rfl,hL5,hb6,hR7⟩:=hR.blk (by decide) (Off.nil _ _) (by omega)
 have:=hR.cap
 refine zx ?_
 replace hH:=hH.drew
 refine rv 0 .mv 1 ?_
 refine rv 1 (v:=(.slice (some ⟨b3,off4+3*1,none⟩) (n - 3) (c - 3))) (fun _ _ hF=>opSlcL (k:=3) (e:=5) (sz:=1) rfl (by kernel_rfl) (by kernel_rfl) (hF.ev 0 rfl) rfl rfl (by omega) (by omega)) 1 ?_
 refine rv 2 (v:=(.pointer (some ⟨b3,off4+3*1,none⟩))) (fun _ _ hF=>opToArray (m:=32) (e:=5) rfl (by kernel_rfl) (hF.ev 0 rfl) (by omega)) 1 ?_
 refine rld 3 (S:=fun w=>HoldsL cByte w b3 off4 l) (hH.holdsL hL5 hb6 hR7) (.ld (cArr 32) (cutF l 3) (fun _ hS=>(hS.arr 3 32 (by first | omega | (rw [lst_len]; omega) | (simp only [List.length_drop,List.length_take,lst_len]; omega) | (simp only [List.length_drop,List.length_take]; omega))))) 1 ?_
 refine rv 4 .mv 0 ?_
 refine rv 5 (v:=(.slice (some ⟨b3,off4+36*1,none⟩) (n - 36) (c - 36))) (fun _ _ hF=>opSlcL (k:=36) (e:=5) (sz:=1) rfl (by kernel_rfl) (by kernel_rfl) (hF.ev 0 rfl) rfl rfl (by omega) (by omega)) 1 ?_
 refine rv 6 (v:=(.pointer (some ⟨b3,off4+36*1,none⟩))) (fun _ _ hF=>opToArray (m:=32) (e:=5) rfl (by kernel_rfl) (hF.ev 0 rfl) (by omega)) 1 ?_
 refine rld 7 (S:=fun w=>HoldsL cByte w b3 off4 l) (hH.holdsL hL5 hb6 hR7) (.ld (cArr 32) (cutF l 36) (fun _ hS=>(hS.arr 36 32 (by first | omega | (rw [lst_len]; omega) | (simp only [List.length_drop,List.length_take,lst_len]; omega) | (simp only [List.length_drop,List.length_take]; omega))))) 1 ?_
 refine rv 8 .mv 0 ?_
 refine rv 9 (v:=(.slice (some ⟨b3,off4+69*1,none⟩) (n - 69) (c - 69))) (fun _ _ hF=>opSlcL (k:=69) (e:=5) (sz:=1) rfl (by kernel_rfl) (by kernel_rfl) (hF.ev 0 rfl) rfl rfl (by omega) (by omega)) 1 ?_
 refine rv 10 (v:=(.pointer (some ⟨b3,off4+69*1,none⟩))) (fun _ _ hF=>opToArray (m:=40) (e:=5) rfl (by kernel_rfl) (hF.ev 0 rfl) (by omega)) 1 ?_
 refine rld 11 (S:=fun w=>HoldsL cByte w b3 off4 l) (hH.holdsL hL5 hb6 hR7) (.ld (cArr 40) (cutF l 69) (fun _ hS=>(hS.arr 69 40 (by first | omega | (rw [lst_len]; omega) | (simp only [List.length_drop,List.length_take,lst_len]; omega) | (simp only [List.length_drop,List.length_take]; omega))))) 1 ?_
 refine rv 12 (v:=(cSe.val ((cutF l 3),(cutF l 36),(cutF l 69)))) (fun _ _ hF=>opBuildP (cells:=cSe.enc ((cutF l 3),(cutF l 36),(cutF l 69))) rfl (EvP.cons (v:=((cArr 32).val (cutF l 3))) (hF.ev 2 rfl) (EvP.cons (v:=((cArr 32).val (cutF l 36))) (hF.ev 1 rfl) (EvP.cons (v:=((cArr 40).val (cutF l 69))) (hF.ev 0 rfl) EvP.nil))) (built_3 (x:=((cutF l 3),(cutF l 36),(cutF l 69))) (by kernel_rfl) rfl rfl rfl) _) 7 ?_
 refine rx1k 13 ?_
 refine rm 13 hH (.al cSe (fun _=>0,fun _=>0,fun _=>0)) trivial 0 (.keep (.keep (.keep (.nil _ [])))) ?_
 clear hH
 rintro _ _ w ⟨g8,rfl,rfl⟩ hH
 refine ⟨pcons (hH.holdsL hL5 hb6 hR7) (pcons (hH.holdsL hL5 hb6 hR7) (pcons (hH.holdsL hL5 hb6 hR7) pnil)),?_⟩
 refine rx1k 14 ?_
 refine re0 14 1 hH rfl (.sw cSe (fun _=>0,fun _=>0,fun _=>0) ((cutF l 3),(cutF l 36),(cutF l 69))) trivial (pgo [] (pgo [] (pgo [] (.nil _ [])))) ?_
 clear hH
 rintro _ _ w rfl hH
 refine ⟨pnil,rn ?_⟩
 refine cxSeq (zr (zv .mv 10 ?_))
 refine zs (hH.q 1 rfl) (.ld cSe ((cutF l 3),(cutF l 36),(cutF l 69)) (fun _ hS=>(holds_blk0 hS))) 0 ?_
 refine zm hH (.call Tryz.func17 ((body_c ((cutF l 3),(cutF l 36),(cutF l 69))))) trivial 1 ?_
 clear hH
 rintro v13 E9 w hO10 hH
 obtain ⟨A11,c12,rfl⟩:=hO10.slice
 refine zc Tryz.func48 (bytesEq_c (some ⟨b3,off4,none⟩) n c l A11 ((bodyL (cutF l 3) (cutF l 36) (lst 40 (cutF l 69))).length) c12 (bodyL (cutF l 3) (cutF l 36) (lst 40 (cutF l 69)))) (⟨(hH.vu hR (by decide) (Off.nil _ _)),(hO10.vuAt (hH.has 2 rfl))⟩) hH 3 ?_
 clear hH
 intro w hH
 refine zv (v:=(.bool (decide (¬ (l=(bodyL (cutF l 3) (cutF l 36) (lst 40 (cutF l 69)))))))) (fun _ _ hF=>opNot rfl (hF.ev 0 rfl) decide_not.symm) 1 ?_
 refine zn ?_
 refine zP (fun hc15 => ?_) (fun hc15 => ?_)
 refine zr (zv (v:=(cSe.val (fun _=>0,fun _=>0,fun _=>0))) (fun _ _ hF=>opBuildP (cells:=cSe.enc (fun _=>0,fun _=>0,fun _=>0)) (vals:=[]) rfl EvP.nil (by kernel_rfl) _) 3 ?_)
 refine ze0 0 hH rfl (.sw cSe (fun _=>0,fun _=>0,fun _=>0) (fun _=>0,fun _=>0,fun _=>0)) trivial ?_
 clear hH
 rintro _ _ w rfl hH
 refine zv .mv 1 ?_
 refine zn (cxRet (qxThenR ?_))
 refine qxRetCT 1 0 (hH.blk 0 rfl) rfl rfl rfl (by kernel_rfl) (Cod.size _ _) (by kernel_rfl) ?_
 have hb:¬ isB l:=fun hb=>hc15 (by have:=hb.2; rwa [← lst_drop (n:=40) (by omega)] at this)
 have he:rbV l=(fun _=>0,fun _=>0,fun _=>0):=if_neg hb
 exact ⟨by rw [he,decide_eq_false hb]; rfl,HH.toBelow hH⟩
 refine cxSkip (qxThen (zr (zs (hH.q 1 rfl) (.ld cSe ((cutF l 3),(cutF l 36),(cutF l 69)) (fun _ hS=>(holds_blk0 hS))) 3 ?_)))
 refine ze0 0 hH rfl (.sw cSe (fun _=>0,fun _=>0,fun _=>0) ((cutF l 3),(cutF l 36),(cutF l 69))) trivial ?_
 clear hH
 rintro _ _ w rfl hH
 refine zv .mv 1 ?_
 refine zn (cxRet (qxRetCT 1 0 (hH.blk 0 rfl) rfl rfl rfl (by kernel_rfl) (Cod.size _ _) (by kernel_rfl) ?_))
 have hb:isB l:=⟨by omega,by have:=Decidable.not_not.1 hc15; rwa [lst_drop (by omega)] at this⟩
 have he:rbV l=(cutF l 3,cutF l 36,cutF l 69):=if_pos hb
 exact ⟨by rw [he,decide_eq_true hb]; rfl,HH.toBelow hH⟩
end Go.Proofs.YtajppfmjbkebfaaGreatDoor

namespace Go.Proofs.YtajppfmjbkebfaaGreatDoor
open Go Go.RowKit
def putsL (ss:List Nat) (cs:Array Value):List (Nat×Value)→Array Value
 | []=>cs
 | p :: r=>putsL ss (putL cs ((ss.take p.1).sum) p.2.cells.toList) r
def FitL (ss:List Nat):List (Nat×Value)→Prop
 | []=>True
 | p :: r=>(∃ s,ss[p.1]?=some s∧p.2.cells.size=s∧(ss.take p.1).sum+s≤ss.sum)∧FitL ss r
theorem fill_puts (ss:List Nat):∀ (ps:List (Nat×Value)) (cs:Array Value),FitL ss ps→cs.size=ss.sum→Instr.fill ((placesFrom 0 ss).toArray[·]?) cs ps=some (putsL ss cs ps)
 | [],_,_,_=>by simp [Instr.fill,putsL]
 | (i,v) :: r,cs,h,hz=>by
  obtain ⟨⟨s,hs,hv,hf⟩,hr⟩:=h
  have hpl:=placesFrom_get ss 0 i s hs
  rw [Nat.zero_add] at hpl
  unfold Instr.fill
  have hv':v.cells.size=s:=hv
  have hf':(ss.take i).sum+s≤ss.sum:=hf
  simp only [List.getElem?_toArray,hpl,hv']
  rw [if_neg (by simp; omega)]
  have hq:=foldl_put v.cells.toList (ss.take i).sum cs 0
  rw [Nat.add_zero] at hq
  rw [← Array.foldl_toList,Array.toList_zipIdx,hq]
  have ih:=fill_puts ss r (putL cs (ss.take i).sum v.cells.toList) hr (by rw [putL_size]; exact hz)
  simp only [List.getElem?_toArray] at ih
  rw [ih]
  rfl
theorem built_puts {P:Program} {ty:TypeId} {ps:List (Nat×Value)} {z:Array Value} (ss:List Nat) (h:structOk P ty ss=true) (hz:((P.info? ty).bind (·.zero)).map (·.cells)=some z) (hs:FitL ss ps):P.built ty ps=some (putsL ss z ps):=by
 unfold structOk at h
 unfold Program.built
 cases hi:P.info? ty with
 | none=>rw [hi] at h; cases h
 | some it =>
  cases hu:P.underlying ty with
  | none=>rw [hi,hu] at h; cases h
  | some d =>
   rw [hi,hu] at h
   rw [hi] at hz
   cases d <;> try (cases h; done)
   rename_i fields
   simp only at h ⊢
   cases hzz:it.zero with
   | none=>rw [hzz] at h; cases h
   | some zv =>
    cases hp:fields.toList.mapM (fun f=>(P.info? f.type).map fun i=>(f.offset,i.size)) with
    | none=>rw [hzz,hp] at h; cases h
    | some places =>
     rw [hzz,hp] at h
     simp only [Bool.and_eq_true,beq_iff_eq] at h
     obtain ⟨rfl,h2⟩:=h
     simp only [Option.bind_some,hzz,Option.map_some,Option.some.injEq] at hz
     subst hz
     have:=fill_puts ss ps zv.cells hs (by rw [h2])
     simpa using this
theorem built_2of3 {P:Program} {ty:TypeId} {α β γ:Type} {A:Cod α} {B:Cod β} {C:Cod γ} {u v:Value} {a:α} {b:β} (a0:α) (b0:β) (c:γ) (h:structOk P ty [A.sz,B.sz,C.sz]=true) (hz:((P.info? ty).bind (·.zero)).map (·.cells)=some ((cPair A (cPair B C)).enc (a0,b0,c))) (hu:A.val a=u) (hv:B.val b=v):P.built ty [(0,u),(1,v)]=some ((cPair A (cPair B C)).enc (a,b,c)):=by
 subst hu hv
 rw [built_puts (ps:=[(0,A.val a),(1,B.val b)]) [A.sz,B.sz,C.sz] h hz ⟨⟨A.sz,rfl,A.len a,by simp⟩,⟨B.sz,rfl,B.len b,by simp⟩,trivial⟩]
 show some (putL (putL _ 0 (A.enc a).toList) (A.sz+0) (B.enc b).toList)=_
 rw [put_fst (put_whole A a0 a) (by rw [Array.length_toList,Cod.size]; omega),put_snd (put_fst (put_whole B b0 b) (by rw [Array.length_toList,Cod.size]; omega)) (by omega)]
end Go.Proofs.YtajppfmjbkebfaaGreatDoor

namespace Go.Proofs.YtajppfmjbkebfaaGreatDoor
open Go Go.RowKit
set_option maxRecDepth 100000
theorem se_zero:((Tryz.prog.info? 49).bind (·.zero)).map (·.cells)=some ((cPair (cArr 32) (cPair (cArr 32) (cArr 40))).enc (fun _=>0,fun _=>0,fun _=>0)):=by kernel_rfl
theorem seal_c (S:Bt) (ct:Ct) (d:Bt):Does Tryz.prog 7 #[((cArr 32).val S),(cCe.val ct),((cArr 32).val d)] [] (fun w=>w.heap[3]?=some (.cells ((cWs 64).enc K32) 119 (0,0))∧w.heap[2]?=some (.cells ((cWs 8).enc H32) 118 (0,0))∧w.heap[0]?=some (.cells ((cArr 256).enc boxF) 103 (0,0))) (fun v E' => ∃ s,v=.tuple #[s,.int .i64 ((skE d ct:Nat):Int)]∧OwnT cByte 5 s (skL S ct d) E'):=by
 refine does_of (fn:=Tryz.f7) Tryz.func7 rfl Tryz.ntmps7 (Nat.le_of_ble_eq_true rfl) rfl ?_
 intro w0 hH hR
 replace hH:HH w0 [] [] w0:=hH.only [false]
 refine zr (zm hH (.bx (cArr 32) S) trivial 1 ?_)
 clear hH
 rintro _ _ w ⟨g1,rfl,rfl⟩ hH
 refine zm hH (.bx cCe ct) trivial 2 ?_
 clear hH
 rintro _ _ w ⟨g2,rfl,rfl⟩ hH
 refine zm hH (.bx (cArr 32) d) trivial 4 ?_
 clear hH
 rintro _ _ w ⟨g3,rfl,rfl⟩ hH
 refine zv .mv 0 ?_
 refine zv .mv 1 ?_
 refine zn (zr (zs (hH.q 2 rfl) (.ld (cArr 32) d (fun _ hS=>(holds_blk0 hS))) 1 ?_))
 refine zv (.fld 33) 0 ?_
 refine zs (hH.q 1 rfl) (.ld (cArr 32) ct.2.2.1 (fun _ hS=>(((holds_blk0 hS).snd).snd).fst)) 1 ?_
 refine zc Tryz.func13 (shared_p d ct.2.2.1) trivial hH 3 ?_
 clear hH
 intro w hH
 refine zv .mv 1 ?_
 refine zv .ext 0 ?_
 refine zv .ext 2 ?_
 refine zm hH (.al (cArr 32) (fun _=>0)) trivial 0 ?_
 clear hH
 rintro _ _ w ⟨g4,rfl,rfl⟩ hH
 refine ze0 3 hH rfl (.sw (cArr 32) (fun _=>0) (xMulB d ct.2.2.1)) trivial ?_
 clear hH
 rintro _ _ w rfl hH
 refine zv .mv 6 ?_
 refine zn (cxSeq (zr (zv .mv 1 ?_)))
 refine zv (.ne (shE (xMulB d ct.2.2.1)≠0)) 1 ?_
 refine zn ?_
 refine zP (fun hc5 => ?_) (fun hc5 => ?_)
 refine zr (zv .mv 31 ?_)
 refine zv .mv 0 ?_
 refine zn (cxRet (qxThenR ?_))
 refine qxRet2 1 0 rfl rfl rfl ?_
 have he:=shE_2 hc5
 have hl:skL S ct d=[]:=if_neg hc5
 exact ⟨_,_,rfl,⟨_,by rw [show skE d ct=2 from he]; rfl,hl ▸ OwnT.nil _ _⟩,HH.out (HH.pad hH 1) [false,false,false,false,true]⟩
 refine cxSkip (qxThen (zx ?_))
 replace hH:=hH.drew
 have hi6:1<2:=by omega
 refine rxPg 0 [pv 0 20 [] [] fun G=>(.pointer (some ⟨g2,65,none⟩)),pv 1 21 [0] [] fun G=>(.pointer (some ⟨g2,65+1*32,none⟩)),ldv 2 22 [1] [] [1001] fun G=>((cArr 32).val (fun q9=>ct.2.2.2 (32*1+q9))),ldv 3 23 [] [] [1002] fun G=>((cArr 32).val d),pv 4 24 [3] [] fun G=>((cArr 32).val (xPub d)),pv 5 25 [2,4] [] fun G=>(cSe.val ((fun q9=>ct.2.2.2 (32*1+q9)),(xPub d),fun _=>0)),alv 6 10 [] [] fun G g=>[bl g 49 (cSe.enc (fun _=>0,fun _=>0,fun _=>0))],stv 7 [5,6] [6] 6 fun G=>[bl (G 6).g 49 (cSe.enc ((fun q9=>ct.2.2.2 (32*1+q9)),(xPub d),fun _=>0))]] (fun G=>[(10,(.pointer (some ⟨(G 6).g,0,none⟩))),(8,(.pointer (some ⟨g4,0,none⟩))),(4,(.pointer (some ⟨g2,0,none⟩))),(3,(.pointer (some ⟨g1,0,none⟩)))]) (fun G=>[[bl g1 22 ((cArr 32).enc S)],[bl g2 33 (cCe.enc ct)],[bl g3 22 ((cArr 32).enc d)],[bl g4 22 ((cArr 32).enc (xMulB d ct.2.2.1))],[bl (G 6).g 49 (cSe.enc ((fun q9=>ct.2.2.2 (32*1+q9)),(xPub d),fun _=>0))]]) hH (.c (.v fun G=>(.fld 65)) <| .c (.v fun G=>(.ia 32 2 1 (hi:=hi6))) <| .c (.ld (fun G _ _ hH=>(hH.q 0 rfl)) fun G=>(.ld (cArr 32) (fun q9=>ct.2.2.2 (32*1+q9)) (fun _ hS=>(Holds.row ((((holds_blk0 hS).snd).snd).snd) 1 32 (by omega))))) <| .c (.ld (fun G _ _ hH=>(hH.q 0 rfl)) fun G=>(.ld (cArr 32) d (fun _ hS=>(holds_blk0 hS)))) <| .c (Sp.c Tryz.func14 (fun G=>(xPub_c d)) fun _=>trivial) <| .c (.v fun G=>(fun _ _ hF=>opBuildP (cells:=cSe.enc ((fun q9=>ct.2.2.2 (32*1+q9)),(xPub d),fun _=>0)) rfl (EvP.cons (v:=((cArr 32).val (fun q9=>ct.2.2.2 (32*1+q9)))) (hF.ev 0 rfl) (EvP.cons (v:=((cArr 32).val (xPub d))) (hF.ev 1 rfl) EvP.nil)) (built_2of3 (A:=cArr 32) (B:=cArr 32) (C:=cArr 40) (fun _=>0) (fun _=>0) (fun _=>0) (by kernel_rfl) se_zero rfl rfl) _)) <| .c (.a (fun _ _ _ _=>trivial) (fun G=>(.al cSe (fun _=>0,fun _=>0,fun _=>0))) fun _ _ _ h=>h) <| .c (.tn (fun G=>(.sw cSe (fun _=>0,fun _=>0,fun _=>0) ((fun q9=>ct.2.2.2 (32*1+q9)),(xPub d),fun _=>0))) (fun _ _ _ _=>trivial) fun _ _ _ h=>h) <| .nil) ?_
 clear hH
 rintro G w - hH
 revert hH
 generalize (G 6).g=g7
 intro hH
 refine rn ?_
 refine zx ?_
 replace hH:=hH.drew
 refine rv 0 (.fld 32) 0 ?_
 refine rld 1 (hH.q 4 rfl) (.ld (cArr 32) (xPub d) (fun _ hS=>((holds_blk0 hS).snd).fst)) 1 ?_
 refine rv 2 (.fld 33) 8 ?_
 refine rld 3 (hH.q 1 rfl) (.ld (cArr 32) ct.2.2.1 (fun _ hS=>(((holds_blk0 hS).snd).snd).fst)) 1 ?_
 refine rld 4 (hH.q 3 rfl) (.ld (cArr 32) (xMulB d ct.2.2.1) (fun _ hS=>(holds_blk0 hS))) 8 ?_
 refine rld 6 (hH.q 0 rfl) (.ld (cArr 32) S (fun _ hS=>(holds_blk0 hS))) 16 ?_
 refine rx1k 5 (rpc 5 Tryz.func16 (wrapKey_c (xPub d) ct.2.2.1 (xMulB d ct.2.2.1)) (⟨(hH.oldBlk hR.1 (by simp)),(hH.oldBlk hR.2.1 (by simp))⟩) hH 14 (.keep (pgo [] (pgo [] (pgo [] (.nil _ []))))) ?_)
 clear hH
 intro w hH
 refine ⟨pcons (hH.blk 0 rfl) pnil,?_⟩
 refine rx1k 7 (rpc 7 Tryz.func15 (wrap40_c (cutF (kekL (xPub d) ct.2.2.1 (xMulB d ct.2.2.1)) 0) S) (hH.oldBlk hR.2.2 (by simp)) hH 3 (pgo [] (.nil _ [])) ?_)
 clear hH
 intro w hH
 refine ⟨pnil,rv 8 (.fld 64) 0 ?_⟩
 refine rx1k 9 ?_
 refine re0 9 4 hH rfl (fun _ hF=>smStoreT (C:=(cArr 40)) (z:=(cutF (wrapL (lst 16 (cutF (kekL (xPub d) ct.2.2.1 (xMulB d ct.2.2.1)) 0)) (lst 32 S)) 0)) rfl (hF.ev 0 rfl) (hF.ev 1 rfl) rfl (by kernel_rfl) (by rw [Cod.size]; exact leb rfl) (put_snd (put_snd (put_whole (cArr 40) _ _) rfl) rfl)) trivial (.nil _ []) ?_
 clear hH
 rintro _ _ w rfl hH
 refine ⟨pnil,rn ?_⟩
 refine zr (zs (hH.q 4 rfl) (.ld cSe ((fun q9=>ct.2.2.2 (32*1+q9)),(xPub d),(cutF (wrapL (lst 16 (cutF (kekL (xPub d) ct.2.2.1 (xMulB d ct.2.2.1)) 0)) (lst 32 S)) 0)) (fun _ hS=>(holds_blk0 hS))) 7 ?_)
 refine zm hH (.call Tryz.func17 ((body_c ((fun q9=>ct.2.2.2 (32*1+q9)),(xPub d),(cutF (wrapL (lst 16 (cutF (kekL (xPub d) ct.2.2.1 (xMulB d ct.2.2.1)) 0)) (lst 32 S)) 0))))) trivial 1 ?_
 clear hH
 rintro v12 E8 w hO9 hH
 obtain ⟨A10,c11,rfl⟩:=hO9.slice
 refine zv .mv 1 ?_
 refine zv .mv 0 ?_
 refine zn (cxRet (qxRet2 1 0 rfl rfl rfl ?_))
 have he:=Decidable.not_not.1 hc5
 have hl:skL S ct d=bodyL (pr1 ct) (xPub d) (skW S d ct):=if_pos he
 have hw:lst 40 (cutF (wrapL (lst 16 (cutF (kekL (xPub d) ct.2.2.1 (xMulB d ct.2.2.1)) 0)) (lst 32 S)) 0)=skW S d ct:=by rw [lst_cut (kekL_len _ _ _)]; exact lst_cut (skW_len S d ct)
 exact ⟨_,_,rfl,⟨(.slice A10 ((bodyL (fun q9=>ct.2.2.2 (32*1+q9)) (xPub d) (lst 40 (cutF (wrapL (lst 16 (cutF (kekL (xPub d) ct.2.2.1 (xMulB d ct.2.2.1)) 0)) (lst 32 S)) 0))).length) c11),by rw [show skE d ct=0 from he]; rfl,hl.trans (congrArg (bodyL _ _) hw.symm) ▸ hO9⟩,hH.out1 [false,false,false,false,false,true] rfl⟩
theorem uw_is {K l:List UInt8} (hK:K.length=16) (h:l.length=109):(.tuple #[(cArr 32).val (uwV (cutF K 0) (lst 40 (cutF l 69))),.int .i64 ((unE (lst 16 (cutF K 0)) (lst 40 (cutF l 69)):Nat):Int)]:Value)=.tuple #[(cArr 32).val (uwV (cutF K 0) (l.drop 69)),.int .i64 ((unE K (l.drop 69):Nat):Int)]:=by
 rw [lst_drop (l:=l) (k:=69) (by omega),lst_cut hK]
theorem op_end {K m:List UInt8} (hK:K.length=16):(if unE K m=0 then (cutF (unL K m) 0,0) else ((fun _=>0:Bt),5))=(uwV (cutF K 0) m,unE K m):=by
 unfold uwV
 rw [lst_cut hK]
 by_cases h:unE K m=0
 ·rw [if_pos h,if_pos h,h]
 ·rw [if_neg h,if_neg h,unE_5 h]
theorem open_c (A:Option Addr) (n c:Nat) (l:List UInt8) (k:Bt×Bt) (ct:Ct):Pure Tryz.prog 11 #[(.slice A n c),(cKy.val k),(cCe.val ct)] (fun w=>w.heap[3]?=some (.cells ((cWs 64).enc K32) 119 (0,0))∧w.heap[2]?=some (.cells ((cWs 8).enc H32) 118 (0,0))∧w.heap[0]?=some (.cells ((cArr 256).enc boxF) 103 (0,0))∧Vu cByte w A n c l) (.tuple #[(cArr 32).val (opR l k.2 ct).1,.int .i64 (((opR l k.2 ct).2:Nat):Int)]):=by
 refine pure_of (fn:=Tryz.f11) Tryz.func11 rfl Tryz.ntmps11 (Nat.le_of_ble_eq_true rfl) rfl ?_
 intro w0 hH hR
 refine zr (zm hH (.bx cKy k) trivial 2 ?_)
 clear hH
 rintro _ _ w ⟨g1,rfl,rfl⟩ hH
 refine zm hH (.bx cCe ct) trivial 4 ?_
 clear hH
 rintro _ _ w ⟨g2,rfl,rfl⟩ hH
 refine zm hH (.al (cArr 32) (fun _=>0)) trivial 0 ?_
 clear hH
 rintro _ _ w ⟨g3,rfl,rfl⟩ hH
 refine zv .mv 0 ?_
 refine zn ?_
 rcases Decidable.em (isB l) with hb | hb
 refine zr (zv .mv 17 ?_)
 refine zc Tryz.func28 ((readBody_c A n c l).as (v:=(.tuple #[(cSe.val (cutF l 3,cutF l 36,cutF l 69)),(.bool true)])) (by rw [show rbV l=(cutF l 3,cutF l 36,cutF l 69) from if_pos hb,decide_eq_true hb])) (hH.vu hR.2.2.2 (by decide) (Off.nil _ _)) hH 1 ?_
 clear hH
 intro w hH
 refine zv .mv 1 ?_
 refine zv .ext 0 ?_
 refine zv .ext 2 ?_
 refine zm hH (.al cSe (fun _=>0,fun _=>0,fun _=>0)) trivial 0 ?_
 clear hH
 rintro _ _ w ⟨g4,rfl,rfl⟩ hH
 refine ze0 3 hH rfl (.sw cSe (fun _=>0,fun _=>0,fun _=>0) (cutF l 3,cutF l 36,cutF l 69)) trivial ?_
 clear hH
 rintro _ _ w rfl hH
 refine zv .mv 6 ?_
 refine zn (cxSeq (zr (zv .mv 1 ?_)))
 refine zv (v:=(.bool false)) (fun _ _ hF=>opNot rfl (hF.ev 0 rfl) rfl) 1 ?_
 refine zn (zF ?_)
 refine cxSkip (qxThen (cxSeq (zr (zv (.fld 0) 1 ?_))))
 refine zs (hH.q 3 rfl) (.ld (cArr 32) (cutF l 3) (fun _ hS=>(holds_blk0 hS).fst)) 1 ?_
 refine zv (.fld 65) 8 ?_
 have hi5:1<2:=by omega
 refine zv (.ia 32 2 1 (hi:=hi5)) 1 ?_
 refine zs (hH.q 1 rfl) (.ld (cArr 32) (fun q9=>ct.2.2.2 (32*1+q9)) (fun _ hS=>(Holds.row ((((holds_blk0 hS).snd).snd).snd) 1 32 (by omega)))) 1 ?_
 refine zv (v:=(.bool (decide (¬ lst 32 (cutF l 3)=lst 32 (pr1 ct))))) (fun _ _ hF=>opNeA (n:=32) (e:=5) (f:=cutF l 3) (g:=(fun q9=>ct.2.2.2 (32*1+q9))) rfl (by kernel_rfl) (by kernel_rfl) (by kernel_rfl) (hF.ev 1 rfl) (hF.ev 0 rfl) (by kernel_rfl) Iff.rfl) 3 ?_
 refine zn ?_
 refine zP (fun hc6 => ?_) (fun hc6 => ?_)
 refine zr (zv (v:=((cArr 32).val (fun _=>0))) (fun _ _ hF=>opBuildP (cells:=(cArr 32).enc (fun _=>0)) (vals:=[]) rfl EvP.nil (by kernel_rfl) _) 11 ?_)
 refine ze0 2 hH rfl (.sw (cArr 32) (fun _=>0) (fun _=>0)) trivial ?_
 clear hH
 rintro _ _ w rfl hH
 refine zv .mv 1 ?_
 refine zn (cxRet (qxThenR ?_))
 refine qxRetCT 1 0 (hH.blk 2 rfl) rfl rfl rfl (by kernel_rfl) (Cod.size _ _) (by kernel_rfl) ?_
 have hv:opR l k.2 ct=(fun _=>0,3):=by unfold opR; rw [if_pos hb,if_neg hc6]
 exact ⟨by rw [hv]; rfl,HH.toBelow hH⟩
 refine cxSkip (qxThen (zr (zv (.fld 32) 1 ?_)))
 refine zs (hH.q 0 rfl) (.ld (cArr 32) k.2 (fun _ hS=>(holds_blk0 hS).snd)) 1 ?_
 refine zv (.fld 32) 0 ?_
 refine zs (hH.q 3 rfl) (.ld (cArr 32) (cutF l 36) (fun _ hS=>((holds_blk0 hS).snd).fst)) 1 ?_
 refine zc Tryz.func13 (shared_p k.2 (cutF l 36)) trivial hH 3 ?_
 clear hH
 intro w hH
 refine zv .mv 1 ?_
 refine zv .ext 0 ?_
 refine zv .ext 2 ?_
 refine zm hH (.al (cArr 32) (fun _=>0)) trivial 0 ?_
 clear hH
 rintro _ _ w ⟨g7,rfl,rfl⟩ hH
 refine ze0 4 hH rfl (.sw (cArr 32) (fun _=>0) (xMulB k.2 (cutF l 36))) trivial ?_
 clear hH
 rintro _ _ w rfl hH
 refine zv .mv 6 ?_
 refine zn (cxSeq (zr (zv .mv 1 ?_)))
 refine zv (.ne (shE (xMulB k.2 (cutF l 36))≠0)) 1 ?_
 refine zn ?_
 refine zP (fun hc8 => ?_) (fun hc8 => ?_)
 refine zr (zv (v:=((cArr 32).val (fun _=>0))) (fun _ _ hF=>opBuildP (cells:=(cArr 32).enc (fun _=>0)) (vals:=[]) rfl EvP.nil (by kernel_rfl) _) 23 ?_)
 refine ze0 2 hH rfl (.sw (cArr 32) (fun _=>0) (fun _=>0)) trivial ?_
 clear hH
 rintro _ _ w rfl hH
 refine zv .mv 1 ?_
 refine zn (cxRet (qxThenR ?_))
 refine qxRetCT 1 0 (hH.blk 2 rfl) rfl rfl rfl (by kernel_rfl) (Cod.size _ _) (by kernel_rfl) ?_
 have hv:opR l k.2 ct=(fun _=>0,2):=by unfold opR; rw [if_pos hb,if_pos (Decidable.not_not.1 hc6),if_neg hc8]
 exact ⟨by rw [hv]; rfl,HH.toBelow hH⟩
 refine cxSkip (qxThen (zx ?_))
 replace hH:=hH.drew
 refine rv 0 (.fld 32) 1 ?_
 refine rld 1 (hH.q 3 rfl) (.ld (cArr 32) (cutF l 36) (fun _ hS=>((holds_blk0 hS).snd).fst)) 1 ?_
 refine rv 2 (.fld 32) 16 ?_
 refine rld 3 (hH.q 0 rfl) (.ld (cArr 32) k.2 (fun _ hS=>(holds_blk0 hS).snd)) 1 ?_
 refine rld 5 (hH.q 4 rfl) (.ld (cArr 32) (xMulB k.2 (cutF l 36)) (fun _ hS=>(holds_blk0 hS))) 4 ?_
 refine rv 7 (.fld 64) 8 ?_
 refine rv 8 (v:=(.slice (some ⟨g4,64,none⟩) 40 40)) (fun _ _ hF=>opSliceA (n:=40) (e:=5) (sz:=1) rfl (by kernel_rfl) (by kernel_rfl) (hF.ev 0 rfl)) 1 ?_
 refine rx1k 4 (rpc 4 Tryz.func14 (xPub_c k.2) trivial hH 4 (.keep (pgo [] (.keep (.nil _ [])))) ?_)
 clear hH
 intro w hH
 refine ⟨pcons (hH.blk 4 rfl) (pcons (hH.blk 3 rfl) pnil),?_⟩
 refine rx1k 6 (rpc 6 Tryz.func16 (wrapKey_c (cutF l 36) (xPub k.2) (xMulB k.2 (cutF l 36))) (⟨(hH.oldBlk hR.1 (by simp)),(hH.oldBlk hR.2.1 (by simp))⟩) hH 13 (pgo [] (pgo [] (.nil _ []))) ?_)
 clear hH
 intro w hH
 refine ⟨pnil,?_⟩
 refine rx1k 9 (rpc 9 Tryz.func29 ((unwrap40_c (cutF (kekL (cutF l 36) (xPub k.2) (xMulB k.2 (cutF l 36))) 0) (some ⟨g4,64,none⟩) 40 40 (lst 40 (cutF l 69)) rfl).as (v:=.tuple #[(cArr 32).val (uwV (cutF (kekL (cutF l 36) (xPub k.2) (xMulB k.2 (cutF l 36))) 0) (l.drop 69)),.int .i64 ((unE (kekL (cutF l 36) (xPub k.2) (xMulB k.2 (cutF l 36))) (l.drop 69):Nat):Int)]) (uw_is (kekL_len _ _ _) hb.1)) (⟨(hH.oldBlk hR.2.2.1 (by simp)),(vu_holds ((holds_blk0 (hH.blk 3 rfl)).snd).snd)⟩) hH 3 (.nil _ []) ?_)
 clear hH
 intro w hH
 refine ⟨pnil,rv 10 .ext 0 ?_⟩
 refine rv 11 .ext 2 ?_
 refine rx1k 12 ?_
 refine re0 12 2 hH rfl (.sw (cArr 32) (fun _=>0) (uwV (cutF (kekL (cutF l 36) (xPub k.2) (xMulB k.2 (cutF l 36))) 0) (l.drop 69))) trivial (.nil _ []) ?_
 clear hH
 rintro _ _ w rfl hH
 refine ⟨pnil,rv 13 .mv 3 ?_⟩
 refine rn ?_
 refine cxRet (qxRetCT 1 0 (hH.blk 2 rfl) rfl rfl rfl (by kernel_rfl) (Cod.size _ _) (by kernel_rfl) ?_)
 have hv:opR l k.2 ct=(uwV (cutF (kekL (cutF l 36) (xPub k.2) (xMulB k.2 (cutF l 36))) 0) (l.drop 69),unE (kekL (cutF l 36) (xPub k.2) (xMulB k.2 (cutF l 36))) (l.drop 69)):=by unfold opR; rw [if_pos hb,if_pos (Decidable.not_not.1 hc6),if_pos (Decidable.not_not.1 hc8)]; exact op_end (kekL_len _ _ _)
 exact ⟨by rw [hv]; rfl,HH.toBelow hH⟩
 refine zr (zv .mv 17 ?_)
 refine zc Tryz.func28 ((readBody_c A n c l).as (v:=(.tuple #[(cSe.val (fun _=>0,fun _=>0,fun _=>0)),(.bool false)])) (by rw [show rbV l=(fun _=>0,fun _=>0,fun _=>0) from if_neg hb,decide_eq_false hb])) (hH.vu hR.2.2.2 (by decide) (Off.nil _ _)) hH 1 ?_
 clear hH
 intro w hH
 refine zv .mv 1 ?_
 refine zv .ext 0 ?_
 refine zv .ext 2 ?_
 refine zm hH (.al cSe (fun _=>0,fun _=>0,fun _=>0)) trivial 0 ?_
 clear hH
 rintro _ _ w ⟨g9,rfl,rfl⟩ hH
 refine ze0 3 hH rfl (.sw cSe (fun _=>0,fun _=>0,fun _=>0) (fun _=>0,fun _=>0,fun _=>0)) trivial ?_
 clear hH
 rintro _ _ w rfl hH
 refine zv .mv 6 ?_
 refine zn (cxSeq (zr (zv .mv 1 ?_)))
 refine zv (v:=(.bool true)) (fun _ _ hF=>opNot rfl (hF.ev 0 rfl) rfl) 1 ?_
 refine zn (zT ?_)
 refine zr (zv (v:=((cArr 32).val (fun _=>0))) (fun _ _ hF=>opBuildP (cells:=(cArr 32).enc (fun _=>0)) (vals:=[]) rfl EvP.nil (by kernel_rfl) _) 27 ?_)
 refine ze0 2 hH rfl (.sw (cArr 32) (fun _=>0) (fun _=>0)) trivial ?_
 clear hH
 rintro _ _ w rfl hH
 refine zv .mv 1 ?_
 refine zn (cxRet (qxThenR ?_))
 refine qxRetCT 1 0 (hH.blk 2 rfl) rfl rfl rfl (by kernel_rfl) (Cod.size _ _) (by kernel_rfl) ?_
 have hv:opR l k.2 ct=(fun _=>0,2):=by unfold opR; rw [if_neg hb]
 exact ⟨by rw [hv]; rfl,HH.toBelow hH⟩
end Go.Proofs.YtajppfmjbkebfaaGreatDoor

namespace Go.Proofs.YtajppfmjbkebfaaGreatDoor
open Go Go.RowKit
section
variable {P:Program} {Q:Exit→Act→World→Prop} {w w0:World} {n:Sz} {l l':Slots} {x y:Code} {fn:Func} {σ:Type}
def qJoin (n:Sz) (fr:σ→Slots) (I:σ→World→Prop) (a:Act) (w:World):Prop := ∃ z,Fr n (fr z) a∧I z w
theorem cxJoin (fr:σ→Slots) (I:σ→World→Prop) (h1:CX P (Exit.then (qJoin n fr I) Q) x n l w) (h2:∀ z w,I z w→CX P Q y n (fr z) w):CX P Q (.seq x y) n l w:=fun a hF=>by
 refine wp_seq (wp_mono (h1 a hF) fun e a w q => ?_)
 cases e with
 | normal =>
  obtain ⟨z,hz,hI⟩:=q
  exact h2 z w hI a hz
 | _=>exact q
theorem qxJoin {fr:σ→Slots} {I:σ→World→Prop} (z:σ) (hI:I z w) (hfr:∀ q∈fr z,q∈l):QX (Exit.then (qJoin n fr I) Q) .normal n l w:=fun _ hF=>⟨z,hF.of hfr,hI⟩
end
end Go.Proofs.YtajppfmjbkebfaaGreatDoor

namespace Go.Proofs.YtajppfmjbkebfaaGreatDoor
open Go Go.RowKit
set_option maxRecDepth 100000
abbrev cCi:=cPair (cArr 256) (cPair (cArr 256) (cPair (cArr 240) (cNat .i64)))
theorem ci_congr {s s' b b':Nat→UInt8} {f f':Nat→UInt8} {r:Nat} (h0:∀ j,j<256→s j=s' j) (h1:∀ j,j<256→b j=b' j) (h2:∀ j,j<240→f j=f' j):cCi.enc (s,b,f,r)=cCi.enc (s',b',f',r):=by
 rw [enc_pair,enc_pair,enc_pair,enc_pair,enc_pair,enc_pair,arr_congr h0,arr_congr h1,arr_congr h2]
theorem ci_zero (n:Nat):cCi.enc (fun _=>0,fun _=>0,fun _=>0,n)=(row 752 fun _=>0).push (.int .i64 (n:Int)):=by
 have e:(cNat .i64).enc n = #[.int .i64 (n:Int)]:=rfl
 rw [enc_pair,enc_pair,enc_pair,enc_arr,enc_arr,e]
 apply Array.ext_getElem?
 intro j
 rw [Array.getElem?_push,row_size]
 by_cases h0:j<256
 ·rw [Array.getElem?_append_left (by rw [row_size]; exact h0),row_get _ _ _ h0,if_neg (by omega),row_get _ _ _ (by omega)]
 ·rw [Array.getElem?_append_right (by rw [row_size]; omega),row_size]
  by_cases h1:j<512
  ·rw [Array.getElem?_append_left (by rw [row_size]; omega),row_get _ _ _ (by omega),if_neg (by omega),row_get _ _ _ (by omega)]
  ·rw [Array.getElem?_append_right (by rw [row_size]; omega),row_size]
   by_cases h2:j<752
   ·rw [Array.getElem?_append_left (by rw [row_size]; omega),row_get _ _ _ (by omega),if_neg (by omega),row_get _ _ _ (by omega)]
   ·rw [Array.getElem?_append_right (by rw [row_size]; omega),row_size]
    by_cases h3:j=752
    ·subst h3; rfl
    ·rw [if_neg h3,Array.getElem?_eq_none (by show 1≤_; omega),Array.getElem?_eq_none (by rw [row_size]; omega)]
theorem built10:Tryz.prog.built 107 [(3,.int .i64 10)]=some ((row 752 fun _=>0).push (.int .i64 10)):=by kernel_rfl
theorem built14:Tryz.prog.built 107 [(3,.int .i64 14)]=some ((row 752 fun _=>0).push (.int .i64 14)):=by kernel_rfl
theorem builtCi (n:Nat) (h:n=10 ∨ n=14):Tryz.prog.built 107 [(3,.int .i64 (n:Int))]=some (cCi.enc (fun _=>0,fun _=>0,fun _=>0,n)):=by
 rw [ci_zero]
 rcases h with rfl | rfl
 ·exact built10
 ·exact built14
theorem tmS_succ (a b:UInt8) (k:Nat):tmS a b (k+1)=(if (tmS a b k).2.2 &&& 1=1 then (tmS a b k).1 ^^^ (tmS a b k).2.1 else (tmS a b k).1,sl8 (tmS a b k).2.1 1 ^^^ 27*sr8 (tmS a b k).2.1 7,sr8 (tmS a b k).2.2 1):=rfl
theorem byte_eq {x:UInt8} {n:Nat} (h:x.toNat=n):x=UInt8.ofNat n:=by rw [← h,UInt8.ofNat_toNat]
theorem byte_ne {x:UInt8} {n:Nat} (h:¬ x.toNat=n) (hn:n<256):¬ x=UInt8.ofNat n:=fun e=>h (by rw [e,UInt8.toNat_ofNat',Nat.mod_eq_of_lt hn])
theorem times_c (a b:UInt8):Pure Tryz.prog 79 #[(.int .u8 (((a.toNat):Nat):Int)),(.int .u8 (((b.toNat):Nat):Int))] (fun _=>True) (.int .u8 ((((tmB a b).toNat):Nat):Int)):=by
 refine pure_of (fn:=Tryz.f79) Tryz.func79 rfl Tryz.ntmps79 (Nat.le_of_ble_eq_true rfl) rfl ?_
 intro w0 hH hR
 refine zr (zv .mv 0 ?_)
 refine zn (zr (zv .mv 1 ?_))
 refine zn (cxSeq (zr (zv .mv 0 ?_)))
 refine zn (cxBlock (zL4 (fun (k:Nat) (p:UInt8) (x:UInt8) (y:UInt8)=>[(7,(.int .i64 (((k):Nat):Int))),(5,(.int .u8 (((p.toNat):Nat):Int))),(1,(.int .u8 (((y.toNat):Nat):Int))),(0,(.int .u8 (((x.toNat):Nat):Int)))]) (fun k p x y w=>HH w0 [] [] w∧(k≤8)∧((p,x,y)=tmS a b k)) (fun k _ _ _=>8 - k) 0 0 a b ⟨hH,(Nat.zero_le _),rfl⟩ ?_))
 clear hH
 rintro k p x y w ⟨hH,hk,hq⟩
 refine zr (zv (.lt (k<8)) 0 ?_)
 refine zn (cxSeq ?_)
 refine zP (fun hc1 => ?_) (fun hc1 => ?_)
 refine cxSkip (qxThen (cxSeq (cxBlock (cxSeq (zr (zv .mv 1 ?_))))))
 refine zv (.ab (y &&& (1:UInt8)) (u:=y) (v:=(1:UInt8))) 1 ?_
 refine zv (.eq ((y &&& (1:UInt8)).toNat=1)) 1 ?_
 refine zn ?_
 refine zP (fun hc2 => ?_) (fun hc2 => ?_)
 refine cxReg (zv .mv 5 ?_)
 refine zv .mv 0 ?_
 refine zv (.xb (p ^^^ x) (u:=p) (v:=x)) 3 ?_
 refine zv .mv 1 ?_
 refine zn (zr (zv .mv 0 ?_))
 refine zv (.rb 7 (u:=x)) 1 ?_
 refine zv .mv 1 ?_
 refine zn (zr (zv .mv 16 ?_))
 refine zv (.lb 1 (u:=x)) 1 ?_
 refine zv .mv 2 ?_
 refine zv (.ub ((27:UInt8)*(sr8 x 7)) (u:=(27:UInt8)) (v:=(sr8 x 7))) 1 ?_
 refine zv (.xb ((sl8 x 1) ^^^ ((27:UInt8)*(sr8 x 7))) (u:=(sl8 x 1)) (v:=((27:UInt8)*(sr8 x 7)))) 3 ?_
 refine zv .mv 1 ?_
 refine zn (cxReg (zv .mv 8 ?_))
 refine zv (.rb 1 (u:=y)) 1 ?_
 refine zv .mv 1 ?_
 refine pxEnd (qxInN (qxThen (cxReg (zv (.add ((k+1:Nat):Int)) 8 ?_))))
 refine zv .mv 1 ?_
 refine pxEnd ?_
 exact zR4 (k+1) (p ^^^ x) ((sl8 x 1) ^^^ ((27:UInt8)*(sr8 x 7))) (sr8 y 1) ⟨hH,(by omega),(by rw [tmS_succ,if_pos (by rw [← hq]; exact byte_eq hc2),← hq])⟩ (by omega)
 refine cxSkip (qxThen (zr (zv .mv 1 ?_)))
 refine zv (.rb 7 (u:=x)) 1 ?_
 refine zv .mv 1 ?_
 refine zn (zr (zv .mv 16 ?_))
 refine zv (.lb 1 (u:=x)) 1 ?_
 refine zv .mv 2 ?_
 refine zv (.ub ((27:UInt8)*(sr8 x 7)) (u:=(27:UInt8)) (v:=(sr8 x 7))) 1 ?_
 refine zv (.xb ((sl8 x 1) ^^^ ((27:UInt8)*(sr8 x 7))) (u:=(sl8 x 1)) (v:=((27:UInt8)*(sr8 x 7)))) 3 ?_
 refine zv .mv 1 ?_
 refine zn (cxReg (zv .mv 8 ?_))
 refine zv (.rb 1 (u:=y)) 1 ?_
 refine zv .mv 1 ?_
 refine pxEnd (qxInN (qxThen (cxReg (zv (.add ((k+1:Nat):Int)) 4 ?_))))
 refine zv .mv 1 ?_
 refine pxEnd ?_
 exact zR4 (k+1) p ((sl8 x 1) ^^^ ((27:UInt8)*(sr8 x 7))) (sr8 y 1) ⟨hH,(by omega),(by rw [tmS_succ,if_neg (by rw [← hq]; exact byte_ne hc2 (by decide)),← hq])⟩ (by omega)
 refine cxExit (qxThenE (qxThenE (qxInE (qxThen ?_))))
 obtain rfl:k=8:=by omega
 refine zr (zv .mv 31 ?_)
 refine zv .mv 1 ?_
 refine zn (cxRet (qxRet1 0 rfl rfl ?_))
 exact ⟨by rw [show p=tmB a b from congrArg Prod.fst hq],HH.toBelow hH⟩
theorem sub_c (b:UInt8):Pure Tryz.prog 78 #[(.int .u8 (((b.toNat):Nat):Int))] (fun _=>True) (.int .u8 ((((subF b).toNat):Nat):Int)):=by
 refine pure_of (fn:=Tryz.f78) Tryz.func78 rfl Tryz.ntmps78 (Nat.le_of_ble_eq_true rfl) rfl ?_
 intro w0 hH hR
 refine zr (zv .mv 0 ?_)
 refine zn (zr (zv .mv 1 ?_))
 refine zn (zr (zv .mv 2 ?_))
 refine zv .mv 1 ?_
 refine zn (cxSeq (zr (zv .mv 0 ?_)))
 refine zn (cxBlock (zL1 (fun (k:Nat)=>[(5,(.int .i64 (((k+1):Nat):Int))),(4,(.int .u8 ((((sqS b k).2.toNat):Nat):Int))),(3,(.int .u8 ((((sqS b k).1.toNat):Nat):Int)))]) (fun k w=>HH w0 [] [] w∧(k≤7)) (fun k=>7 - k) 0 ⟨hH,(Nat.zero_le _)⟩ ?_))
 clear hH
 rintro k w ⟨hH,hk⟩
 refine cxSeq (zr (zv .mv 0 ?_))
 refine zv (.lt (k+1<8)) 1 ?_
 refine zn ?_
 refine zP (fun hc1 => ?_) (fun hc1 => ?_)
 refine cxSkip (qxThen (cxSeq (cxBlock (zr (zv .mv 1 ?_)))))
 refine zv .mv 4 ?_
 refine zc Tryz.func79 (times_c (sqS b k).2 (sqS b k).2) trivial hH 3 ?_
 clear hH
 intro w hH
 refine zv .mv 1 ?_
 refine zn (cxReg (zv .mv 4 ?_))
 refine zv .mv 0 ?_
 refine zc Tryz.func79 (times_c (sqS b k).1 (tmB (sqS b k).2 (sqS b k).2)) trivial hH 3 ?_
 clear hH
 intro w hH
 refine zv .mv 1 ?_
 refine pxEnd (qxInN (qxThen (cxReg (zv .mv 4 ?_))))
 refine zv (.add (((k+1+1):Nat):Int)) 1 ?_
 refine zv .mv 1 ?_
 refine pxEnd ?_
 exact zR1 (k+1) ⟨hH,(by omega)⟩ (by omega)
 refine cxExit (qxThenE (qxThenE (qxInE (qxThen ?_))))
 obtain rfl:k=7:=by omega
 refine zr (zv .mv 7 ?_)
 refine zn (cxSeq (zr (zv .mv 0 ?_)))
 refine zn (cxBlock (zL1 (fun (i:Nat)=>[(20,(.int .i64 (((i):Nat):Int))),(6,(.int .u8 ((((outS (sqS b 7).1 i).toNat):Nat):Int))),(3,(.int .u8 ((((sqS b 7).1.toNat):Nat):Int)))]) (fun i w=>HH w0 [] [] w∧(i≤8)) (fun i=>8 - i) 0 ⟨hH,(Nat.zero_le _)⟩ ?_))
 clear hH
 rintro i w ⟨hH,hi⟩
 refine zr (zv (.lt (i<8)) 0 ?_)
 refine zn (cxSeq ?_)
 refine zP (fun hc2 => ?_) (fun hc2 => ?_)
 refine cxSkip (qxThen (cxSeq (cxBlock (zr (zv .mv 1 ?_)))))
 refine zv .mv 1 ?_
 refine zn (zr (zv .mv 0 ?_))
 refine zv .mv 0 ?_
 refine zv (.cu .u64) 1 ?_
 refine zv (.rb i (u:=(sqS b 7).1)) 3 ?_
 refine zv .mv 0 ?_
 refine zv .mv 0 ?_
 refine zv (.add ((i+4:Nat):Int)) 1 ?_
 refine zv (v:=(.int .i64 ((((i+4)%8):Nat):Int))) (fun _ _ hF=>opRem (z:=(((i+4)%8:Nat):Int)) rfl (hF.ev 0 rfl) rfl (by omega) remN) 1 ?_
 refine zv (.cu .u64) 1 ?_
 refine zv (.rb ((i+4)%8) (u:=(sqS b 7).1)) 3 ?_
 refine zv (.xb ((sr8 (sqS b 7).1 i) ^^^ (sr8 (sqS b 7).1 ((i+4)%8))) (u:=(sr8 (sqS b 7).1 i)) (v:=(sr8 (sqS b 7).1 ((i+4)%8)))) 3 ?_
 refine zv .mv 0 ?_
 refine zv .mv 0 ?_
 refine zv (.add ((i+5:Nat):Int)) 1 ?_
 refine zv (v:=(.int .i64 ((((i+5)%8):Nat):Int))) (fun _ _ hF=>opRem (z:=(((i+5)%8:Nat):Int)) rfl (hF.ev 0 rfl) rfl (by omega) remN) 1 ?_
 refine zv (.cu .u64) 1 ?_
 refine zv (.rb ((i+5)%8) (u:=(sqS b 7).1)) 3 ?_
 refine zv (.xb (((sr8 (sqS b 7).1 i) ^^^ (sr8 (sqS b 7).1 ((i+4)%8))) ^^^ (sr8 (sqS b 7).1 ((i+5)%8))) (u:=((sr8 (sqS b 7).1 i) ^^^ (sr8 (sqS b 7).1 ((i+4)%8)))) (v:=(sr8 (sqS b 7).1 ((i+5)%8)))) 3 ?_
 refine zv .mv 0 ?_
 refine zv .mv 0 ?_
 refine zv (.add ((i+6:Nat):Int)) 1 ?_
 refine zv (v:=(.int .i64 ((((i+6)%8):Nat):Int))) (fun _ _ hF=>opRem (z:=(((i+6)%8:Nat):Int)) rfl (hF.ev 0 rfl) rfl (by omega) remN) 1 ?_
 refine zv (.cu .u64) 1 ?_
 refine zv (.rb ((i+6)%8) (u:=(sqS b 7).1)) 3 ?_
 refine zv (.xb ((((sr8 (sqS b 7).1 i) ^^^ (sr8 (sqS b 7).1 ((i+4)%8))) ^^^ (sr8 (sqS b 7).1 ((i+5)%8))) ^^^ (sr8 (sqS b 7).1 ((i+6)%8))) (u:=(((sr8 (sqS b 7).1 i) ^^^ (sr8 (sqS b 7).1 ((i+4)%8))) ^^^ (sr8 (sqS b 7).1 ((i+5)%8)))) (v:=(sr8 (sqS b 7).1 ((i+6)%8)))) 3 ?_
 refine zv .mv 0 ?_
 refine zv .mv 0 ?_
 refine zv (.add ((i+7:Nat):Int)) 1 ?_
 refine zv (v:=(.int .i64 ((((i+7)%8):Nat):Int))) (fun _ _ hF=>opRem (z:=(((i+7)%8:Nat):Int)) rfl (hF.ev 0 rfl) rfl (by omega) remN) 1 ?_
 refine zv (.cu .u64) 1 ?_
 refine zv (.rb ((i+7)%8) (u:=(sqS b 7).1)) 3 ?_
 refine zv (.xb (((((sr8 (sqS b 7).1 i) ^^^ (sr8 (sqS b 7).1 ((i+4)%8))) ^^^ (sr8 (sqS b 7).1 ((i+5)%8))) ^^^ (sr8 (sqS b 7).1 ((i+6)%8))) ^^^ (sr8 (sqS b 7).1 ((i+7)%8))) (u:=((((sr8 (sqS b 7).1 i) ^^^ (sr8 (sqS b 7).1 ((i+4)%8))) ^^^ (sr8 (sqS b 7).1 ((i+5)%8))) ^^^ (sr8 (sqS b 7).1 ((i+6)%8)))) (v:=(sr8 (sqS b 7).1 ((i+7)%8)))) 3 ?_
 refine zv .mv 0 ?_
 refine zv (.cu .u64) 1 ?_
 refine zv (.rb i (u:=(99:UInt8))) 1 ?_
 refine zv (.xb ((((((sr8 (sqS b 7).1 i) ^^^ (sr8 (sqS b 7).1 ((i+4)%8))) ^^^ (sr8 (sqS b 7).1 ((i+5)%8))) ^^^ (sr8 (sqS b 7).1 ((i+6)%8))) ^^^ (sr8 (sqS b 7).1 ((i+7)%8))) ^^^ (sr8 (99:UInt8) i)) (u:=(((((sr8 (sqS b 7).1 i) ^^^ (sr8 (sqS b 7).1 ((i+4)%8))) ^^^ (sr8 (sqS b 7).1 ((i+5)%8))) ^^^ (sr8 (sqS b 7).1 ((i+6)%8))) ^^^ (sr8 (sqS b 7).1 ((i+7)%8)))) (v:=(sr8 (99:UInt8) i))) 3 ?_
 refine zv .mv 1 ?_
 refine zn (cxReg (zv .mv 8 ?_))
 refine zv .mv 2 ?_
 refine zv (.ab (((((((sr8 (sqS b 7).1 i) ^^^ (sr8 (sqS b 7).1 ((i+4)%8))) ^^^ (sr8 (sqS b 7).1 ((i+5)%8))) ^^^ (sr8 (sqS b 7).1 ((i+6)%8))) ^^^ (sr8 (sqS b 7).1 ((i+7)%8))) ^^^ (sr8 (99:UInt8) i)) &&& (1:UInt8)) (u:=((((((sr8 (sqS b 7).1 i) ^^^ (sr8 (sqS b 7).1 ((i+4)%8))) ^^^ (sr8 (sqS b 7).1 ((i+5)%8))) ^^^ (sr8 (sqS b 7).1 ((i+6)%8))) ^^^ (sr8 (sqS b 7).1 ((i+7)%8))) ^^^ (sr8 (99:UInt8) i))) (v:=(1:UInt8))) 1 ?_
 refine zv .mv 4 ?_
 refine zv (.cu .u64) 1 ?_
 refine zv (.lb i (u:=(((((((sr8 (sqS b 7).1 i) ^^^ (sr8 (sqS b 7).1 ((i+4)%8))) ^^^ (sr8 (sqS b 7).1 ((i+5)%8))) ^^^ (sr8 (sqS b 7).1 ((i+6)%8))) ^^^ (sr8 (sqS b 7).1 ((i+7)%8))) ^^^ (sr8 (99:UInt8) i)) &&& (1:UInt8)))) 3 ?_
 refine zv (.ob ((outS (sqS b 7).1 i) ||| (sl8 (((((((sr8 (sqS b 7).1 i) ^^^ (sr8 (sqS b 7).1 ((i+4)%8))) ^^^ (sr8 (sqS b 7).1 ((i+5)%8))) ^^^ (sr8 (sqS b 7).1 ((i+6)%8))) ^^^ (sr8 (sqS b 7).1 ((i+7)%8))) ^^^ (sr8 (99:UInt8) i)) &&& (1:UInt8)) i)) (u:=(outS (sqS b 7).1 i)) (v:=(sl8 (((((((sr8 (sqS b 7).1 i) ^^^ (sr8 (sqS b 7).1 ((i+4)%8))) ^^^ (sr8 (sqS b 7).1 ((i+5)%8))) ^^^ (sr8 (sqS b 7).1 ((i+6)%8))) ^^^ (sr8 (sqS b 7).1 ((i+7)%8))) ^^^ (sr8 (99:UInt8) i)) &&& (1:UInt8)) i))) 3 ?_
 refine zv .mv 1 ?_
 refine pxEnd (qxInN (qxThen (cxReg (zv (.add ((i+1:Nat):Int)) 2 ?_))))
 refine zv .mv 1 ?_
 refine pxEnd ?_
 exact zR1 (i+1) ⟨hH,(by omega)⟩ (by omega)
 refine cxExit (qxThenE (qxThenE (qxInE (qxThen ?_))))
 obtain rfl:i=8:=by omega
 refine zr (zv .mv 15 ?_)
 refine zv .mv 1 ?_
 refine zn (cxRet (qxRet1 0 rfl rfl ?_))
 exact ⟨rfl,HH.toBelow hH⟩
theorem get_upF {W:Nat→UInt8} {m j:Nat} (h:j<m):upF m W (fun _=>0) j=W j:=upF_lt _ _ h
section
variable {l:List UInt8} {nk d k:Nat} {c:UInt8}
theorem rwdX (hd:0<nk) {j:Nat} (hj:j<4) (w:Nat→UInt8) (hw:w=upF (4*(nk+d)) (aeW l) fun _=>0):w (4*(nk+d - 1)+j)=aeW l (4*d+(4*nk - 4)+j):=by
 rw [hw,get_upF (by omega)]
 congr 1
 omega
theorem rwdA (hnk:l.length=4*nk) (h4:nk=4 ∨ nk=8) (hd:d<3*nk+28) (hA:(nk+d)%nk=0) (hc:c=rc ((d+(nk - 1)) / nk)) (w:Nat→UInt8) (hw:w=upF (4*(nk+d)) (aeW l) fun _=>0) (k:Nat) (hk:k<4) :
  aeW l (4*(nk+d)+k)=aeW l (4*d+k) ^^^ pk4 (boxF (w (4*(nk+d - 1)+1)).toNat ^^^ c) (boxF (w (4*(nk+d - 1)+2)).toNat) (boxF (w (4*(nk+d - 1)+3)).toNat) (boxF (w (4*(nk+d - 1)+0)).toNat) k:=by
 rw [Nat.add_comm nk d] at hA
 have h:=sched_A (by omega) (keyS hnk h4) d _ hd rfl hA k hk
 rw [show 4*d+(4*nk - 4)+4+k - 4*nk=4*d+k by omega,show 4*d+(4*nk - 4)+4+k=4*(nk+d)+k by omega] at h
 have h0:0<nk:=by omega
 rw [rwdX h0 (j:=0) (by decide) w hw,rwdX h0 (j:=1) (by decide) w hw,rwdX h0 (j:=2) (by decide) w hw,rwdX h0 (j:=3) (by decide) w hw,hc,h]
 unfold pk4 xr
 rcases (by omega:k=0 ∨ k=1 ∨ k=2 ∨ k=3) with rfl | rfl | rfl | rfl <;> simp
theorem rwdC (hnk:l.length=4*nk) (h4:nk=4 ∨ nk=8) (hd:d<3*nk+28) (hA:¬ (nk+d)%nk=0) (hC:nk=8∧(nk+d)%nk=4) (w:Nat→UInt8) (hw:w=upF (4*(nk+d)) (aeW l) fun _=>0) (k:Nat) (hk:k<4) :
  aeW l (4*(nk+d)+k)=aeW l (4*d+k) ^^^ pk4 (boxF (w (4*(nk+d - 1)+0)).toNat) (boxF (w (4*(nk+d - 1)+1)).toNat) (boxF (w (4*(nk+d - 1)+2)).toNat) (boxF (w (4*(nk+d - 1)+3)).toNat) k:=by
 rw [Nat.add_comm nk d] at hA hC
 have h:=sched_C (by omega) (keyS hnk h4) d _ hd rfl hA hC k hk
 rw [show 4*d+(4*nk - 4)+4+k - 4*nk=4*d+k by omega,show 4*d+(4*nk - 4)+4+k=4*(nk+d)+k by omega] at h
 have h0:0<nk:=by omega
 rw [rwdX h0 (j:=0) (by decide) w hw,rwdX h0 (j:=1) (by decide) w hw,rwdX h0 (j:=2) (by decide) w hw,rwdX h0 (j:=3) (by decide) w hw,h]
 unfold pk4 xr
 rcases (by omega:k=0 ∨ k=1 ∨ k=2 ∨ k=3) with rfl | rfl | rfl | rfl <;> simp
theorem rwdB (hnk:l.length=4*nk) (h4:nk=4 ∨ nk=8) (hd:d<3*nk+28) (hA:¬ (nk+d)%nk=0) (hC:¬ (nk=8∧(nk+d)%nk=4)) (w:Nat→UInt8) (hw:w=upF (4*(nk+d)) (aeW l) fun _=>0) (k:Nat) (hk:k<4) :
  aeW l (4*(nk+d)+k)=aeW l (4*d+k) ^^^ w (4*(nk+d - 1)+k):=by
 rw [Nat.add_comm nk d] at hA hC
 have h:=sched_B (by omega) (keyS hnk h4) d _ hd rfl hA hC k hk
 rw [show 4*d+(4*nk - 4)+4+k - 4*nk=4*d+k by omega,show 4*d+(4*nk - 4)+4+k=4*(nk+d)+k by omega] at h
 rw [rwdX (by omega) hk w hw,h]
 rfl
theorem row_put {w T:Nat→UInt8} {v:UInt8} (hw:w=upF (4*(nk+d)+k) (aeW l) fun _=>0) (_:k<4) (h0:0<nk) (hT:aeW l (4*(nk+d)+k)=aeW l (4*d+k) ^^^ T k) (hv:v=w (4*d+k) ^^^ T k):stF w (4*(nk+d)+k) v=upF (4*(nk+d)+(k+1)) (aeW l) fun _=>0:=by
 rw [hw]
 exact upF_step _ _ _ (by rw [hv,hw,get_upF (by omega),hT])
end
theorem new_r (A:Option Addr) (z:Nat) (l:List UInt8) (hk:l.length=16 ∨ l.length=32):Does Tryz.prog 40 #[(.slice A l.length z)] [] (fun w=>Vu cByte w A l.length z l) (fun v E' => ∃ g,v=.tuple #[.pointer (some ⟨g,0,none⟩),.bool true]∧E'=[bl g 107 (cCi.enc (boxF,bk boxF 256,(upF (16*(l.length / 4+7)) (aeW l) fun _=>0),(l.length / 4+6)))]):=by
 refine does_of (fn:=Tryz.f40) Tryz.func40 rfl Tryz.ntmps40 (Nat.le_of_ble_eq_true rfl) rfl ?_
 intro w0 hH hR
 replace hH:HH w0 [] [] w0:=hH.only [false]
 obtain ⟨nk,hnk,h4⟩:∃ nk,l.length=4*nk∧(nk=4 ∨ nk=8):=⟨l.length / 4,by omega,by omega⟩
 have hlk:=hR.len
 refine zr (zv .mv 0 ?_)
 refine zv .mv 1 ?_
 refine zn ?_
 refine cxJoin (σ:=Unit) (fun x=>[(0,(.slice A l.length z))]) (fun x w=>HH w0 [] [] w) ?_ ?_
 refine zr (zv .mv 1 ?_)
 refine zv .len 1 ?_
 refine zv (.ne (l.length≠16)) 1 ?_
 refine zv .mv 1 ?_
 refine pxSplitP 0 rfl (l1:=[(15,(.bool true)),(0,(.slice A l.length z))]) (l2:=[(15,(.bool false)),(0,(.slice A l.length z))]) rfl rfl (fun hg1 => ?_) (fun hg1 => ?_)
 refine pxV (v:=(.slice A l.length z)) (fun _ _ hF=>opMove rfl (hF.ev 1 rfl)) rfl (gOn 0 rfl rfl rfl (by decide)) (kA rfl) (by decide) ?_
 refine pxV (v:=(.int .i64 (((l.length):Nat):Int))) (fun _ _ hF=>opLen (e:=5) rfl (by kernel_rfl) (hF.ev 0 rfl)) rfl (gOn 1 rfl rfl rfl (by decide)) (kM [false,true,true] rfl rfl) (by decide) ?_
 refine pxV (v:=(.bool (decide (l.length≠32)))) (fun _ _ hF=>opNeI rfl (hF.ev 0 rfl) rfl (dc (by omega))) rfl (gOn 1 rfl rfl rfl (by decide)) (kM [false,true,true] rfl rfl) (by decide) ?_
 refine zv (v:=(.bool (decide (l.length≠32)))) (fun _ _ hF=>opPickT rfl (hF.ev 1 rfl) (hF.ev 0 rfl)) 3 ?_
 refine zn ?_
 refine zP (fun hc2 => ?_) (fun hc2 => ?_)
 omega
 refine cxSkip ?_
 exact qxJoin () hH (slots_at [1] rfl)
 refine pxU rfl (gOff 0 rfl rfl rfl (by decide)) (kA rfl) (by decide) ?_
 refine pxU rfl (gOff 0 rfl rfl rfl (by decide)) (kA rfl) (by decide) ?_
 refine pxU rfl (gOff 0 rfl rfl rfl (by decide)) (kA rfl) (by decide) ?_
 refine zv (v:=(.bool false)) (fun _ _ hF=>opPickF rfl (hF.ev 0 rfl) rfl) 1 ?_
 refine zn (zF ?_)
 refine cxSkip ?_
 exact qxJoin () hH (slots_at [1] rfl)
 clear hH
 rintro _u w hH
 change CX _ _ _ _ [(0,(.slice A l.length z))] _
 replace hH:HH w0 [] [] w:=hH
 refine zr (zv .mv 0 ?_)
 refine zv .len 1 ?_
 refine zv (v:=(.int .i64 (((l.length / 4):Nat):Int))) (fun _ _ hF=>opQuo (z:=((l.length / 4:Nat):Int)) rfl (hF.ev 0 rfl) rfl (by omega) (wI quoN (by omega) (by omega))) 1 ?_
 refine zv (.add (((l.length / 4)+6:Nat):Int)) 1 ?_
 refine zv (v:=(cCi.val (fun _=>0,fun _=>0,fun _=>0,(l.length / 4+6)))) (fun _ _ hF=>opBuildP (cells:=cCi.enc (fun _=>0,fun _=>0,fun _=>0,(l.length / 4+6))) (vals:=[(3,.int .i64 (((l.length / 4+6):Nat):Int))]) rfl (EvP.cons (v:=.int .i64 (((l.length / 4+6):Nat):Int)) (hF.ev 0 rfl) EvP.nil) (builtCi _ (by omega)) _) 1 ?_
 refine zm hH (.bx cCi (fun _=>0,fun _=>0,fun _=>0,(l.length / 4+6))) trivial 1 ?_
 clear hH
 rintro _ _ w ⟨g3,rfl,rfl⟩ hH
 refine zv .mv 1 ?_
 refine zn (cxSeq (zr (zv .mv 0 ?_)))
 refine zn (cxBlock ?_)
 have he4:cCi.enc (upF 0 boxF (fun _=>0),bk boxF 0,(fun _=>0),(l.length / 4+6))=cCi.enc (fun _=>0,fun _=>0,fun _=>0,(l.length / 4+6)):=ci_congr (fun j _=>by rw [upF_zero]) (fun _ _=>rfl) (fun _ _=>rfl)
 replace hH:HH w0 [] [[bl g3 107 (cCi.enc (upF 0 boxF (fun _=>0),bk boxF 0,(fun _=>0),(l.length / 4+6)))]] w:=by rw [he4]; exact hH
 refine zL1 (fun (i:Nat)=>[(26,(.int .i64 (((i):Nat):Int))),(4,(.pointer (some ⟨g3,0,none⟩))),(0,(.slice A l.length z))]) (fun i w=>HH w0 [] [[bl g3 107 (cCi.enc (upF i boxF (fun _=>0),bk boxF i,(fun _=>0),(l.length / 4+6)))]] w∧(i≤256)) (fun i=>256 - i) 0 ⟨hH,(Nat.zero_le _)⟩ ?_
 clear hH
 rintro i w ⟨hH,hi⟩
 refine zr (zv (.lt (i<256)) 0 ?_)
 refine zn (cxSeq ?_)
 refine zP (fun hc5 => ?_) (fun hc5 => ?_)
 refine cxSkip (qxThen (cxSeq (cxBlock (zr (zv .mv 1 ?_)))))
 refine zv .mv 1 ?_
 refine zn (zx ?_)
 replace hH:=hH.drew
 refine rv 0 .mv 0 ?_
 refine rv 1 .mv 0 ?_
 refine rv 2 .mv 0 ?_
 refine rv 3 .cb 1 ?_
 refine rv 5 .nc 4 ?_
 refine rv 6 (.fld 0) 1 ?_
 refine rx1k 4 (rpc 4 Tryz.func78 (sub_c (UInt8.ofNat i)) trivial hH 2 (.nil _ []) ?_)
 clear hH
 intro w hH
 refine ⟨pnil,?_⟩
 have hi6:i<256:=by omega
 refine rv 7 (.ia 1 256 i (hi:=hi6)) 6 ?_
 refine rx1k 8 ?_
 refine re0 8 0 hH rfl (.st cByte (subF (UInt8.ofNat i)) (by rw [Cod.size]; show 0+i*1+1≤753; omega) (put_fst (arr_set0 (upF i boxF (fun _=>0)) (subF (UInt8.ofNat i)) hi6) (by show 0+i*1+1≤256; omega))) trivial (.nil _ []) ?_
 clear hH
 rintro _ _ w rfl hH
 refine ⟨pnil,rn ?_⟩
 have he7:cCi.enc (upF (i+1) boxF (fun _=>0),bk boxF i,(fun _=>0),(l.length / 4+6))=cCi.enc ((stF (upF i boxF (fun _=>0)) i (subF (UInt8.ofNat i))),bk boxF i,(fun _=>0),(l.length / 4+6)):=ci_congr (fun j _=>(congrFun (upF_step i boxF (fun _=>0) (sub_box i (by omega))) j).symm) (fun _ _=>rfl) (fun _ _=>rfl)
 replace hH:HH w0 [] [[bl g3 107 (cCi.enc (upF (i+1) boxF (fun _=>0),bk boxF i,(fun _=>0),(l.length / 4+6)))]] w:=by rw [he7]; exact hH
 refine cxRegX mixedOrders (by kernel_rfl) ?_
 replace hH:=hH.drew
 refine rv 0 .mv 3 ?_
 refine rv 1 .mv 0 ?_
 refine rv 2 .mv 0 ?_
 refine rv 3 .nc 2 ?_
 refine rv 4 (.fld 0) 1 ?_
 have hi8:i<256:=by omega
 refine rv 5 (.ia 1 256 i (hi:=hi8)) 3 ?_
 refine rld 6 (hH.q 0 rfl) (.ld cByte ((upF (i+1) boxF (fun _=>0)) i) (fun _ hS=>((holds_blk0 hS).fst.elt hi8))) 1 ?_
 refine rv 7 .mv 4 ?_
 refine rv 8 .cb 1 ?_
 refine rv 9 .nc 4 ?_
 refine rv 10 (.fld 256) 1 ?_
 have hi9:((upF (i+1) boxF (fun _=>0)) i).toNat<256:=UInt8.toNat_lt _
 refine rv 11 (.ia 1 256 (((upF (i+1) boxF (fun _=>0)) i).toNat) (hi:=hi9)) 5 ?_
 refine rx1k 12 ?_
 refine re0 12 0 hH rfl (.st cByte (UInt8.ofNat i) (by rw [Cod.size]; show 256+(((upF (i+1) boxF (fun _=>0)) i).toNat)*1+1≤753; omega) (put_snA (a:=256) (o:=256+(((upF (i+1) boxF (fun _=>0)) i).toNat)*1) (put_fst (arr_set0 (bk boxF i) (UInt8.ofNat i) hi9) (by show 0+(((upF (i+1) boxF (fun _=>0)) i).toNat)*1+1≤256; omega)) (by omega))) trivial (pgo [] (.nil _ [])) ?_
 clear hH
 rintro _ _ w rfl hH
 refine ⟨pnil,rxEnd (by kernel_rfl) ?_⟩
 refine qxInN (qxThen (cxReg (zv (.add ((i+1:Nat):Int)) 7 ?_)))
 refine zv .mv 1 ?_
 refine pxEnd ?_
 have he10:cCi.enc (upF (i+1) boxF (fun _=>0),bk boxF (i+1),(fun _=>0),(l.length / 4+6))=cCi.enc (upF (i+1) boxF (fun _=>0),(stF (bk boxF i) (((upF (i+1) boxF (fun _=>0)) i).toNat) (UInt8.ofNat i)),(fun _=>0),(l.length / 4+6)):=ci_congr (fun _ _=>rfl) (fun j _=>by rw [upF_lt _ _ (Nat.lt_succ_self i)]; rfl) (fun _ _=>rfl)
 replace hH:HH w0 [] [[bl g3 107 (cCi.enc (upF (i+1) boxF (fun _=>0),bk boxF (i+1),(fun _=>0),(l.length / 4+6)))]] w:=by rw [he10]; exact hH
 exact zR1 (i+1) ⟨hH,(by omega)⟩ (by omega)
 refine cxExit (qxThenE (qxThenE (qxInE (qxThen ?_))))
 obtain rfl:i=256:=by omega
 have he11:cCi.enc (boxF,bk boxF 256,upF 0 (aeW l) (fun _=>0),(l.length / 4+6))=cCi.enc (upF 256 boxF (fun _=>0),bk boxF 256,(fun _=>0),(l.length / 4+6)):=ci_congr (fun j hj=>(upF_lt _ _ hj).symm) (fun _ _=>rfl) (fun j _=>by rw [upF_zero])
 replace hH:HH w0 [] [[bl g3 107 (cCi.enc (boxF,bk boxF 256,upF 0 (aeW l) (fun _=>0),(l.length / 4+6)))]] w:=by rw [he11]; exact hH
 refine zr (zv .mv 3 ?_)
 refine zv .len 1 ?_
 refine zv (v:=(.int .i64 (((nk):Nat):Int))) (fun _ _ hF=>opQuo rfl (hF.ev 0 rfl) rfl (by omega) (wI (quoN.trans (congrArg (fun q:Nat=>(q:Int)) (show l.length / 4=nk by omega))) (by omega) (by omega))) 1 ?_
 refine zv .mv 1 ?_
 refine zn (cxSeq (zr (zv .mv 0 ?_)))
 refine zv .len 1 ?_
 refine zv .mv 0 ?_
 refine zn (cxBlock (zL1 (fun (i:Nat)=>[(55,(.int .i64 (((i):Nat):Int))),(54,(.int .i64 (((l.length):Nat):Int))),(6,(.int .i64 (((nk):Nat):Int))),(4,(.pointer (some ⟨g3,0,none⟩))),(0,(.slice A l.length z))]) (fun i w=>HH w0 [] [[bl g3 107 (cCi.enc (boxF,bk boxF 256,upF i (aeW l) (fun _=>0),(l.length / 4+6)))]] w∧(i≤l.length)) (fun i=>l.length - i) 0 ⟨hH,(Nat.zero_le _)⟩ ?_))
 clear hH
 rintro i w ⟨hH,hi⟩
 refine zr (zv (.lt (i<l.length)) 0 ?_)
 refine zn (cxSeq ?_)
 refine zP (fun hc12 => ?_) (fun hc12 => ?_)
 refine cxSkip (qxThen (cxSeq (cxBlock (zr (zv .mv 1 ?_)))))
 refine zv .mv 1 ?_
 refine zn (cxRegX mixedOrders (by kernel_rfl) ?_)
 replace hH:=hH.drew
 refine rv 0 .mv 0 ?_
 refine rv 1 .mv 0 ?_
 refine rv 2 (v:=(.int .i64 (((i / 4):Nat):Int))) (fun _ _ hF=>opQuo (z:=((i / 4:Nat):Int)) rfl (hF.ev 0 rfl) rfl (by omega) (wI quoN (by omega) (by omega))) 1 ?_
 refine rv 3 .mv 0 ?_
 refine rv 4 (v:=(.int .i64 (((i%4):Nat):Int))) (fun _ _ hF=>opRem (z:=((i%4:Nat):Int)) rfl (hF.ev 0 rfl) rfl (by omega) remN) 1 ?_
 refine rv 5 .mv 0 ?_
 refine rv 6 .mv 16 ?_
 have hi13:i<l.length:=by omega
 obtain ⟨b14,off15,rfl,hL16,hb17,hR18⟩:=hR.blk (by decide) (Off.nil _ _) (by omega)
 have:=hR.cap
 have hj21:i<l.length:=by first | exact hi13 | (simp only [List.length_drop]; omega) | (simp only [List.length_drop,List.length_take]; omega) | omega
 obtain ⟨x19,hx20⟩:=get_at l i hj21
 have hb22:=UInt8.toNat_lt x19
 refine rv 7 (.ix 1 i (hi:=hi13)) 3 ?_
 refine rld 8 (S:=fun w=>HoldsL cByte w b14 off15 l) (hH.holdsL hL16 hb17 hR18) (.ld cByte x19 (fun _ hS=>(hS i _ hx20))) 1 ?_
 refine rv 9 .nc 8 ?_
 refine rv 10 (.fld 512) 1 ?_
 have hi23:i / 4<60:=by omega
 refine rv 11 (.ia 4 60 (i / 4) (hi:=hi23)) 9 ?_
 have hi24:i%4<4:=by omega
 refine rv 12 (.ia 1 4 (i%4) (hi:=hi24)) 5 ?_
 have hi25:4*(i / 4)+(i%4)<240:=by omega
 refine rx1k 13 ?_
 refine re0 13 0 hH rfl (.st cByte x19 (by rw [Cod.size]; show 512+(i / 4)*4+(i%4)*1+1≤753; omega) (put_snA (a:=256) (o:=512+(i / 4)*4+(i%4)*1) (put_snA (a:=256) (o:=256+(4*(i / 4)+(i%4))*1) (put_fst (arr_set0 (upF i (aeW l) (fun _=>0)) x19 hi25) (by show 0+(4*(i / 4)+(i%4))*1+1≤240; omega)) (by omega)) (by omega))) trivial (pgo [] (.nil _ [])) ?_
 clear hH
 rintro _ _ w rfl hH
 refine ⟨pnil,rxEnd (by kernel_rfl) ?_⟩
 refine qxInN (qxThen (cxReg (zv (.add ((i+1:Nat):Int)) 7 ?_)))
 refine zv .mv 1 ?_
 refine pxEnd ?_
 have he26:cCi.enc (boxF,bk boxF 256,upF (i+1) (aeW l) (fun _=>0),(l.length / 4+6))=cCi.enc (boxF,bk boxF 256,(stF (upF i (aeW l) (fun _=>0)) (4*(i / 4)+(i%4)) x19),(l.length / 4+6)):=ci_congr (fun _ _=>rfl) (fun _ _=>rfl) (fun j _=>by rw [show 4*(i / 4)+i%4=i by omega,upF_step i _ _ (by rw [known0 l hnk h4 (by omega)] at hx20; exact (Option.some.inj hx20).symm)])
 replace hH:HH w0 [] [[bl g3 107 (cCi.enc (boxF,bk boxF 256,upF (i+1) (aeW l) (fun _=>0),(l.length / 4+6)))]] w:=by rw [he26]; exact hH
 exact zR1 (i+1) ⟨hH,(by omega)⟩ (by omega)
 refine cxExit (qxThenE (qxThenE (qxInE (qxThen ?_))))
 obtain rfl:i=l.length:=by omega
 have he27:cCi.enc (boxF,bk boxF 256,upF (4*(nk+0)) (aeW l) (fun _=>0),(l.length / 4+6))=cCi.enc (boxF,bk boxF 256,upF l.length (aeW l) (fun _=>0),(l.length / 4+6)):=ci_congr (fun _ _=>rfl) (fun _ _=>rfl) (fun j _=>by rw [show 4*(nk+0)=l.length by omega])
 replace hH:HH w0 [] [[bl g3 107 (cCi.enc (boxF,bk boxF 256,upF (4*(nk+0)) (aeW l) (fun _=>0),(l.length / 4+6)))]] w:=by rw [he27]; exact hH
 refine zr (zv .mv 39 ?_)
 refine zn (cxSeq (zr (zv .mv 0 ?_)))
 refine zv .mv 1 ?_
 refine zn (cxBlock (zL2 (fun (d:Nat) (c:UInt8)=>[(9,(.int .i64 (((nk+d):Nat):Int))),(8,(.int .u8 (((c.toNat):Nat):Int))),(6,(.int .i64 (((nk):Nat):Int))),(4,(.pointer (some ⟨g3,0,none⟩)))]) (fun d c w=>HH w0 [] [[bl g3 107 (cCi.enc (boxF,bk boxF 256,upF (4*(nk+d)) (aeW l) (fun _=>0),(l.length / 4+6)))]] w∧(d≤3*nk+28)∧(c=rc ((d+(nk - 1)) / nk))) (fun d _=>3*nk+28 - d) 0 1 ⟨hH,(Nat.zero_le _),(by rw [Nat.zero_add,Nat.div_eq_of_lt (by omega)]; rfl)⟩ ?_))
 clear hH
 rintro d c w ⟨hH,hd,hcc⟩
 refine cxSeq (zr (zv .mv 0 ?_))
 refine zv .mv 0 ?_
 refine zv .nc 1 ?_
 refine zv (.fld 752) 1 ?_
 refine zs (hH.q 0 rfl) (.ld (cNat .i64) (l.length / 4+6) (fun _ hS=>(((holds_blk0 hS).snd).snd).snd)) 1 ?_
 refine zv (.mul ((4*(l.length / 4+6):Nat):Int)) 1 ?_
 refine zv (.add (((4*(l.length / 4+6))+4:Nat):Int)) 1 ?_
 refine zv (.lt (nk+d<(4*(l.length / 4+6))+4)) 3 ?_
 refine zn ?_
 refine zP (fun hc28 => ?_) (fun hc28 => ?_)
 refine cxSkip (qxThen (cxSeq (cxBlock (zr (zv .mv 1 ?_)))))
 refine zv .mv 0 ?_
 refine zv (.sub (((nk+d - 1):Nat):Int)) 1 ?_
 refine zv .nc 2 ?_
 refine zv (.fld 512) 1 ?_
 have hi29:nk+d - 1<60:=by omega
 refine zv (.ia 4 60 (nk+d - 1) (hi:=hi29)) 3 ?_
 refine zs (hH.q 0 rfl) (.ld (cArr 4) (fun q9=>(upF (4*(nk+d)) (aeW l) (fun _=>0)) (4*(nk+d - 1)+q9)) (fun _ hS=>(Holds.row ((((holds_blk0 hS).snd).snd).fst) (nk+d - 1) 4 (by omega)))) 1 ?_
 refine zm hH (.al (cArr 4) (fun _=>0)) trivial 0 ?_
 clear hH
 rintro _ _ w ⟨g30,rfl,rfl⟩ hH
 refine ze0 1 hH rfl (.sw (cArr 4) (fun _=>0) (fun q9=>(upF (4*(nk+d)) (aeW l) (fun _=>0)) (4*(nk+d - 1)+q9))) trivial ?_
 clear hH
 rintro _ _ w rfl hH
 refine zn ?_
 refine cxJoin (σ:=UInt8×(Nat→UInt8)) (fun x=>[(10,(.pointer (some ⟨g30,0,none⟩))),(9,(.int .i64 (((nk+d):Nat):Int))),(8,(.int .u8 (((x.1.toNat):Nat):Int))),(6,(.int .i64 (((nk):Nat):Int))),(4,(.pointer (some ⟨g3,0,none⟩)))]) (fun x w=>HH w0 [] [[bl g3 107 (cCi.enc (boxF,bk boxF 256,upF (4*(nk+d)) (aeW l) (fun _=>0),(l.length / 4+6)))],[bl g30 104 ((cArr 4).enc x.2)]] w∧(∀ k,k<4→aeW l (4*(nk+d)+k)=aeW l (4*d+k) ^^^ x.2 k)∧(x.1=rc ((d+1+(nk - 1)) / nk))) ?_ ?_
 refine zr (zv .mv 2 ?_)
 refine zv .mv 0 ?_
 refine zv (v:=(.int .i64 ((((nk+d)%nk):Nat):Int))) (fun _ _ hF=>opRem (z:=(((nk+d)%nk:Nat):Int)) rfl (hF.ev 1 rfl) (hF.ev 0 rfl) (by omega) remN) 3 ?_
 refine zv (.eq ((nk+d)%nk=0)) 1 ?_
 refine zn ?_
 refine zP (fun hc31 => ?_) (fun hc31 => ?_)
 refine zx ?_
 replace hH:=hH.drew
 refine rv 0 .mv 1 ?_
 have hi32:1<4:=by omega
 refine rv 1 (.ia 1 4 1 (hi:=hi32)) 0 ?_
 refine rld 2 (hH.q 1 rfl) (.ld cByte ((fun q9=>(upF (4*(nk+d)) (aeW l) (fun _=>0)) (4*(nk+d - 1)+q9)) 1) (fun _ hS=>((holds_blk0 hS).elt hi32))) 1 ?_
 refine rv 3 .nc 2 ?_
 refine rv 4 (.fld 0) 1 ?_
 have hi33:((fun q9=>(upF (4*(nk+d)) (aeW l) (fun _=>0)) (4*(nk+d - 1)+q9)) 1).toNat<256:=UInt8.toNat_lt _
 refine rv 5 (.ia 1 256 (((fun q9=>(upF (4*(nk+d)) (aeW l) (fun _=>0)) (4*(nk+d - 1)+q9)) 1).toNat) (hi:=hi33)) 3 ?_
 refine rld 6 (hH.q 0 rfl) (.ld cByte (boxF (((fun q9=>(upF (4*(nk+d)) (aeW l) (fun _=>0)) (4*(nk+d - 1)+q9)) 1).toNat)) (fun _ hS=>((holds_blk0 hS).fst.elt hi33))) 1 ?_
 refine rv 7 .mv 0 ?_
 refine rv 8 (.xb ((boxF (((fun q9=>(upF (4*(nk+d)) (aeW l) (fun _=>0)) (4*(nk+d - 1)+q9)) 1).toNat)) ^^^ c) (u:=(boxF (((fun q9=>(upF (4*(nk+d)) (aeW l) (fun _=>0)) (4*(nk+d - 1)+q9)) 1).toNat))) (v:=c)) 3 ?_
 refine rv 9 .mv 0 ?_
 have hi34:2<4:=by omega
 refine rv 10 (.ia 1 4 2 (hi:=hi34)) 0 ?_
 refine rld 11 (hH.q 1 rfl) (.ld cByte ((fun q9=>(upF (4*(nk+d)) (aeW l) (fun _=>0)) (4*(nk+d - 1)+q9)) 2) (fun _ hS=>((holds_blk0 hS).elt hi34))) 1 ?_
 refine rv 12 .nc 2 ?_
 refine rv 13 (.fld 0) 1 ?_
 have hi35:((fun q9=>(upF (4*(nk+d)) (aeW l) (fun _=>0)) (4*(nk+d - 1)+q9)) 2).toNat<256:=UInt8.toNat_lt _
 refine rv 14 (.ia 1 256 (((fun q9=>(upF (4*(nk+d)) (aeW l) (fun _=>0)) (4*(nk+d - 1)+q9)) 2).toNat) (hi:=hi35)) 3 ?_
 refine rld 15 (hH.q 0 rfl) (.ld cByte (boxF (((fun q9=>(upF (4*(nk+d)) (aeW l) (fun _=>0)) (4*(nk+d - 1)+q9)) 2).toNat)) (fun _ hS=>((holds_blk0 hS).fst.elt hi35))) 1 ?_
 refine rv 16 .mv 0 ?_
 have hi36:3<4:=by omega
 refine rv 17 (.ia 1 4 3 (hi:=hi36)) 0 ?_
 refine rld 18 (hH.q 1 rfl) (.ld cByte ((fun q9=>(upF (4*(nk+d)) (aeW l) (fun _=>0)) (4*(nk+d - 1)+q9)) 3) (fun _ hS=>((holds_blk0 hS).elt hi36))) 1 ?_
 refine rv 19 .nc 2 ?_
 refine rv 20 (.fld 0) 1 ?_
 have hi37:((fun q9=>(upF (4*(nk+d)) (aeW l) (fun _=>0)) (4*(nk+d - 1)+q9)) 3).toNat<256:=UInt8.toNat_lt _
 refine rv 21 (.ia 1 256 (((fun q9=>(upF (4*(nk+d)) (aeW l) (fun _=>0)) (4*(nk+d - 1)+q9)) 3).toNat) (hi:=hi37)) 3 ?_
 refine rld 22 (hH.q 0 rfl) (.ld cByte (boxF (((fun q9=>(upF (4*(nk+d)) (aeW l) (fun _=>0)) (4*(nk+d - 1)+q9)) 3).toNat)) (fun _ hS=>((holds_blk0 hS).fst.elt hi37))) 1 ?_
 refine rv 23 .mv 0 ?_
 have hi38:0<4:=by omega
 refine rv 24 (.ia 1 4 0 (hi:=hi38)) 0 ?_
 refine rld 25 (hH.q 1 rfl) (.ld cByte ((fun q9=>(upF (4*(nk+d)) (aeW l) (fun _=>0)) (4*(nk+d - 1)+q9)) 0) (fun _ hS=>((holds_blk0 hS).elt hi38))) 1 ?_
 refine rv 26 .nc 2 ?_
 refine rv 27 (.fld 0) 1 ?_
 have hi39:((fun q9=>(upF (4*(nk+d)) (aeW l) (fun _=>0)) (4*(nk+d - 1)+q9)) 0).toNat<256:=UInt8.toNat_lt _
 refine rv 28 (.ia 1 256 (((fun q9=>(upF (4*(nk+d)) (aeW l) (fun _=>0)) (4*(nk+d - 1)+q9)) 0).toNat) (hi:=hi39)) 3 ?_
 refine rld 29 (hH.q 0 rfl) (.ld cByte (boxF (((fun q9=>(upF (4*(nk+d)) (aeW l) (fun _=>0)) (4*(nk+d - 1)+q9)) 0).toNat)) (fun _ hS=>((holds_blk0 hS).fst.elt hi39))) 1 ?_
 refine rv 30 (v:=((cArr 4).val (pk4 ((boxF (upF (4*(nk+d)) (aeW l) (fun _=>0) (4*(nk+d - 1)+1)).toNat) ^^^ c) (boxF (upF (4*(nk+d)) (aeW l) (fun _=>0) (4*(nk+d - 1)+2)).toNat) (boxF (upF (4*(nk+d)) (aeW l) (fun _=>0) (4*(nk+d - 1)+3)).toNat) (boxF (upF (4*(nk+d)) (aeW l) (fun _=>0) (4*(nk+d - 1)+0)).toNat)))) (fun _ _ hF=>opBuildP (cells:=(cArr 4).enc (pk4 ((boxF (upF (4*(nk+d)) (aeW l) (fun _=>0) (4*(nk+d - 1)+1)).toNat) ^^^ c) (boxF (upF (4*(nk+d)) (aeW l) (fun _=>0) (4*(nk+d - 1)+2)).toNat) (boxF (upF (4*(nk+d)) (aeW l) (fun _=>0) (4*(nk+d - 1)+3)).toNat) (boxF (upF (4*(nk+d)) (aeW l) (fun _=>0) (4*(nk+d - 1)+0)).toNat))) (vals:=[(0,(.int .u8 (((((boxF (((fun q9=>(upF (4*(nk+d)) (aeW l) (fun _=>0)) (4*(nk+d - 1)+q9)) 1).toNat)) ^^^ c).toNat):Nat):Int))),(1,(.int .u8 ((((boxF (((fun q9=>(upF (4*(nk+d)) (aeW l) (fun _=>0)) (4*(nk+d - 1)+q9)) 2).toNat)).toNat):Nat):Int))),(2,(.int .u8 ((((boxF (((fun q9=>(upF (4*(nk+d)) (aeW l) (fun _=>0)) (4*(nk+d - 1)+q9)) 3).toNat)).toNat):Nat):Int))),(3,(.int .u8 ((((boxF (((fun q9=>(upF (4*(nk+d)) (aeW l) (fun _=>0)) (4*(nk+d - 1)+q9)) 0).toNat)).toNat):Nat):Int)))]) rfl (EvP.cons (v:=(.int .u8 (((((boxF (((fun q9=>(upF (4*(nk+d)) (aeW l) (fun _=>0)) (4*(nk+d - 1)+q9)) 1).toNat)) ^^^ c).toNat):Nat):Int))) (hF.ev 3 rfl) (EvP.cons (v:=(.int .u8 ((((boxF (((fun q9=>(upF (4*(nk+d)) (aeW l) (fun _=>0)) (4*(nk+d - 1)+q9)) 2).toNat)).toNat):Nat):Int))) (hF.ev 2 rfl) (EvP.cons (v:=(.int .u8 ((((boxF (((fun q9=>(upF (4*(nk+d)) (aeW l) (fun _=>0)) (4*(nk+d - 1)+q9)) 3).toNat)).toNat):Nat):Int))) (hF.ev 1 rfl) (EvP.cons (v:=(.int .u8 ((((boxF (((fun q9=>(upF (4*(nk+d)) (aeW l) (fun _=>0)) (4*(nk+d - 1)+q9)) 0).toNat)).toNat):Nat):Int))) (hF.ev 0 rfl) EvP.nil)))) (by kernel_rfl) _) 15 ?_
 refine rx1k 31 ?_
 refine re0 31 1 hH rfl (.sw (cArr 4) (fun q9=>(upF (4*(nk+d)) (aeW l) (fun _=>0)) (4*(nk+d - 1)+q9)) (pk4 ((boxF (upF (4*(nk+d)) (aeW l) (fun _=>0) (4*(nk+d - 1)+1)).toNat) ^^^ c) (boxF (upF (4*(nk+d)) (aeW l) (fun _=>0) (4*(nk+d - 1)+2)).toNat) (boxF (upF (4*(nk+d)) (aeW l) (fun _=>0) (4*(nk+d - 1)+3)).toNat) (boxF (upF (4*(nk+d)) (aeW l) (fun _=>0) (4*(nk+d - 1)+0)).toNat))) trivial (pgo [] (pgo [] (pgo [] (pgo [] (pgo [] (pgo [] (pgo [] (pgo [] (.nil _ []))))))))) ?_
 clear hH
 rintro _ _ w rfl hH
 refine ⟨pnil,rn ?_⟩
 refine cxReg (zv .mv 9 ?_)
 refine zc Tryz.func79 (times_c c 2) trivial hH 1 ?_
 clear hH
 intro w hH
 refine zv .mv 1 ?_
 refine pxEnd ?_
 exact qxJoin ((tmB c 2),(pk4 ((boxF (upF (4*(nk+d)) (aeW l) (fun _=>0) (4*(nk+d - 1)+1)).toNat) ^^^ c) (boxF (upF (4*(nk+d)) (aeW l) (fun _=>0) (4*(nk+d - 1)+2)).toNat) (boxF (upF (4*(nk+d)) (aeW l) (fun _=>0) (4*(nk+d - 1)+3)).toNat) (boxF (upF (4*(nk+d)) (aeW l) (fun _=>0) (4*(nk+d - 1)+0)).toNat))) ⟨hH,(show ∀ k,k<4→aeW l (4*(nk+d)+k)=aeW l (4*d+k) ^^^ (pk4 ((boxF (upF (4*(nk+d)) (aeW l) (fun _=>0) (4*(nk+d - 1)+1)).toNat) ^^^ c) (boxF (upF (4*(nk+d)) (aeW l) (fun _=>0) (4*(nk+d - 1)+2)).toNat) (boxF (upF (4*(nk+d)) (aeW l) (fun _=>0) (4*(nk+d - 1)+3)).toNat) (boxF (upF (4*(nk+d)) (aeW l) (fun _=>0) (4*(nk+d - 1)+0)).toNat)) k from (rwdA hnk h4 (by omega) (by omega) hcc (upF (4*(nk+d)) (aeW l) (fun _=>0)) rfl)),(show (tmB c 2)=rc ((d+1+(nk - 1)) / nk) from (by rw [hcc,tmx2]; exact rc_next h4 (by rw [Nat.add_comm]; omega)))⟩ (slots_at [1,2,0,3,4] rfl)
 refine zr (zv .mv 1 ?_)
 refine zv (.eq (nk=8)) 1 ?_
 refine zv .mv 1 ?_
 refine pxSplitP 0 rfl (l1:=[(129,(.bool true)),(10,(.pointer (some ⟨g30,0,none⟩))),(9,(.int .i64 (((nk+d):Nat):Int))),(8,(.int .u8 (((c.toNat):Nat):Int))),(6,(.int .i64 (((nk):Nat):Int))),(4,(.pointer (some ⟨g3,0,none⟩)))]) (l2:=[(129,(.bool false)),(10,(.pointer (some ⟨g30,0,none⟩))),(9,(.int .i64 (((nk+d):Nat):Int))),(8,(.int .u8 (((c.toNat):Nat):Int))),(6,(.int .i64 (((nk):Nat):Int))),(4,(.pointer (some ⟨g3,0,none⟩)))]) rfl rfl (fun hg40 => ?_) (fun hg40 => ?_)
 refine pxV (v:=(.int .i64 (((nk+d):Nat):Int))) (fun _ _ hF=>opMove rfl (hF.ev 2 rfl)) rfl (gOn 0 rfl rfl rfl (by decide)) (kA rfl) (by decide) ?_
 refine pxV (v:=(.int .i64 (((nk):Nat):Int))) (fun _ _ hF=>opMove rfl (hF.ev 5 rfl)) rfl (gOn 1 rfl rfl rfl (by decide)) (kA rfl) (by decide) ?_
 refine pxV (v:=(.int .i64 ((((nk+d)%nk):Nat):Int))) (fun _ _ hF=>opRem (z:=(((nk+d)%nk:Nat):Int)) rfl (hF.ev 1 rfl) (hF.ev 0 rfl) (by omega) remN) rfl (gOn 2 rfl rfl rfl (by decide)) (kM [false,false,true,true,true,true,true,true] rfl rfl) (by decide) ?_
 refine pxV (v:=(.bool (decide ((nk+d)%nk=4)))) (fun _ _ hF=>opEqI rfl (hF.ev 0 rfl) rfl (dc (by omega))) rfl (gOn 1 rfl rfl rfl (by decide)) (kM [false,true,true,true,true,true,true] rfl rfl) (by decide) ?_
 refine zv (v:=(.bool (decide ((nk+d)%nk=4)))) (fun _ _ hF=>opPickT rfl (hF.ev 1 rfl) (hF.ev 0 rfl)) 3 ?_
 refine zn ?_
 refine zP (fun hc41 => ?_) (fun hc41 => ?_)
 refine cxRegX mixedOrders (by kernel_rfl) ?_
 replace hH:=hH.drew
 refine rv 0 .mv 1 ?_
 have hi42:0<4:=by omega
 refine rv 1 (.ia 1 4 0 (hi:=hi42)) 0 ?_
 refine rld 2 (hH.q 1 rfl) (.ld cByte ((fun q9=>(upF (4*(nk+d)) (aeW l) (fun _=>0)) (4*(nk+d - 1)+q9)) 0) (fun _ hS=>((holds_blk0 hS).elt hi42))) 1 ?_
 refine rv 3 .nc 2 ?_
 refine rv 4 (.fld 0) 1 ?_
 have hi43:((fun q9=>(upF (4*(nk+d)) (aeW l) (fun _=>0)) (4*(nk+d - 1)+q9)) 0).toNat<256:=UInt8.toNat_lt _
 refine rv 5 (.ia 1 256 (((fun q9=>(upF (4*(nk+d)) (aeW l) (fun _=>0)) (4*(nk+d - 1)+q9)) 0).toNat) (hi:=hi43)) 3 ?_
 refine rld 6 (hH.q 0 rfl) (.ld cByte (boxF (((fun q9=>(upF (4*(nk+d)) (aeW l) (fun _=>0)) (4*(nk+d - 1)+q9)) 0).toNat)) (fun _ hS=>((holds_blk0 hS).fst.elt hi43))) 1 ?_
 refine rv 7 .mv 0 ?_
 have hi44:1<4:=by omega
 refine rv 8 (.ia 1 4 1 (hi:=hi44)) 0 ?_
 refine rld 9 (hH.q 1 rfl) (.ld cByte ((fun q9=>(upF (4*(nk+d)) (aeW l) (fun _=>0)) (4*(nk+d - 1)+q9)) 1) (fun _ hS=>((holds_blk0 hS).elt hi44))) 1 ?_
 refine rv 10 .nc 2 ?_
 refine rv 11 (.fld 0) 1 ?_
 have hi45:((fun q9=>(upF (4*(nk+d)) (aeW l) (fun _=>0)) (4*(nk+d - 1)+q9)) 1).toNat<256:=UInt8.toNat_lt _
 refine rv 12 (.ia 1 256 (((fun q9=>(upF (4*(nk+d)) (aeW l) (fun _=>0)) (4*(nk+d - 1)+q9)) 1).toNat) (hi:=hi45)) 3 ?_
 refine rld 13 (hH.q 0 rfl) (.ld cByte (boxF (((fun q9=>(upF (4*(nk+d)) (aeW l) (fun _=>0)) (4*(nk+d - 1)+q9)) 1).toNat)) (fun _ hS=>((holds_blk0 hS).fst.elt hi45))) 1 ?_
 refine rv 14 .mv 0 ?_
 have hi46:2<4:=by omega
 refine rv 15 (.ia 1 4 2 (hi:=hi46)) 0 ?_
 refine rld 16 (hH.q 1 rfl) (.ld cByte ((fun q9=>(upF (4*(nk+d)) (aeW l) (fun _=>0)) (4*(nk+d - 1)+q9)) 2) (fun _ hS=>((holds_blk0 hS).elt hi46))) 1 ?_
 refine rv 17 .nc 2 ?_
 refine rv 18 (.fld 0) 1 ?_
 have hi47:((fun q9=>(upF (4*(nk+d)) (aeW l) (fun _=>0)) (4*(nk+d - 1)+q9)) 2).toNat<256:=UInt8.toNat_lt _
 refine rv 19 (.ia 1 256 (((fun q9=>(upF (4*(nk+d)) (aeW l) (fun _=>0)) (4*(nk+d - 1)+q9)) 2).toNat) (hi:=hi47)) 3 ?_
 refine rld 20 (hH.q 0 rfl) (.ld cByte (boxF (((fun q9=>(upF (4*(nk+d)) (aeW l) (fun _=>0)) (4*(nk+d - 1)+q9)) 2).toNat)) (fun _ hS=>((holds_blk0 hS).fst.elt hi47))) 1 ?_
 refine rv 21 .mv 0 ?_
 have hi48:3<4:=by omega
 refine rv 22 (.ia 1 4 3 (hi:=hi48)) 0 ?_
 refine rld 23 (hH.q 1 rfl) (.ld cByte ((fun q9=>(upF (4*(nk+d)) (aeW l) (fun _=>0)) (4*(nk+d - 1)+q9)) 3) (fun _ hS=>((holds_blk0 hS).elt hi48))) 1 ?_
 refine rv 24 .nc 2 ?_
 refine rv 25 (.fld 0) 1 ?_
 have hi49:((fun q9=>(upF (4*(nk+d)) (aeW l) (fun _=>0)) (4*(nk+d - 1)+q9)) 3).toNat<256:=UInt8.toNat_lt _
 refine rv 26 (.ia 1 256 (((fun q9=>(upF (4*(nk+d)) (aeW l) (fun _=>0)) (4*(nk+d - 1)+q9)) 3).toNat) (hi:=hi49)) 3 ?_
 refine rld 27 (hH.q 0 rfl) (.ld cByte (boxF (((fun q9=>(upF (4*(nk+d)) (aeW l) (fun _=>0)) (4*(nk+d - 1)+q9)) 3).toNat)) (fun _ hS=>((holds_blk0 hS).fst.elt hi49))) 1 ?_
 refine rv 28 (v:=((cArr 4).val (pk4 (boxF (upF (4*(nk+d)) (aeW l) (fun _=>0) (4*(nk+d - 1)+0)).toNat) (boxF (upF (4*(nk+d)) (aeW l) (fun _=>0) (4*(nk+d - 1)+1)).toNat) (boxF (upF (4*(nk+d)) (aeW l) (fun _=>0) (4*(nk+d - 1)+2)).toNat) (boxF (upF (4*(nk+d)) (aeW l) (fun _=>0) (4*(nk+d - 1)+3)).toNat)))) (fun _ _ hF=>opBuildP (cells:=(cArr 4).enc (pk4 (boxF (upF (4*(nk+d)) (aeW l) (fun _=>0) (4*(nk+d - 1)+0)).toNat) (boxF (upF (4*(nk+d)) (aeW l) (fun _=>0) (4*(nk+d - 1)+1)).toNat) (boxF (upF (4*(nk+d)) (aeW l) (fun _=>0) (4*(nk+d - 1)+2)).toNat) (boxF (upF (4*(nk+d)) (aeW l) (fun _=>0) (4*(nk+d - 1)+3)).toNat))) (vals:=[(0,(.int .u8 ((((boxF (((fun q9=>(upF (4*(nk+d)) (aeW l) (fun _=>0)) (4*(nk+d - 1)+q9)) 0).toNat)).toNat):Nat):Int))),(1,(.int .u8 ((((boxF (((fun q9=>(upF (4*(nk+d)) (aeW l) (fun _=>0)) (4*(nk+d - 1)+q9)) 1).toNat)).toNat):Nat):Int))),(2,(.int .u8 ((((boxF (((fun q9=>(upF (4*(nk+d)) (aeW l) (fun _=>0)) (4*(nk+d - 1)+q9)) 2).toNat)).toNat):Nat):Int))),(3,(.int .u8 ((((boxF (((fun q9=>(upF (4*(nk+d)) (aeW l) (fun _=>0)) (4*(nk+d - 1)+q9)) 3).toNat)).toNat):Nat):Int)))]) rfl (EvP.cons (v:=(.int .u8 ((((boxF (((fun q9=>(upF (4*(nk+d)) (aeW l) (fun _=>0)) (4*(nk+d - 1)+q9)) 0).toNat)).toNat):Nat):Int))) (hF.ev 3 rfl) (EvP.cons (v:=(.int .u8 ((((boxF (((fun q9=>(upF (4*(nk+d)) (aeW l) (fun _=>0)) (4*(nk+d - 1)+q9)) 1).toNat)).toNat):Nat):Int))) (hF.ev 2 rfl) (EvP.cons (v:=(.int .u8 ((((boxF (((fun q9=>(upF (4*(nk+d)) (aeW l) (fun _=>0)) (4*(nk+d - 1)+q9)) 2).toNat)).toNat):Nat):Int))) (hF.ev 1 rfl) (EvP.cons (v:=(.int .u8 ((((boxF (((fun q9=>(upF (4*(nk+d)) (aeW l) (fun _=>0)) (4*(nk+d - 1)+q9)) 3).toNat)).toNat):Nat):Int))) (hF.ev 0 rfl) EvP.nil)))) (by kernel_rfl) _) 15 ?_
 refine rx1k 29 ?_
 refine re0 29 1 hH rfl (.sw (cArr 4) (fun q9=>(upF (4*(nk+d)) (aeW l) (fun _=>0)) (4*(nk+d - 1)+q9)) (pk4 (boxF (upF (4*(nk+d)) (aeW l) (fun _=>0) (4*(nk+d - 1)+0)).toNat) (boxF (upF (4*(nk+d)) (aeW l) (fun _=>0) (4*(nk+d - 1)+1)).toNat) (boxF (upF (4*(nk+d)) (aeW l) (fun _=>0) (4*(nk+d - 1)+2)).toNat) (boxF (upF (4*(nk+d)) (aeW l) (fun _=>0) (4*(nk+d - 1)+3)).toNat))) trivial (pgo [] (pgo [] (pgo [] (pgo [] (pgo [] (pgo [] (pgo [] (pgo [] (.nil _ []))))))))) ?_
 clear hH
 rintro _ _ w rfl hH
 refine ⟨pnil,rxEnd (by kernel_rfl) ?_⟩
 exact qxJoin (c,(pk4 (boxF (upF (4*(nk+d)) (aeW l) (fun _=>0) (4*(nk+d - 1)+0)).toNat) (boxF (upF (4*(nk+d)) (aeW l) (fun _=>0) (4*(nk+d - 1)+1)).toNat) (boxF (upF (4*(nk+d)) (aeW l) (fun _=>0) (4*(nk+d - 1)+2)).toNat) (boxF (upF (4*(nk+d)) (aeW l) (fun _=>0) (4*(nk+d - 1)+3)).toNat))) ⟨hH,(show ∀ k,k<4→aeW l (4*(nk+d)+k)=aeW l (4*d+k) ^^^ (pk4 (boxF (upF (4*(nk+d)) (aeW l) (fun _=>0) (4*(nk+d - 1)+0)).toNat) (boxF (upF (4*(nk+d)) (aeW l) (fun _=>0) (4*(nk+d - 1)+1)).toNat) (boxF (upF (4*(nk+d)) (aeW l) (fun _=>0) (4*(nk+d - 1)+2)).toNat) (boxF (upF (4*(nk+d)) (aeW l) (fun _=>0) (4*(nk+d - 1)+3)).toNat)) k from (rwdC hnk h4 (by omega) (by omega) (by omega) (upF (4*(nk+d)) (aeW l) (fun _=>0)) rfl)),(show c=rc ((d+1+(nk - 1)) / nk) from (hcc.trans (rc_same h4 (by rw [Nat.add_comm]; omega))))⟩ (slots_at [1,2,3,4,5] rfl)
 refine cxSkip ?_
 exact qxJoin (c,(fun q9=>(upF (4*(nk+d)) (aeW l) (fun _=>0)) (4*(nk+d - 1)+q9))) ⟨hH,(show ∀ k,k<4→aeW l (4*(nk+d)+k)=aeW l (4*d+k) ^^^ (fun q9=>(upF (4*(nk+d)) (aeW l) (fun _=>0)) (4*(nk+d - 1)+q9)) k from (rwdB hnk h4 (by omega) (by omega) (by omega) (upF (4*(nk+d)) (aeW l) (fun _=>0)) rfl)),(show c=rc ((d+1+(nk - 1)) / nk) from (hcc.trans (rc_same h4 (by rw [Nat.add_comm]; omega))))⟩ (slots_at [1,2,3,4,5] rfl)
 refine pxU rfl (gOff 0 rfl rfl rfl (by decide)) (kA rfl) (by decide) ?_
 refine pxU rfl (gOff 0 rfl rfl rfl (by decide)) (kA rfl) (by decide) ?_
 refine pxU rfl (gOff 0 rfl rfl rfl (by decide)) (kA rfl) (by decide) ?_
 refine pxU rfl (gOff 0 rfl rfl rfl (by decide)) (kA rfl) (by decide) ?_
 refine zv (v:=(.bool false)) (fun _ _ hF=>opPickF rfl (hF.ev 0 rfl) rfl) 1 ?_
 refine zn (zF ?_)
 refine cxSkip ?_
 exact qxJoin (c,(fun q9=>(upF (4*(nk+d)) (aeW l) (fun _=>0)) (4*(nk+d - 1)+q9))) ⟨hH,(show ∀ k,k<4→aeW l (4*(nk+d)+k)=aeW l (4*d+k) ^^^ (fun q9=>(upF (4*(nk+d)) (aeW l) (fun _=>0)) (4*(nk+d - 1)+q9)) k from (rwdB hnk h4 (by omega) (by omega) (by omega) (upF (4*(nk+d)) (aeW l) (fun _=>0)) rfl)),(show c=rc ((d+1+(nk - 1)) / nk) from (hcc.trans (rc_same h4 (by rw [Nat.add_comm]; omega))))⟩ (slots_at [1,2,3,4,5] rfl)
 clear hH
 rintro ⟨c2,T⟩ w ⟨hH,hT,hc2⟩
 change CX _ _ _ _ [(10,(.pointer (some ⟨g30,0,none⟩))),(9,(.int .i64 (((nk+d):Nat):Int))),(8,(.int .u8 (((c2.toNat):Nat):Int))),(6,(.int .i64 (((nk):Nat):Int))),(4,(.pointer (some ⟨g3,0,none⟩)))] _
 replace hH:HH w0 [] [[bl g3 107 (cCi.enc (boxF,bk boxF 256,upF (4*(nk+d)) (aeW l) (fun _=>0),(l.length / 4+6)))],[bl g30 104 ((cArr 4).enc T)]] w:=hH
 replace hT:∀ k,k<4→aeW l (4*(nk+d)+k)=aeW l (4*d+k) ^^^ T k:=hT
 replace hc2:c2=rc ((d+1+(nk - 1)) / nk):=hc2
 refine zr (zv .mv 0 ?_)
 refine zn (cxBlock ?_)
 have he50:cCi.enc (boxF,bk boxF 256,upF (4*(nk+d)+0) (aeW l) (fun _=>0),(l.length / 4+6))=cCi.enc (boxF,bk boxF 256,upF (4*(nk+d)) (aeW l) (fun _=>0),(l.length / 4+6)):=ci_congr (fun _ _=>rfl) (fun _ _=>rfl) (fun _ _=>rfl)
 replace hH:HH w0 [] [[bl g3 107 (cCi.enc (boxF,bk boxF 256,upF (4*(nk+d)+0) (aeW l) (fun _=>0),(l.length / 4+6)))],[bl g30 104 ((cArr 4).enc T)]] w:=by rw [he50]; exact hH
 refine zL1 (fun (k:Nat)=>[(164,(.int .i64 (((k):Nat):Int))),(10,(.pointer (some ⟨g30,0,none⟩))),(9,(.int .i64 (((nk+d):Nat):Int))),(8,(.int .u8 (((c2.toNat):Nat):Int))),(6,(.int .i64 (((nk):Nat):Int))),(4,(.pointer (some ⟨g3,0,none⟩)))]) (fun k w=>HH w0 [] [[bl g3 107 (cCi.enc (boxF,bk boxF 256,upF (4*(nk+d)+k) (aeW l) (fun _=>0),(l.length / 4+6)))],[bl g30 104 ((cArr 4).enc T)]] w∧(k≤4)) (fun k=>4 - k) 0 ⟨hH,(Nat.zero_le _)⟩ ?_
 clear hH
 rintro k w ⟨hH,hk2⟩
 refine zr (zv (.lt (k<4)) 0 ?_)
 refine zn (cxSeq ?_)
 refine zP (fun hc51 => ?_) (fun hc51 => ?_)
 refine cxSkip (qxThen (cxSeq (cxBlock (zr (zv .mv 1 ?_)))))
 refine zv .mv 1 ?_
 refine zn (cxRegX mixedOrders (by kernel_rfl) ?_)
 replace hH:=hH.drew
 refine rv 0 .mv 0 ?_
 refine rv 1 .mv 0 ?_
 refine rv 2 .mv 0 ?_
 refine rv 3 .mv 0 ?_
 refine rv 4 .mv 0 ?_
 refine rv 5 .mv 0 ?_
 refine rv 6 (.sub (((d):Nat):Int)) 3 ?_
 refine rv 7 .mv 0 ?_
 refine rv 8 .nc 4 ?_
 refine rv 9 (.fld 512) 1 ?_
 have hi52:d<60:=by omega
 refine rv 10 (.ia 4 60 d (hi:=hi52)) 5 ?_
 have hi53:k<4:=by omega
 refine rv 11 (.ia 1 4 k (hi:=hi53)) 3 ?_
 refine rld 12 (hH.q 0 rfl) (.ld cByte ((upF (4*(nk+d)+k) (aeW l) (fun _=>0)) (4*d+k)) (fun _ hS=>((Holds.row ((((holds_blk0 hS).snd).snd).fst) d 4 (by omega)).elt hi53))) 1 ?_
 refine rv 13 .mv 16 ?_
 have hi54:k<4:=by omega
 refine rv 14 (.ia 1 4 k (hi:=hi54)) 1 ?_
 refine rld 15 (hH.q 1 rfl) (.ld cByte (T k) (fun _ hS=>((holds_blk0 hS).elt hi54))) 1 ?_
 refine rv 16 (.xb (((upF (4*(nk+d)+k) (aeW l) (fun _=>0)) (4*d+k)) ^^^ (T k)) (u:=((upF (4*(nk+d)+k) (aeW l) (fun _=>0)) (4*d+k))) (v:=(T k))) 3 ?_
 refine rv 17 .nc 8 ?_
 refine rv 18 (.fld 512) 1 ?_
 have hi55:nk+d<60:=by omega
 refine rv 19 (.ia 4 60 (nk+d) (hi:=hi55)) 9 ?_
 have hi56:k<4:=by omega
 refine rv 20 (.ia 1 4 k (hi:=hi56)) 5 ?_
 have hi57:4*(nk+d)+k<240:=by omega
 refine rx1k 21 ?_
 refine re0 21 0 hH rfl (.st cByte (((upF (4*(nk+d)+k) (aeW l) (fun _=>0)) (4*d+k)) ^^^ (T k)) (by rw [Cod.size]; show 512+(nk+d)*4+k*1+1≤753; omega) (put_snA (a:=256) (o:=512+(nk+d)*4+k*1) (put_snA (a:=256) (o:=256+(4*(nk+d)+k)*1) (put_fst (arr_set0 (upF (4*(nk+d)+k) (aeW l) (fun _=>0)) (((upF (4*(nk+d)+k) (aeW l) (fun _=>0)) (4*d+k)) ^^^ (T k)) hi57) (by show 0+(4*(nk+d)+k)*1+1≤240; omega)) (by omega)) (by omega))) trivial (pgo [] (pgo [] (.nil _ []))) ?_
 clear hH
 rintro _ _ w rfl hH
 refine ⟨pnil,rxEnd (by kernel_rfl) ?_⟩
 refine qxInN (qxThen (cxReg (zv (.add ((k+1:Nat):Int)) 7 ?_)))
 refine zv .mv 1 ?_
 refine pxEnd ?_
 have he58:cCi.enc (boxF,bk boxF 256,upF (4*(nk+d)+(k+1)) (aeW l) (fun _=>0),(l.length / 4+6))=cCi.enc (boxF,bk boxF 256,(stF (upF (4*(nk+d)+k) (aeW l) (fun _=>0)) (4*(nk+d)+k) (((upF (4*(nk+d)+k) (aeW l) (fun _=>0)) (4*d+k)) ^^^ (T k))),(l.length / 4+6)):=ci_congr (fun _ _=>rfl) (fun _ _=>rfl) (fun j _=>(congrFun (row_put (T:=T) rfl (by omega) (by omega) (hT k (by omega)) rfl) j).symm)
 replace hH:HH w0 [] [[bl g3 107 (cCi.enc (boxF,bk boxF 256,upF (4*(nk+d)+(k+1)) (aeW l) (fun _=>0),(l.length / 4+6)))],[bl g30 104 ((cArr 4).enc T)]] w:=by rw [he58]; exact hH
 exact zR1 (k+1) ⟨hH,(by omega)⟩ (by omega)
 refine cxExit (qxThenE (qxThenE (qxInE (qxInN (qxThen ?_)))))
 obtain rfl:k=4:=by omega
 have he59:cCi.enc (boxF,bk boxF 256,upF (4*(nk+(d+1))) (aeW l) (fun _=>0),(l.length / 4+6))=cCi.enc (boxF,bk boxF 256,upF (4*(nk+d)+4) (aeW l) (fun _=>0),(l.length / 4+6)):=ci_congr (fun _ _=>rfl) (fun _ _=>rfl) (fun j _=>by rw [show 4*(nk+d)+4=4*(nk+(d+1)) by omega])
 replace hH:HH w0 [] [[bl g3 107 (cCi.enc (boxF,bk boxF 256,upF (4*(nk+(d+1))) (aeW l) (fun _=>0),(l.length / 4+6)))],[bl g30 104 ((cArr 4).enc T)]] w:=by rw [he59]; exact hH
 refine cxReg (zv .mv 15 ?_)
 refine zv (.add (((nk+(d+1)):Nat):Int)) 1 ?_
 refine zv .mv 1 ?_
 refine pxEnd ?_
 replace hH:HH w0 [] [[bl g3 107 (cCi.enc (boxF,bk boxF 256,upF (4*(nk+(d+1))) (aeW l) (fun _=>0),(l.length / 4+6)))]] w:=hH.only [true,false]
 exact zR2 (d+1) c2 ⟨hH,(by omega),hc2⟩ (by omega)
 refine cxExit (qxThenE (qxThenE (qxInE (qxThen ?_))))
 obtain rfl:d=3*nk+28:=by omega
 have he60:cCi.enc (boxF,bk boxF 256,(upF (16*(l.length / 4+7)) (aeW l) fun _=>0),(l.length / 4+6))=cCi.enc (boxF,bk boxF 256,upF (4*(nk+(3*nk+28))) (aeW l) (fun _=>0),(l.length / 4+6)):=ci_congr (fun _ _=>rfl) (fun _ _=>rfl) (fun j _=>by rw [show 4*(nk+(3*nk+28))=16*(l.length / 4+7) by omega])
 replace hH:HH w0 [] [[bl g3 107 (cCi.enc (boxF,bk boxF 256,(upF (16*(l.length / 4+7)) (aeW l) fun _=>0),(l.length / 4+6)))]] w:=by rw [he60]; exact hH
 refine zr (zv .mv 31 ?_)
 refine zv .mv 1 ?_
 refine zv .mv 0 ?_
 refine zn (cxRet (qxRet2 1 0 rfl rfl rfl ?_))
 exact ⟨_,_,rfl,⟨g3,rfl,rfl⟩,hH.out1 [true] rfl⟩
end Go.Proofs.YtajppfmjbkebfaaGreatDoor

namespace Go.Proofs.YtajppfmjbkebfaaGreatDoor
open Go Go.RowKit
set_option maxRecDepth 100000
section
variable {l:List UInt8} {b u:Nat→UInt8} {j m:Nat}
def eRd (l:List UInt8) (b:Nat→UInt8) (j:Nat):Nat→UInt8:=if j<l.length / 4+6 then encR boxF (aeW l) b j else aeE l b
theorem eRd_lt (h:j<l.length / 4+6):eRd l b j=encR boxF (aeW l) b j:=if_pos h
theorem eRd_last (h:l.length / 4+6=j+1):eRd l b (j+1)=added (shifted (boxed boxF (encR boxF (aeW l) b j))) (rk (aeW l) (j+1)):=by
 unfold eRd
 rw [if_neg (by omega)]
 unfold aeE enc aeR
 rw [h]
 rfl
theorem eRd_all:eRd l b (l.length / 4+6)=aeE l b:=if_neg (Nat.lt_irrefl _)
def dRd (l:List UInt8) (b:Nat→UInt8):Nat→Nat→UInt8
 | 0=>b
 | q+1=>decR (bk boxF 256) (aeR l) (aeW l) b q
theorem dRd_next {q:Nat}:dRd l b (q+1+1)=boxed (bk boxF 256) (unshifted (unmixed (added (dRd l b (q+1)) (rk (aeW l) (l.length / 4+6 - 1 - q))))):=rfl
theorem dRd_pos {q:Nat} (h:0<q):dRd l b (q+1)=boxed (bk boxF 256) (unshifted (unmixed (added (dRd l b q) (rk (aeW l) (l.length / 4+6 - q))))):=by
 obtain ⟨p,rfl⟩:∃ p,q=p+1:=⟨q - 1,by omega⟩
 rw [dRd_next,show l.length / 4+6 - 1 - p=l.length / 4+6 - (p+1) by omega]
def prU (m:Nat) (G f:Nat→UInt8):Nat→UInt8:=fun j=>if (j+j%4*12)%16<m then G j else f j
theorem prU_step {G f:Nat→UInt8} {v:UInt8} (hm:m<16) (hv:v=G ((m+m%4*4)%16)) (j:Nat) (hj:j<16):prU (m+1) G f j=stF (prU m G f) (4*(((m / 4)+(m%4))%4)+(m%4)) v j:=by
 rw [show 4*(((m / 4)+(m%4))%4)+(m%4)=(m+m%4*4)%16 by omega]
 unfold prU stF
 by_cases h:j=(m+m%4*4)%16
 ·rw [if_pos h,if_pos (by omega),hv,h]
 ·rw [if_neg h]
  show _=if (j+j%4*12)%16<m then G j else f j
  by_cases h2:(j+j%4*12)%16<m
  ·rw [if_pos h2,if_pos (by omega)]
  ·rw [if_neg h2,if_neg (by omega)]
theorem prU_all (G f:Nat→UInt8) (j:Nat):G j=prU 16 G f j:=(if_pos (by omega)).symm
theorem back_put (s:Nat→UInt8) (hm:m<16):s (u m).toNat=boxed s (unshifted u) ((m+m%4*4)%16):=by
 show _=s (u (((m+m%4*4)%16+(m+m%4*4)%16%4*12)%16)).toNat
 rw [show ((m+m%4*4)%16+(m+m%4*4)%16%4*12)%16=m by omega]
end
theorem put_r (g:Nat) (l:List UInt8) (hk:l.length=16 ∨ l.length=32) (f:Nat→UInt8) (r:Nat) (hr:r≤l.length / 4+6):Pure Tryz.prog 80 #[(.pointer (some ⟨g,0,none⟩)),((cArr 16).val f),(.int .i64 (((r):Nat):Int))] (fun w=>w.heap[g]?=some (.cells (cCi.enc (boxF,bk boxF 256,(upF (16*(l.length / 4+7)) (aeW l) fun _=>0),(l.length / 4+6))) 107 (0,0))) ((cArr 16).val (added f (rk (aeW l) r))):=by
 refine pure_of (fn:=Tryz.f80) Tryz.func80 rfl Tryz.ntmps80 (Nat.le_of_ble_eq_true rfl) rfl ?_
 intro w0 hH hR
 refine zr (zm hH (.bx (cArr 16) f) trivial 2 ?_)
 clear hH
 rintro _ _ w ⟨g1,rfl,rfl⟩ hH
 refine zm hH (.al (cArr 16) (fun _=>0)) trivial 0 ?_
 clear hH
 rintro _ _ w ⟨g2,rfl,rfl⟩ hH
 refine zn (cxSeq (zr (zv .mv 0 ?_)))
 refine zn (cxBlock ?_)
 have he3:(cArr 16).enc (upF 0 (added f (rk (aeW l) r)) f)=(cArr 16).enc f:=arr_congr (fun j _=>by rw [upF_zero])
 replace hH:HH w0 [] [[bl g1 51 ((cArr 16).enc (upF 0 (added f (rk (aeW l) r)) f))],[bl g2 51 ((cArr 16).enc (fun _=>0))]] w:=by rw [he3]; exact hH
 refine zL1 (fun (i:Nat)=>[(8,(.int .i64 (((i):Nat):Int))),(6,(.pointer (some ⟨g2,0,none⟩))),(4,(.pointer (some ⟨g1,0,none⟩))),(2,(.int .i64 (((r):Nat):Int))),(0,(.pointer (some ⟨g,0,none⟩)))]) (fun i w=>HH w0 [] [[bl g1 51 ((cArr 16).enc (upF i (added f (rk (aeW l) r)) f))],[bl g2 51 ((cArr 16).enc (fun _=>0))]] w∧(i≤16)) (fun i=>16 - i) 0 ⟨hH,(Nat.zero_le _)⟩ ?_
 clear hH
 rintro i w ⟨hH,hi⟩
 refine zr (zv (.lt (i<16)) 0 ?_)
 refine zn (cxSeq ?_)
 refine zP (fun hc4 => ?_) (fun hc4 => ?_)
 refine cxSkip (qxThen (cxSeq (cxBlock (zr (zv .mv 1 ?_)))))
 refine zv .mv 1 ?_
 refine zn (cxRegX mixedOrders (by kernel_rfl) ?_)
 replace hH:=hH.drew
 refine rv 0 .mv 0 ?_
 refine rv 1 .mv 0 ?_
 have hi5:i<16:=by omega
 refine rv 2 (.ia 1 16 i (hi:=hi5)) 1 ?_
 refine rld 3 (hH.q 0 rfl) (.ld cByte ((upF i (added f (rk (aeW l) r)) f) i) (fun _ hS=>((holds_blk0 hS).elt hi5))) 1 ?_
 refine rv 4 .mv 0 ?_
 refine rv 5 .mv 0 ?_
 refine rv 6 (.mul ((4*r:Nat):Int)) 1 ?_
 refine rv 7 .mv 0 ?_
 refine rv 8 (v:=(.int .i64 (((i / 4):Nat):Int))) (fun _ _ hF=>opQuo (z:=((i / 4:Nat):Int)) rfl (hF.ev 0 rfl) rfl (by omega) (wI quoN (by omega) (by omega))) 1 ?_
 refine rv 9 (.add (((4*r)+(i / 4):Nat):Int)) 3 ?_
 refine rv 10 .mv 16 ?_
 refine rv 11 (v:=(.int .i64 (((i%4):Nat):Int))) (fun _ _ hF=>opRem (z:=((i%4:Nat):Int)) rfl (hF.ev 0 rfl) rfl (by omega) remN) 1 ?_
 refine rv 12 .nc 4 ?_
 refine rv 13 (.fld 512) 1 ?_
 have hi6:(4*r)+(i / 4)<60:=by omega
 refine rv 14 (.ia 4 60 ((4*r)+(i / 4)) (hi:=hi6)) 5 ?_
 have hi7:i%4<4:=by omega
 refine rv 15 (.ia 1 4 (i%4) (hi:=hi7)) 3 ?_
 refine rld 16 (hH.ob hR) (.ld cByte ((upF (16*(l.length / 4+7)) (aeW l) fun _=>0) (4*((4*r)+(i / 4))+(i%4))) (fun _ hS=>((Holds.row ((((holds_blk0 hS).snd).snd).fst) ((4*r)+(i / 4)) 4 (by omega)).elt hi7))) 1 ?_
 refine rv 17 (.xb (((upF i (added f (rk (aeW l) r)) f) i) ^^^ ((upF (16*(l.length / 4+7)) (aeW l) fun _=>0) (4*((4*r)+(i / 4))+(i%4)))) (u:=((upF i (added f (rk (aeW l) r)) f) i)) (v:=((upF (16*(l.length / 4+7)) (aeW l) fun _=>0) (4*((4*r)+(i / 4))+(i%4))))) 3 ?_
 have hi8:i<16:=by omega
 refine rv 18 (.ia 1 16 i (hi:=hi8)) 2 ?_
 refine rx1k 19 ?_
 refine re0 19 0 hH rfl (.st cByte (((upF i (added f (rk (aeW l) r)) f) i) ^^^ ((upF (16*(l.length / 4+7)) (aeW l) fun _=>0) (4*((4*r)+(i / 4))+(i%4)))) (room_1 (S:=sBy) (C:=(cArr 16)) rfl hi8) (arr_set0 (upF i (added f (rk (aeW l) r)) f) (((upF i (added f (rk (aeW l) r)) f) i) ^^^ ((upF (16*(l.length / 4+7)) (aeW l) fun _=>0) (4*((4*r)+(i / 4))+(i%4)))) hi8)) trivial (pgo [] (pgo [] (.nil _ []))) ?_
 clear hH
 rintro _ _ w rfl hH
 refine ⟨pnil,rxEnd (by kernel_rfl) ?_⟩
 refine qxInN (qxThen (cxReg (zv (.add ((i+1:Nat):Int)) 7 ?_)))
 refine zv .mv 1 ?_
 refine pxEnd ?_
 have he9:(cArr 16).enc (upF (i+1) (added f (rk (aeW l) r)) f)=(cArr 16).enc (stF (upF i (added f (rk (aeW l) r)) f) i (((upF i (added f (rk (aeW l) r)) f) i) ^^^ ((upF (16*(l.length / 4+7)) (aeW l) fun _=>0) (4*((4*r)+(i / 4))+(i%4))))):=arr_congr (fun j _=>(congrFun (upF_step i (added f (rk (aeW l) r)) f (by rw [upF_at,show 4*(4*r+i / 4)+i%4=16*r+i by omega,upF_lt _ _ (by omega)]; rfl)) j).symm)
 replace hH:HH w0 [] [[bl g1 51 ((cArr 16).enc (upF (i+1) (added f (rk (aeW l) r)) f))],[bl g2 51 ((cArr 16).enc (fun _=>0))]] w:=by rw [he9]; exact hH
 exact zR1 (i+1) ⟨hH,(by omega)⟩ (by omega)
 refine cxExit (qxThenE (qxThenE (qxInE (qxThen ?_))))
 obtain rfl:i=16:=by omega
 have he10:(cArr 16).enc (added f (rk (aeW l) r))=(cArr 16).enc (upF 16 (added f (rk (aeW l) r)) f):=arr_congr (fun j hj=>(upF_lt _ _ hj).symm)
 replace hH:HH w0 [] [[bl g1 51 ((cArr 16).enc (added f (rk (aeW l) r)))],[bl g2 51 ((cArr 16).enc (fun _=>0))]] w:=by rw [he10]; exact hH
 refine zr (zs (hH.q 0 rfl) (.ld (cArr 16) (added f (rk (aeW l) r)) (fun _ hS=>(holds_blk0 hS))) 59 ?_)
 refine ze0 1 hH rfl (.sw (cArr 16) (fun _=>0) (added f (rk (aeW l) r))) trivial ?_
 clear hH
 rintro _ _ w rfl hH
 refine zn (cxRet (qxRetC 1 (hH.blk 1 rfl) rfl rfl (by kernel_rfl) (Cod.size _ _) (by kernel_rfl) ?_))
 exact ⟨rfl,HH.toBelow hH⟩
theorem enc_r (g:Nat) (l:List UInt8) (hk:l.length=16 ∨ l.length=32) (f:Nat→UInt8):Pure Tryz.prog 41 #[(.pointer (some ⟨g,0,none⟩)),((cArr 16).val f)] (fun w=>w.heap[g]?=some (.cells (cCi.enc (boxF,bk boxF 256,(upF (16*(l.length / 4+7)) (aeW l) fun _=>0),(l.length / 4+6))) 107 (0,0))) ((cArr 16).val (aeE l f)):=by
 refine pure_of (fn:=Tryz.f41) Tryz.func41 rfl Tryz.ntmps41 (Nat.le_of_ble_eq_true rfl) rfl ?_
 intro w0 hH hR
 refine zr (zm hH (.bx (cArr 16) f) trivial 2 ?_)
 clear hH
 rintro _ _ w ⟨g1,rfl,rfl⟩ hH
 refine zm hH (.al (cArr 16) (fun _=>0)) trivial 0 ?_
 clear hH
 rintro _ _ w ⟨g2,rfl,rfl⟩ hH
 refine zn (zr (zv .mv 0 ?_))
 refine zs (hH.q 0 rfl) (.ld (cArr 16) f (fun _ hS=>(holds_blk0 hS))) 0 ?_
 refine zc Tryz.func80 (put_r g l hk f 0 (by omega)) (hH.oldBlk hR (by simp)) hH 3 ?_
 clear hH
 intro w hH
 refine ze0 0 hH rfl (.sw (cArr 16) f (added f (rk (aeW l) 0))) trivial ?_
 clear hH
 rintro _ _ w rfl hH
 refine zn (cxSeq (zr (zv .mv 1 ?_)))
 refine zn (cxBlock ?_)
 have he3:(cArr 16).enc (eRd l f 0)=(cArr 16).enc (added f (rk (aeW l) 0)):=arr_congr (fun q _=>congrFun (eRd_lt (by omega)) q)
 replace hH:HH w0 [] [[bl g1 51 ((cArr 16).enc (eRd l f 0))],[bl g2 51 ((cArr 16).enc (fun _=>0))]] w:=by rw [he3]; exact hH
 refine zL1 (fun (y:Nat)=>[(5,(.int .i64 (((y+1):Nat):Int))),(4,(.pointer (some ⟨g2,0,none⟩))),(3,(.pointer (some ⟨g1,0,none⟩))),(0,(.pointer (some ⟨g,0,none⟩)))]) (fun y w=>HH w0 [] [[bl g1 51 ((cArr 16).enc (eRd l f y))],[bl g2 51 ((cArr 16).enc (fun _=>0))]] w∧(y≤(l.length / 4+6))) (fun y=>(l.length / 4+6) - y) 0 ⟨hH,(Nat.zero_le _)⟩ ?_
 clear hH
 rintro y w ⟨hH,hj⟩
 refine cxSeq (zr (zv .mv 0 ?_))
 refine zv .mv 0 ?_
 refine zv .nc 1 ?_
 refine zv (.fld 752) 1 ?_
 refine zs (hH.ob hR) (.ld (cNat .i64) (l.length / 4+6) (fun _ hS=>(((holds_blk0 hS).snd).snd).snd)) 1 ?_
 refine zv (.le (y+1≤(l.length / 4+6))) 3 ?_
 refine zn ?_
 refine zP (fun hc4 => ?_) (fun hc4 => ?_)
 refine cxSkip (qxThen (cxSeq (cxBlock ?_)))
 have he5:(cArr 16).enc (encR boxF (aeW l) f y)=(cArr 16).enc (eRd l f y):=arr_congr (fun q _=>(congrFun (eRd_lt (by omega)) q).symm)
 replace hH:HH w0 [] [[bl g1 51 ((cArr 16).enc (encR boxF (aeW l) f y))],[bl g2 51 ((cArr 16).enc (fun _=>0))]] w:=by rw [he5]; exact hH
 refine zr (zm hH (.al (cArr 16) (fun _=>0)) trivial 1 ?_)
 clear hH
 rintro _ _ w ⟨g6,rfl,rfl⟩ hH
 refine zm hH (.al (cArr 16) (fun _=>0)) trivial 0 ?_
 clear hH
 rintro _ _ w ⟨g7,rfl,rfl⟩ hH
 refine zn (cxSeq (zr (zv .mv 0 ?_)))
 refine zn (cxBlock ?_)
 have he8:(cArr 16).enc (upF 0 (shifted (boxed boxF (encR boxF (aeW l) f y))) (fun _=>0))=(cArr 16).enc (fun _=>0):=arr_congr (fun j _=>by rw [upF_zero])
 replace hH:HH w0 [] [[bl g1 51 ((cArr 16).enc (encR boxF (aeW l) f y))],[bl g2 51 ((cArr 16).enc (fun _=>0))],[bl g6 51 ((cArr 16).enc (upF 0 (shifted (boxed boxF (encR boxF (aeW l) f y))) (fun _=>0)))],[bl g7 51 ((cArr 16).enc (fun _=>0))]] w:=by rw [he8]; exact hH
 refine zL1 (fun (i:Nat)=>[(22,(.int .i64 (((i):Nat):Int))),(7,(.pointer (some ⟨g7,0,none⟩))),(6,(.pointer (some ⟨g6,0,none⟩))),(5,(.int .i64 (((y+1):Nat):Int))),(4,(.pointer (some ⟨g2,0,none⟩))),(3,(.pointer (some ⟨g1,0,none⟩))),(0,(.pointer (some ⟨g,0,none⟩)))]) (fun i w=>HH w0 [] [[bl g1 51 ((cArr 16).enc (encR boxF (aeW l) f y))],[bl g2 51 ((cArr 16).enc (fun _=>0))],[bl g6 51 ((cArr 16).enc (upF i (shifted (boxed boxF (encR boxF (aeW l) f y))) (fun _=>0)))],[bl g7 51 ((cArr 16).enc (fun _=>0))]] w∧(i≤16)) (fun i=>16 - i) 0 ⟨hH,(Nat.zero_le _)⟩ ?_
 clear hH
 rintro i w ⟨hH,hi⟩
 refine zr (zv (.lt (i<16)) 0 ?_)
 refine zn (cxSeq ?_)
 refine zP (fun hc9 => ?_) (fun hc9 => ?_)
 refine cxSkip (qxThen (cxSeq (cxBlock (zr (zv .mv 1 ?_)))))
 refine zv .mv 1 ?_
 refine zn (cxRegX mixedOrders (by kernel_rfl) ?_)
 replace hH:=hH.drew
 refine rv 0 .mv 0 ?_
 refine rv 1 .mv 0 ?_
 refine rv 2 .mv 0 ?_
 refine rv 3 (v:=(.int .i64 (((i / 4):Nat):Int))) (fun _ _ hF=>opQuo (z:=((i / 4:Nat):Int)) rfl (hF.ev 0 rfl) rfl (by omega) (wI quoN (by omega) (by omega))) 1 ?_
 refine rv 4 .mv 0 ?_
 refine rv 5 (v:=(.int .i64 (((i%4):Nat):Int))) (fun _ _ hF=>opRem (z:=((i%4:Nat):Int)) rfl (hF.ev 0 rfl) rfl (by omega) remN) 1 ?_
 refine rv 6 (.add (((i / 4)+(i%4):Nat):Int)) 3 ?_
 refine rv 7 (v:=(.int .i64 (((((i / 4)+(i%4))%4):Nat):Int))) (fun _ _ hF=>opRem (z:=((((i / 4)+(i%4))%4:Nat):Int)) rfl (hF.ev 0 rfl) rfl (by omega) remN) 1 ?_
 refine rv 8 (.mul ((4*(((i / 4)+(i%4))%4):Nat):Int)) 1 ?_
 refine rv 9 .mv 8 ?_
 refine rv 10 (v:=(.int .i64 (((i%4):Nat):Int))) (fun _ _ hF=>opRem (z:=((i%4:Nat):Int)) rfl (hF.ev 0 rfl) rfl (by omega) remN) 1 ?_
 refine rv 11 (.add (((4*(((i / 4)+(i%4))%4))+(i%4):Nat):Int)) 3 ?_
 have hi10:(4*(((i / 4)+(i%4))%4))+(i%4)<16:=by omega
 refine rv 12 (.ia 1 16 ((4*(((i / 4)+(i%4))%4))+(i%4)) (hi:=hi10)) 1 ?_
 refine rld 13 (hH.q 0 rfl) (.ld cByte ((encR boxF (aeW l) f y) ((4*(((i / 4)+(i%4))%4))+(i%4))) (fun _ hS=>((holds_blk0 hS).elt hi10))) 1 ?_
 refine rv 14 .nc 2 ?_
 refine rv 15 (.fld 0) 1 ?_
 have hi11:((encR boxF (aeW l) f y) ((4*(((i / 4)+(i%4))%4))+(i%4))).toNat<256:=UInt8.toNat_lt _
 refine rv 16 (.ia 1 256 (((encR boxF (aeW l) f y) ((4*(((i / 4)+(i%4))%4))+(i%4))).toNat) (hi:=hi11)) 3 ?_
 refine rld 17 (hH.ob hR) (.ld cByte (boxF (((encR boxF (aeW l) f y) ((4*(((i / 4)+(i%4))%4))+(i%4))).toNat)) (fun _ hS=>((holds_blk0 hS).fst.elt hi11))) 1 ?_
 have hi12:i<16:=by omega
 refine rv 18 (.ia 1 16 i (hi:=hi12)) 2 ?_
 refine rx1k 19 ?_
 refine re0 19 2 hH rfl (.st cByte (boxF (((encR boxF (aeW l) f y) ((4*(((i / 4)+(i%4))%4))+(i%4))).toNat)) (room_1 (S:=sBy) (C:=(cArr 16)) rfl hi12) (arr_set0 (upF i (shifted (boxed boxF (encR boxF (aeW l) f y))) (fun _=>0)) (boxF (((encR boxF (aeW l) f y) ((4*(((i / 4)+(i%4))%4))+(i%4))).toNat)) hi12)) trivial (pgo [] (pgo [] (.nil _ []))) ?_
 clear hH
 rintro _ _ w rfl hH
 refine ⟨pnil,rxEnd (by kernel_rfl) ?_⟩
 refine qxInN (qxThen (cxReg (zv (.add ((i+1:Nat):Int)) 7 ?_)))
 refine zv .mv 1 ?_
 refine pxEnd ?_
 have he13:(cArr 16).enc (upF (i+1) (shifted (boxed boxF (encR boxF (aeW l) f y))) (fun _=>0))=(cArr 16).enc (stF (upF i (shifted (boxed boxF (encR boxF (aeW l) f y))) (fun _=>0)) i (boxF (((encR boxF (aeW l) f y) ((4*(((i / 4)+(i%4))%4))+(i%4))).toNat))):=arr_congr (fun j _=>(congrFun (upF_step i (shifted (boxed boxF (encR boxF (aeW l) f y))) (fun _=>0) (by rw [show 4*(((i / 4)+(i%4))%4)+(i%4)=(i+i%4*4)%16 by omega]; rfl)) j).symm)
 replace hH:HH w0 [] [[bl g1 51 ((cArr 16).enc (encR boxF (aeW l) f y))],[bl g2 51 ((cArr 16).enc (fun _=>0))],[bl g6 51 ((cArr 16).enc (upF (i+1) (shifted (boxed boxF (encR boxF (aeW l) f y))) (fun _=>0)))],[bl g7 51 ((cArr 16).enc (fun _=>0))]] w:=by rw [he13]; exact hH
 exact zR1 (i+1) ⟨hH,(by omega)⟩ (by omega)
 refine cxExit (qxThenE (qxThenE (qxInE (qxThen ?_))))
 obtain rfl:i=16:=by omega
 have he14:(cArr 16).enc (shifted (boxed boxF (encR boxF (aeW l) f y)))=(cArr 16).enc (upF 16 (shifted (boxed boxF (encR boxF (aeW l) f y))) (fun _=>0)):=arr_congr (fun j hj=>(upF_lt _ _ hj).symm)
 replace hH:HH w0 [] [[bl g1 51 ((cArr 16).enc (encR boxF (aeW l) f y))],[bl g2 51 ((cArr 16).enc (fun _=>0))],[bl g6 51 ((cArr 16).enc (shifted (boxed boxF (encR boxF (aeW l) f y))))],[bl g7 51 ((cArr 16).enc (fun _=>0))]] w:=by rw [he14]; exact hH
 refine zr (zs (hH.q 2 rfl) (.ld (cArr 16) (shifted (boxed boxF (encR boxF (aeW l) f y))) (fun _ hS=>(holds_blk0 hS))) 3 ?_)
 refine ze0 3 hH rfl (.sw (cArr 16) (fun _=>0) (shifted (boxed boxF (encR boxF (aeW l) f y)))) trivial ?_
 clear hH
 rintro _ _ w rfl hH
 refine zn (cxSeq (zr (zv .mv 1 ?_)))
 refine zv .mv 0 ?_
 refine zv .nc 1 ?_
 refine zv (.fld 752) 1 ?_
 refine zs (hH.ob hR) (.ld (cNat .i64) (l.length / 4+6) (fun _ hS=>(((holds_blk0 hS).snd).snd).snd)) 1 ?_
 refine zv (.lt (y+1<(l.length / 4+6))) 3 ?_
 refine zn ?_
 refine zP (fun hc15 => ?_) (fun hc15 => ?_)
 refine zr (zv .mv 1 ?_)
 refine zn (cxBlock ?_)
 have he16:(cArr 16).enc (upF 0 (mixed (shifted (boxed boxF (encR boxF (aeW l) f y)))) (shifted (boxed boxF (encR boxF (aeW l) f y))))=(cArr 16).enc (shifted (boxed boxF (encR boxF (aeW l) f y))):=arr_congr (fun j _=>by rw [upF_zero])
 replace hH:HH w0 [] [[bl g1 51 ((cArr 16).enc (encR boxF (aeW l) f y))],[bl g2 51 ((cArr 16).enc (fun _=>0))],[bl g6 51 ((cArr 16).enc (shifted (boxed boxF (encR boxF (aeW l) f y))))],[bl g7 51 ((cArr 16).enc (upF 0 (mixed (shifted (boxed boxF (encR boxF (aeW l) f y)))) (shifted (boxed boxF (encR boxF (aeW l) f y)))))]] w:=by rw [he16]; exact hH
 refine zL1 (fun (i:Nat)=>[(52,(.int .i64 (((i):Nat):Int))),(7,(.pointer (some ⟨g7,0,none⟩))),(6,(.pointer (some ⟨g6,0,none⟩))),(5,(.int .i64 (((y+1):Nat):Int))),(4,(.pointer (some ⟨g2,0,none⟩))),(3,(.pointer (some ⟨g1,0,none⟩))),(0,(.pointer (some ⟨g,0,none⟩)))]) (fun i w=>HH w0 [] [[bl g1 51 ((cArr 16).enc (encR boxF (aeW l) f y))],[bl g2 51 ((cArr 16).enc (fun _=>0))],[bl g6 51 ((cArr 16).enc (shifted (boxed boxF (encR boxF (aeW l) f y))))],[bl g7 51 ((cArr 16).enc (upF i (mixed (shifted (boxed boxF (encR boxF (aeW l) f y)))) (shifted (boxed boxF (encR boxF (aeW l) f y)))))]] w∧(i≤16)) (fun i=>16 - i) 0 ⟨hH,(Nat.zero_le _)⟩ ?_
 clear hH
 rintro i w ⟨hH,hi⟩
 refine zr (zv (.lt (i<16)) 0 ?_)
 refine zn (cxSeq ?_)
 refine zP (fun hc17 => ?_) (fun hc17 => ?_)
 refine cxSkip (qxThen (cxSeq (cxBlock (zr (zv .mv 1 ?_)))))
 refine zv .mv 1 ?_
 refine zn (zr (zv .mv 0 ?_))
 refine zv (v:=(.int .i64 (((i / 4):Nat):Int))) (fun _ _ hF=>opQuo (z:=((i / 4:Nat):Int)) rfl (hF.ev 0 rfl) rfl (by omega) (wI quoN (by omega) (by omega))) 1 ?_
 refine zv (.mul ((4*(i / 4):Nat):Int)) 1 ?_
 refine zv .mv 1 ?_
 refine zn (cxRegX mixedOrders (by kernel_rfl) ?_)
 replace hH:=hH.drew
 refine rv 0 .mv 0 ?_
 refine rv 1 .mv 0 ?_
 have hi18:i<16:=by omega
 refine rv 2 (.ia 1 16 i (hi:=hi18)) 1 ?_
 refine rld 3 (hH.q 2 rfl) (.ld cByte ((shifted (boxed boxF (encR boxF (aeW l) f y))) i) (fun _ hS=>((holds_blk0 hS).elt hi18))) 1 ?_
 refine rv 5 .mv 0 ?_
 refine rv 6 .mv 0 ?_
 refine rv 7 (.add ((i+1:Nat):Int)) 1 ?_
 refine rv 8 (v:=(.int .i64 ((((i+1)%4):Nat):Int))) (fun _ _ hF=>opRem (z:=(((i+1)%4:Nat):Int)) rfl (hF.ev 0 rfl) rfl (by omega) remN) 1 ?_
 refine rv 9 (.add (((4*(i / 4))+((i+1)%4):Nat):Int)) 3 ?_
 have hi19:(4*(i / 4))+((i+1)%4)<16:=by omega
 refine rv 10 (.ia 1 16 ((4*(i / 4))+((i+1)%4)) (hi:=hi19)) 1 ?_
 refine rld 11 (hH.q 2 rfl) (.ld cByte ((shifted (boxed boxF (encR boxF (aeW l) f y))) ((4*(i / 4))+((i+1)%4))) (fun _ hS=>((holds_blk0 hS).elt hi19))) 1 ?_
 refine rv 14 .mv 0 ?_
 refine rv 15 .mv 0 ?_
 refine rv 16 (.add ((i+2:Nat):Int)) 1 ?_
 refine rv 17 (v:=(.int .i64 ((((i+2)%4):Nat):Int))) (fun _ _ hF=>opRem (z:=(((i+2)%4:Nat):Int)) rfl (hF.ev 0 rfl) rfl (by omega) remN) 1 ?_
 refine rv 18 (.add (((4*(i / 4))+((i+2)%4):Nat):Int)) 3 ?_
 have hi20:(4*(i / 4))+((i+2)%4)<16:=by omega
 refine rv 19 (.ia 1 16 ((4*(i / 4))+((i+2)%4)) (hi:=hi20)) 1 ?_
 refine rld 20 (hH.q 2 rfl) (.ld cByte ((shifted (boxed boxF (encR boxF (aeW l) f y))) ((4*(i / 4))+((i+2)%4))) (fun _ hS=>((holds_blk0 hS).elt hi20))) 1 ?_
 refine rv 22 .mv 16 ?_
 refine rv 23 .mv 32 ?_
 refine rv 24 (.add ((i+3:Nat):Int)) 1 ?_
 refine rv 25 (v:=(.int .i64 ((((i+3)%4):Nat):Int))) (fun _ _ hF=>opRem (z:=(((i+3)%4:Nat):Int)) rfl (hF.ev 0 rfl) rfl (by omega) remN) 1 ?_
 refine rv 26 (.add (((4*(i / 4))+((i+3)%4):Nat):Int)) 3 ?_
 have hi21:(4*(i / 4))+((i+3)%4)<16:=by omega
 refine rv 27 (.ia 1 16 ((4*(i / 4))+((i+3)%4)) (hi:=hi21)) 1 ?_
 refine rld 28 (hH.q 2 rfl) (.ld cByte ((shifted (boxed boxF (encR boxF (aeW l) f y))) ((4*(i / 4))+((i+3)%4))) (fun _ hS=>((holds_blk0 hS).elt hi21))) 1 ?_
 refine rx1k 4 (rpc 4 Tryz.func79 (times_c 2 ((shifted (boxed boxF (encR boxF (aeW l) f y))) i)) trivial hH 8 (.keep (.keep (.keep (pgo [] (.nil _ []))))) ?_)
 clear hH
 intro w hH
 refine ⟨pcons (hH.blk 2 rfl) (pcons (hH.blk 2 rfl) (pcons (hH.blk 2 rfl) pnil)),?_⟩
 refine rx1k 12 (rpc 12 Tryz.func79 (times_c 3 ((shifted (boxed boxF (encR boxF (aeW l) f y))) ((4*(i / 4))+((i+1)%4)))) trivial hH 8 (.keep (.keep (pgo [] (.nil _ [])))) ?_)
 clear hH
 intro w hH
 refine ⟨pcons (hH.blk 2 rfl) (pcons (hH.blk 2 rfl) pnil),?_⟩
 refine rv 13 (.xb ((tmB 2 ((shifted (boxed boxF (encR boxF (aeW l) f y))) i)) ^^^ (tmB 3 ((shifted (boxed boxF (encR boxF (aeW l) f y))) ((4*(i / 4))+((i+1)%4))))) (u:=(tmB 2 ((shifted (boxed boxF (encR boxF (aeW l) f y))) i))) (v:=(tmB 3 ((shifted (boxed boxF (encR boxF (aeW l) f y))) ((4*(i / 4))+((i+1)%4)))))) 3 ?_
 refine rv 21 (.xb (((tmB 2 ((shifted (boxed boxF (encR boxF (aeW l) f y))) i)) ^^^ (tmB 3 ((shifted (boxed boxF (encR boxF (aeW l) f y))) ((4*(i / 4))+((i+1)%4))))) ^^^ ((shifted (boxed boxF (encR boxF (aeW l) f y))) ((4*(i / 4))+((i+2)%4)))) (u:=((tmB 2 ((shifted (boxed boxF (encR boxF (aeW l) f y))) i)) ^^^ (tmB 3 ((shifted (boxed boxF (encR boxF (aeW l) f y))) ((4*(i / 4))+((i+1)%4)))))) (v:=((shifted (boxed boxF (encR boxF (aeW l) f y))) ((4*(i / 4))+((i+2)%4))))) 5 ?_
 refine rv 29 (.xb ((((tmB 2 ((shifted (boxed boxF (encR boxF (aeW l) f y))) i)) ^^^ (tmB 3 ((shifted (boxed boxF (encR boxF (aeW l) f y))) ((4*(i / 4))+((i+1)%4))))) ^^^ ((shifted (boxed boxF (encR boxF (aeW l) f y))) ((4*(i / 4))+((i+2)%4)))) ^^^ ((shifted (boxed boxF (encR boxF (aeW l) f y))) ((4*(i / 4))+((i+3)%4)))) (u:=(((tmB 2 ((shifted (boxed boxF (encR boxF (aeW l) f y))) i)) ^^^ (tmB 3 ((shifted (boxed boxF (encR boxF (aeW l) f y))) ((4*(i / 4))+((i+1)%4))))) ^^^ ((shifted (boxed boxF (encR boxF (aeW l) f y))) ((4*(i / 4))+((i+2)%4))))) (v:=((shifted (boxed boxF (encR boxF (aeW l) f y))) ((4*(i / 4))+((i+3)%4))))) 3 ?_
 have hi22:i<16:=by omega
 refine rv 30 (.ia 1 16 i (hi:=hi22)) 2 ?_
 refine rx1k 31 ?_
 refine re0 31 3 hH rfl (.st cByte ((((tmB 2 ((shifted (boxed boxF (encR boxF (aeW l) f y))) i)) ^^^ (tmB 3 ((shifted (boxed boxF (encR boxF (aeW l) f y))) ((4*(i / 4))+((i+1)%4))))) ^^^ ((shifted (boxed boxF (encR boxF (aeW l) f y))) ((4*(i / 4))+((i+2)%4)))) ^^^ ((shifted (boxed boxF (encR boxF (aeW l) f y))) ((4*(i / 4))+((i+3)%4)))) (room_1 (S:=sBy) (C:=(cArr 16)) rfl hi22) (arr_set0 (upF i (mixed (shifted (boxed boxF (encR boxF (aeW l) f y)))) (shifted (boxed boxF (encR boxF (aeW l) f y)))) ((((tmB 2 ((shifted (boxed boxF (encR boxF (aeW l) f y))) i)) ^^^ (tmB 3 ((shifted (boxed boxF (encR boxF (aeW l) f y))) ((4*(i / 4))+((i+1)%4))))) ^^^ ((shifted (boxed boxF (encR boxF (aeW l) f y))) ((4*(i / 4))+((i+2)%4)))) ^^^ ((shifted (boxed boxF (encR boxF (aeW l) f y))) ((4*(i / 4))+((i+3)%4)))) hi22)) trivial (pgo [] (pgo [] (.nil _ []))) ?_
 clear hH
 rintro _ _ w rfl hH
 refine ⟨pnil,rxEnd (by kernel_rfl) ?_⟩
 refine qxInN (qxThen (cxReg (zv (.add ((i+1:Nat):Int)) 7 ?_)))
 refine zv .mv 1 ?_
 refine pxEnd ?_
 have he23:(cArr 16).enc (upF (i+1) (mixed (shifted (boxed boxF (encR boxF (aeW l) f y)))) (shifted (boxed boxF (encR boxF (aeW l) f y))))=(cArr 16).enc (stF (upF i (mixed (shifted (boxed boxF (encR boxF (aeW l) f y)))) (shifted (boxed boxF (encR boxF (aeW l) f y)))) i ((((tmB 2 ((shifted (boxed boxF (encR boxF (aeW l) f y))) i)) ^^^ (tmB 3 ((shifted (boxed boxF (encR boxF (aeW l) f y))) ((4*(i / 4))+((i+1)%4))))) ^^^ ((shifted (boxed boxF (encR boxF (aeW l) f y))) ((4*(i / 4))+((i+2)%4)))) ^^^ ((shifted (boxed boxF (encR boxF (aeW l) f y))) ((4*(i / 4))+((i+3)%4))))):=arr_congr (fun j _=>(congrFun (upF_step i (mixed (shifted (boxed boxF (encR boxF (aeW l) f y)))) (shifted (boxed boxF (encR boxF (aeW l) f y))) (by rw [show 4*(i / 4)=i - i%4 by omega]; exact mixed_tm (shifted (boxed boxF (encR boxF (aeW l) f y))) i)) j).symm)
 replace hH:HH w0 [] [[bl g1 51 ((cArr 16).enc (encR boxF (aeW l) f y))],[bl g2 51 ((cArr 16).enc (fun _=>0))],[bl g6 51 ((cArr 16).enc (shifted (boxed boxF (encR boxF (aeW l) f y))))],[bl g7 51 ((cArr 16).enc (upF (i+1) (mixed (shifted (boxed boxF (encR boxF (aeW l) f y)))) (shifted (boxed boxF (encR boxF (aeW l) f y)))))]] w:=by rw [he23]; exact hH
 exact zR1 (i+1) ⟨hH,(by omega)⟩ (by omega)
 refine cxExit (qxThenE (qxThenE (qxInE (qxThen ?_))))
 obtain rfl:i=16:=by omega
 have he24:(cArr 16).enc (mixed (shifted (boxed boxF (encR boxF (aeW l) f y))))=(cArr 16).enc (upF 16 (mixed (shifted (boxed boxF (encR boxF (aeW l) f y)))) (shifted (boxed boxF (encR boxF (aeW l) f y)))):=arr_congr (fun j hj=>(upF_lt _ _ hj).symm)
 replace hH:HH w0 [] [[bl g1 51 ((cArr 16).enc (encR boxF (aeW l) f y))],[bl g2 51 ((cArr 16).enc (fun _=>0))],[bl g6 51 ((cArr 16).enc (shifted (boxed boxF (encR boxF (aeW l) f y))))],[bl g7 51 ((cArr 16).enc (mixed (shifted (boxed boxF (encR boxF (aeW l) f y)))))]] w:=by rw [he24]; exact hH
 refine cxReg (zv .mv 11 ?_)
 refine zs (hH.q 3 rfl) (.ld (cArr 16) (mixed (shifted (boxed boxF (encR boxF (aeW l) f y)))) (fun _ hS=>(holds_blk0 hS))) 2 ?_
 refine zv .mv 0 ?_
 refine zc Tryz.func80 (put_r g l hk (mixed (shifted (boxed boxF (encR boxF (aeW l) f y)))) (y+1) (by omega)) (hH.oldBlk hR (by simp)) hH 7 ?_
 clear hH
 intro w hH
 refine ze0 0 hH rfl (.sw (cArr 16) (encR boxF (aeW l) f y) (added (mixed (shifted (boxed boxF (encR boxF (aeW l) f y)))) (rk (aeW l) (y+1)))) trivial ?_
 clear hH
 rintro _ _ w rfl hH
 refine pxEnd (qxInN (qxThen (cxReg (zv .mv 3 ?_))))
 refine zv (.add (((y+1+1):Nat):Int)) 1 ?_
 refine zv .mv 1 ?_
 refine pxEnd ?_
 replace hH:HH w0 [] [[bl g1 51 ((cArr 16).enc (added (mixed (shifted (boxed boxF (encR boxF (aeW l) f y)))) (rk (aeW l) (y+1))))],[bl g2 51 ((cArr 16).enc (fun _=>0))]] w:=hH.only [true,true,false,false]
 have he25:(cArr 16).enc (eRd l f (y+1))=(cArr 16).enc (added (mixed (shifted (boxed boxF (encR boxF (aeW l) f y)))) (rk (aeW l) (y+1))):=arr_congr (fun q _=>congrFun (eRd_lt (by omega)) q)
 replace hH:HH w0 [] [[bl g1 51 ((cArr 16).enc (eRd l f (y+1)))],[bl g2 51 ((cArr 16).enc (fun _=>0))]] w:=by rw [he25]; exact hH
 exact zR1 (y+1) ⟨hH,(by omega)⟩ (by omega)
 refine cxSkip (qxThen (cxReg (zv .mv 5 ?_)))
 refine zs (hH.q 3 rfl) (.ld (cArr 16) (shifted (boxed boxF (encR boxF (aeW l) f y))) (fun _ hS=>(holds_blk0 hS))) 2 ?_
 refine zv .mv 0 ?_
 refine zc Tryz.func80 (put_r g l hk (shifted (boxed boxF (encR boxF (aeW l) f y))) (y+1) (by omega)) (hH.oldBlk hR (by simp)) hH 7 ?_
 clear hH
 intro w hH
 refine ze0 0 hH rfl (.sw (cArr 16) (encR boxF (aeW l) f y) (added (shifted (boxed boxF (encR boxF (aeW l) f y))) (rk (aeW l) (y+1)))) trivial ?_
 clear hH
 rintro _ _ w rfl hH
 refine pxEnd (qxInN (qxThen (cxReg (zv .mv 3 ?_))))
 refine zv (.add (((y+1+1):Nat):Int)) 1 ?_
 refine zv .mv 1 ?_
 refine pxEnd ?_
 replace hH:HH w0 [] [[bl g1 51 ((cArr 16).enc (added (shifted (boxed boxF (encR boxF (aeW l) f y))) (rk (aeW l) (y+1))))],[bl g2 51 ((cArr 16).enc (fun _=>0))]] w:=hH.only [true,true,false,false]
 have he26:(cArr 16).enc (eRd l f (y+1))=(cArr 16).enc (added (shifted (boxed boxF (encR boxF (aeW l) f y))) (rk (aeW l) (y+1))):=arr_congr (fun q _=>congrFun (eRd_last (by omega)) q)
 replace hH:HH w0 [] [[bl g1 51 ((cArr 16).enc (eRd l f (y+1)))],[bl g2 51 ((cArr 16).enc (fun _=>0))]] w:=by rw [he26]; exact hH
 exact zR1 (y+1) ⟨hH,(by omega)⟩ (by omega)
 refine cxExit (qxThenE (qxThenE (qxInE (qxThen ?_))))
 obtain rfl:y=(l.length / 4+6):=by omega
 have he27:(cArr 16).enc (aeE l f)=(cArr 16).enc (eRd l f (l.length / 4+6)):=arr_congr (fun q _=>(congrFun eRd_all q).symm)
 replace hH:HH w0 [] [[bl g1 51 ((cArr 16).enc (aeE l f))],[bl g2 51 ((cArr 16).enc (fun _=>0))]] w:=by rw [he27]; exact hH
 refine zr (zs (hH.q 0 rfl) (.ld (cArr 16) (aeE l f) (fun _ hS=>(holds_blk0 hS))) 27 ?_)
 refine ze0 1 hH rfl (.sw (cArr 16) (fun _=>0) (aeE l f)) trivial ?_
 clear hH
 rintro _ _ w rfl hH
 refine zn (cxRet (qxRetC 1 (hH.blk 1 rfl) rfl rfl (by kernel_rfl) (Cod.size _ _) (by kernel_rfl) ?_))
 exact ⟨rfl,HH.toBelow hH⟩
theorem dec_r (g:Nat) (l:List UInt8) (hk:l.length=16 ∨ l.length=32) (f:Nat→UInt8):Pure Tryz.prog 50 #[(.pointer (some ⟨g,0,none⟩)),((cArr 16).val f)] (fun w=>w.heap[g]?=some (.cells (cCi.enc (boxF,bk boxF 256,(upF (16*(l.length / 4+7)) (aeW l) fun _=>0),(l.length / 4+6))) 107 (0,0))) ((cArr 16).val (aeD l f)):=by
 refine pure_of (fn:=Tryz.f50) Tryz.func50 rfl Tryz.ntmps50 (Nat.le_of_ble_eq_true rfl) rfl ?_
 intro w0 hH hR
 refine zr (zm hH (.bx (cArr 16) f) trivial 2 ?_)
 clear hH
 rintro _ _ w ⟨g1,rfl,rfl⟩ hH
 refine zm hH (.al (cArr 16) (fun _=>0)) trivial 0 ?_
 clear hH
 rintro _ _ w ⟨g2,rfl,rfl⟩ hH
 refine zn (cxSeq (zr (zv .mv 0 ?_)))
 refine zv .nc 1 ?_
 refine zv (.fld 752) 1 ?_
 refine zs (hH.ob hR) (.ld (cNat .i64) (l.length / 4+6) (fun _ hS=>(((holds_blk0 hS).snd).snd).snd)) 1 ?_
 refine zv .mv 1 ?_
 refine zn (cxBlock ?_)
 have he3:(cArr 16).enc (dRd l f 0)=(cArr 16).enc f:=arr_congr (fun _ _=>rfl)
 replace hH:HH w0 [] [[bl g1 51 ((cArr 16).enc (dRd l f 0))],[bl g2 51 ((cArr 16).enc (fun _=>0))]] w:=by rw [he3]; exact hH
 refine zL1 (fun (q:Nat)=>[(5,(.int .i64 ((((l.length / 4+6) - q):Nat):Int))),(4,(.pointer (some ⟨g2,0,none⟩))),(3,(.pointer (some ⟨g1,0,none⟩))),(0,(.pointer (some ⟨g,0,none⟩)))]) (fun q w=>HH w0 [] [[bl g1 51 ((cArr 16).enc (dRd l f q))],[bl g2 51 ((cArr 16).enc (fun _=>0))]] w∧(q≤(l.length / 4+6))) (fun q=>(l.length / 4+6) - q) 0 ⟨hH,(Nat.zero_le _)⟩ ?_
 clear hH
 rintro q w ⟨hH,hq⟩
 refine cxSeq (zr (zv .mv 0 ?_))
 refine zv (.ge ((l.length / 4+6) - q ≥ 1)) 1 ?_
 refine zn ?_
 refine zP (fun hc4 => ?_) (fun hc4 => ?_)
 refine cxSkip (qxThen (cxSeq (cxBlock (zr (zv .mv 1 ?_)))))
 refine zs (hH.q 0 rfl) (.ld (cArr 16) (dRd l f q) (fun _ hS=>(holds_blk0 hS))) 0 ?_
 refine zv .mv 0 ?_
 refine zc Tryz.func80 (put_r g l hk (dRd l f q) ((l.length / 4+6) - q) (by omega)) (hH.oldBlk hR (by simp)) hH 7 ?_
 clear hH
 intro w hH
 refine zm hH (.al (cArr 16) (fun _=>0)) trivial 0 ?_
 clear hH
 rintro _ _ w ⟨g5,rfl,rfl⟩ hH
 refine ze0 2 hH rfl (.sw (cArr 16) (fun _=>0) (added (dRd l f q) (rk (aeW l) ((l.length / 4+6) - q)))) trivial ?_
 clear hH
 rintro _ _ w rfl hH
 refine zn (zr (zs (hH.q 2 rfl) (.ld (cArr 16) (added (dRd l f q) (rk (aeW l) ((l.length / 4+6) - q))) (fun _ hS=>(holds_blk0 hS))) 2 ?_))
 refine zm hH (.al (cArr 16) (fun _=>0)) trivial 0 ?_
 clear hH
 rintro _ _ w ⟨g6,rfl,rfl⟩ hH
 refine ze0 3 hH rfl (.sw (cArr 16) (fun _=>0) (added (dRd l f q) (rk (aeW l) ((l.length / 4+6) - q)))) trivial ?_
 clear hH
 rintro _ _ w rfl hH
 refine zn ?_
 refine cxJoin (σ:=(Nat→UInt8)) (fun x=>[(7,(.pointer (some ⟨g6,0,none⟩))),(5,(.int .i64 ((((l.length / 4+6) - q):Nat):Int))),(4,(.pointer (some ⟨g2,0,none⟩))),(3,(.pointer (some ⟨g1,0,none⟩))),(0,(.pointer (some ⟨g,0,none⟩)))]) (fun x w=>HH w0 [] [[bl g1 51 ((cArr 16).enc (dRd l f q))],[bl g2 51 ((cArr 16).enc (fun _=>0))],[bl g6 51 ((cArr 16).enc x)]] w∧(∀ j,j<16→(boxed (bk boxF 256) (unshifted x)) j=dRd l f (q+1) j)) ?_ ?_
 refine zr (zv .mv 2 ?_)
 refine zv .mv 0 ?_
 refine zv .nc 1 ?_
 refine zv (.fld 752) 1 ?_
 refine zs (hH.ob hR) (.ld (cNat .i64) (l.length / 4+6) (fun _ hS=>(((holds_blk0 hS).snd).snd).snd)) 1 ?_
 refine zv (.lt ((l.length / 4+6) - q<(l.length / 4+6))) 3 ?_
 refine zn ?_
 refine zP (fun hc7 => ?_) (fun hc7 => ?_)
 refine zr (zv .mv 1 ?_)
 refine zn (cxBlock ?_)
 have he8:(cArr 16).enc (upF 0 (unmixed (added (dRd l f q) (rk (aeW l) ((l.length / 4+6) - q)))) (added (dRd l f q) (rk (aeW l) ((l.length / 4+6) - q))))=(cArr 16).enc (added (dRd l f q) (rk (aeW l) ((l.length / 4+6) - q))):=arr_congr (fun j _=>by rw [upF_zero])
 replace hH:HH w0 [] [[bl g1 51 ((cArr 16).enc (dRd l f q))],[bl g2 51 ((cArr 16).enc (fun _=>0))],[bl g5 51 ((cArr 16).enc (added (dRd l f q) (rk (aeW l) ((l.length / 4+6) - q))))],[bl g6 51 ((cArr 16).enc (upF 0 (unmixed (added (dRd l f q) (rk (aeW l) ((l.length / 4+6) - q)))) (added (dRd l f q) (rk (aeW l) ((l.length / 4+6) - q)))))]] w:=by rw [he8]; exact hH
 refine zL1 (fun (i:Nat)=>[(30,(.int .i64 (((i):Nat):Int))),(7,(.pointer (some ⟨g6,0,none⟩))),(6,(.pointer (some ⟨g5,0,none⟩))),(5,(.int .i64 ((((l.length / 4+6) - q):Nat):Int))),(4,(.pointer (some ⟨g2,0,none⟩))),(3,(.pointer (some ⟨g1,0,none⟩))),(0,(.pointer (some ⟨g,0,none⟩)))]) (fun i w=>HH w0 [] [[bl g1 51 ((cArr 16).enc (dRd l f q))],[bl g2 51 ((cArr 16).enc (fun _=>0))],[bl g5 51 ((cArr 16).enc (added (dRd l f q) (rk (aeW l) ((l.length / 4+6) - q))))],[bl g6 51 ((cArr 16).enc (upF i (unmixed (added (dRd l f q) (rk (aeW l) ((l.length / 4+6) - q)))) (added (dRd l f q) (rk (aeW l) ((l.length / 4+6) - q)))))]] w∧(i≤16)) (fun i=>16 - i) 0 ⟨hH,(Nat.zero_le _)⟩ ?_
 clear hH
 rintro i w ⟨hH,hi⟩
 refine zr (zv (.lt (i<16)) 0 ?_)
 refine zn (cxSeq ?_)
 refine zP (fun hc9 => ?_) (fun hc9 => ?_)
 refine cxSkip (qxThen (cxSeq (cxBlock (zr (zv .mv 1 ?_)))))
 refine zv .mv 1 ?_
 refine zn (zr (zv .mv 0 ?_))
 refine zv (v:=(.int .i64 (((i / 4):Nat):Int))) (fun _ _ hF=>opQuo (z:=((i / 4:Nat):Int)) rfl (hF.ev 0 rfl) rfl (by omega) (wI quoN (by omega) (by omega))) 1 ?_
 refine zv (.mul ((4*(i / 4):Nat):Int)) 1 ?_
 refine zv .mv 1 ?_
 refine zn (cxRegX mixedOrders (by kernel_rfl) ?_)
 replace hH:=hH.drew
 refine rv 0 .mv 0 ?_
 refine rv 1 .mv 0 ?_
 have hi10:i<16:=by omega
 refine rv 2 (.ia 1 16 i (hi:=hi10)) 1 ?_
 refine rld 3 (hH.q 2 rfl) (.ld cByte ((added (dRd l f q) (rk (aeW l) ((l.length / 4+6) - q))) i) (fun _ hS=>((holds_blk0 hS).elt hi10))) 1 ?_
 refine rv 5 .mv 0 ?_
 refine rv 6 .mv 0 ?_
 refine rv 7 (.add ((i+1:Nat):Int)) 1 ?_
 refine rv 8 (v:=(.int .i64 ((((i+1)%4):Nat):Int))) (fun _ _ hF=>opRem (z:=(((i+1)%4:Nat):Int)) rfl (hF.ev 0 rfl) rfl (by omega) remN) 1 ?_
 refine rv 9 (.add (((4*(i / 4))+((i+1)%4):Nat):Int)) 3 ?_
 have hi11:(4*(i / 4))+((i+1)%4)<16:=by omega
 refine rv 10 (.ia 1 16 ((4*(i / 4))+((i+1)%4)) (hi:=hi11)) 1 ?_
 refine rld 11 (hH.q 2 rfl) (.ld cByte ((added (dRd l f q) (rk (aeW l) ((l.length / 4+6) - q))) ((4*(i / 4))+((i+1)%4))) (fun _ hS=>((holds_blk0 hS).elt hi11))) 1 ?_
 refine rv 14 .mv 0 ?_
 refine rv 15 .mv 0 ?_
 refine rv 16 (.add ((i+2:Nat):Int)) 1 ?_
 refine rv 17 (v:=(.int .i64 ((((i+2)%4):Nat):Int))) (fun _ _ hF=>opRem (z:=(((i+2)%4:Nat):Int)) rfl (hF.ev 0 rfl) rfl (by omega) remN) 1 ?_
 refine rv 18 (.add (((4*(i / 4))+((i+2)%4):Nat):Int)) 3 ?_
 have hi12:(4*(i / 4))+((i+2)%4)<16:=by omega
 refine rv 19 (.ia 1 16 ((4*(i / 4))+((i+2)%4)) (hi:=hi12)) 1 ?_
 refine rld 20 (hH.q 2 rfl) (.ld cByte ((added (dRd l f q) (rk (aeW l) ((l.length / 4+6) - q))) ((4*(i / 4))+((i+2)%4))) (fun _ hS=>((holds_blk0 hS).elt hi12))) 1 ?_
 refine rv 23 .mv 16 ?_
 refine rv 24 .mv 32 ?_
 refine rv 25 (.add ((i+3:Nat):Int)) 1 ?_
 refine rv 26 (v:=(.int .i64 ((((i+3)%4):Nat):Int))) (fun _ _ hF=>opRem (z:=(((i+3)%4:Nat):Int)) rfl (hF.ev 0 rfl) rfl (by omega) remN) 1 ?_
 refine rv 27 (.add (((4*(i / 4))+((i+3)%4):Nat):Int)) 3 ?_
 have hi13:(4*(i / 4))+((i+3)%4)<16:=by omega
 refine rv 28 (.ia 1 16 ((4*(i / 4))+((i+3)%4)) (hi:=hi13)) 1 ?_
 refine rld 29 (hH.q 2 rfl) (.ld cByte ((added (dRd l f q) (rk (aeW l) ((l.length / 4+6) - q))) ((4*(i / 4))+((i+3)%4))) (fun _ hS=>((holds_blk0 hS).elt hi13))) 1 ?_
 refine rx1k 4 (rpc 4 Tryz.func79 (times_c 14 ((added (dRd l f q) (rk (aeW l) ((l.length / 4+6) - q))) i)) trivial hH 8 (.keep (.keep (.keep (pgo [] (.nil _ []))))) ?_)
 clear hH
 intro w hH
 refine ⟨pcons (hH.blk 2 rfl) (pcons (hH.blk 2 rfl) (pcons (hH.blk 2 rfl) pnil)),?_⟩
 refine rx1k 12 (rpc 12 Tryz.func79 (times_c 11 ((added (dRd l f q) (rk (aeW l) ((l.length / 4+6) - q))) ((4*(i / 4))+((i+1)%4)))) trivial hH 8 (.keep (.keep (pgo [] (.nil _ [])))) ?_)
 clear hH
 intro w hH
 refine ⟨pcons (hH.blk 2 rfl) (pcons (hH.blk 2 rfl) pnil),?_⟩
 refine rv 13 (.xb ((tmB 14 ((added (dRd l f q) (rk (aeW l) ((l.length / 4+6) - q))) i)) ^^^ (tmB 11 ((added (dRd l f q) (rk (aeW l) ((l.length / 4+6) - q))) ((4*(i / 4))+((i+1)%4))))) (u:=(tmB 14 ((added (dRd l f q) (rk (aeW l) ((l.length / 4+6) - q))) i))) (v:=(tmB 11 ((added (dRd l f q) (rk (aeW l) ((l.length / 4+6) - q))) ((4*(i / 4))+((i+1)%4)))))) 3 ?_
 refine rx1k 21 (rpc 21 Tryz.func79 (times_c 13 ((added (dRd l f q) (rk (aeW l) ((l.length / 4+6) - q))) ((4*(i / 4))+((i+2)%4)))) trivial hH 4 (.keep (pgo [] (.nil _ []))) ?_)
 clear hH
 intro w hH
 refine ⟨pcons (hH.blk 2 rfl) pnil,?_⟩
 refine rv 22 (.xb (((tmB 14 ((added (dRd l f q) (rk (aeW l) ((l.length / 4+6) - q))) i)) ^^^ (tmB 11 ((added (dRd l f q) (rk (aeW l) ((l.length / 4+6) - q))) ((4*(i / 4))+((i+1)%4))))) ^^^ (tmB 13 ((added (dRd l f q) (rk (aeW l) ((l.length / 4+6) - q))) ((4*(i / 4))+((i+2)%4))))) (u:=((tmB 14 ((added (dRd l f q) (rk (aeW l) ((l.length / 4+6) - q))) i)) ^^^ (tmB 11 ((added (dRd l f q) (rk (aeW l) ((l.length / 4+6) - q))) ((4*(i / 4))+((i+1)%4)))))) (v:=(tmB 13 ((added (dRd l f q) (rk (aeW l) ((l.length / 4+6) - q))) ((4*(i / 4))+((i+2)%4)))))) 3 ?_
 refine rx1k 30 (rpc 30 Tryz.func79 (times_c 9 ((added (dRd l f q) (rk (aeW l) ((l.length / 4+6) - q))) ((4*(i / 4))+((i+3)%4)))) trivial hH 2 (pgo [] (.nil _ [])) ?_)
 clear hH
 intro w hH
 refine ⟨pnil,rv 31 (.xb ((((tmB 14 ((added (dRd l f q) (rk (aeW l) ((l.length / 4+6) - q))) i)) ^^^ (tmB 11 ((added (dRd l f q) (rk (aeW l) ((l.length / 4+6) - q))) ((4*(i / 4))+((i+1)%4))))) ^^^ (tmB 13 ((added (dRd l f q) (rk (aeW l) ((l.length / 4+6) - q))) ((4*(i / 4))+((i+2)%4))))) ^^^ (tmB 9 ((added (dRd l f q) (rk (aeW l) ((l.length / 4+6) - q))) ((4*(i / 4))+((i+3)%4))))) (u:=(((tmB 14 ((added (dRd l f q) (rk (aeW l) ((l.length / 4+6) - q))) i)) ^^^ (tmB 11 ((added (dRd l f q) (rk (aeW l) ((l.length / 4+6) - q))) ((4*(i / 4))+((i+1)%4))))) ^^^ (tmB 13 ((added (dRd l f q) (rk (aeW l) ((l.length / 4+6) - q))) ((4*(i / 4))+((i+2)%4)))))) (v:=(tmB 9 ((added (dRd l f q) (rk (aeW l) ((l.length / 4+6) - q))) ((4*(i / 4))+((i+3)%4)))))) 3 ?_⟩
 have hi14:i<16:=by omega
 refine rv 32 (.ia 1 16 i (hi:=hi14)) 2 ?_
 refine rx1k 33 ?_
 refine re0 33 3 hH rfl (.st cByte ((((tmB 14 ((added (dRd l f q) (rk (aeW l) ((l.length / 4+6) - q))) i)) ^^^ (tmB 11 ((added (dRd l f q) (rk (aeW l) ((l.length / 4+6) - q))) ((4*(i / 4))+((i+1)%4))))) ^^^ (tmB 13 ((added (dRd l f q) (rk (aeW l) ((l.length / 4+6) - q))) ((4*(i / 4))+((i+2)%4))))) ^^^ (tmB 9 ((added (dRd l f q) (rk (aeW l) ((l.length / 4+6) - q))) ((4*(i / 4))+((i+3)%4))))) (room_1 (S:=sBy) (C:=(cArr 16)) rfl hi14) (arr_set0 (upF i (unmixed (added (dRd l f q) (rk (aeW l) ((l.length / 4+6) - q)))) (added (dRd l f q) (rk (aeW l) ((l.length / 4+6) - q)))) ((((tmB 14 ((added (dRd l f q) (rk (aeW l) ((l.length / 4+6) - q))) i)) ^^^ (tmB 11 ((added (dRd l f q) (rk (aeW l) ((l.length / 4+6) - q))) ((4*(i / 4))+((i+1)%4))))) ^^^ (tmB 13 ((added (dRd l f q) (rk (aeW l) ((l.length / 4+6) - q))) ((4*(i / 4))+((i+2)%4))))) ^^^ (tmB 9 ((added (dRd l f q) (rk (aeW l) ((l.length / 4+6) - q))) ((4*(i / 4))+((i+3)%4))))) hi14)) trivial (.nil _ []) ?_
 clear hH
 rintro _ _ w rfl hH
 refine ⟨pnil,rxEnd (by kernel_rfl) ?_⟩
 refine qxInN (qxThen (cxReg (zv (.add ((i+1:Nat):Int)) 7 ?_)))
 refine zv .mv 1 ?_
 refine pxEnd ?_
 have he15:(cArr 16).enc (upF (i+1) (unmixed (added (dRd l f q) (rk (aeW l) ((l.length / 4+6) - q)))) (added (dRd l f q) (rk (aeW l) ((l.length / 4+6) - q))))=(cArr 16).enc (stF (upF i (unmixed (added (dRd l f q) (rk (aeW l) ((l.length / 4+6) - q)))) (added (dRd l f q) (rk (aeW l) ((l.length / 4+6) - q)))) i ((((tmB 14 ((added (dRd l f q) (rk (aeW l) ((l.length / 4+6) - q))) i)) ^^^ (tmB 11 ((added (dRd l f q) (rk (aeW l) ((l.length / 4+6) - q))) ((4*(i / 4))+((i+1)%4))))) ^^^ (tmB 13 ((added (dRd l f q) (rk (aeW l) ((l.length / 4+6) - q))) ((4*(i / 4))+((i+2)%4))))) ^^^ (tmB 9 ((added (dRd l f q) (rk (aeW l) ((l.length / 4+6) - q))) ((4*(i / 4))+((i+3)%4)))))):=arr_congr (fun j _=>(congrFun (upF_step i (unmixed (added (dRd l f q) (rk (aeW l) ((l.length / 4+6) - q)))) (added (dRd l f q) (rk (aeW l) ((l.length / 4+6) - q))) (by rw [show 4*(i / 4)=i - i%4 by omega]; exact unmixed_tm (added (dRd l f q) (rk (aeW l) ((l.length / 4+6) - q))) i)) j).symm)
 replace hH:HH w0 [] [[bl g1 51 ((cArr 16).enc (dRd l f q))],[bl g2 51 ((cArr 16).enc (fun _=>0))],[bl g5 51 ((cArr 16).enc (added (dRd l f q) (rk (aeW l) ((l.length / 4+6) - q))))],[bl g6 51 ((cArr 16).enc (upF (i+1) (unmixed (added (dRd l f q) (rk (aeW l) ((l.length / 4+6) - q)))) (added (dRd l f q) (rk (aeW l) ((l.length / 4+6) - q)))))]] w:=by rw [he15]; exact hH
 exact zR1 (i+1) ⟨hH,(by omega)⟩ (by omega)
 refine cxExit (qxThenE (qxThenE (qxInE ?_)))
 replace hH:HH w0 [] [[bl g1 51 ((cArr 16).enc (dRd l f q))],[bl g2 51 ((cArr 16).enc (fun _=>0))],[bl g6 51 ((cArr 16).enc (upF i (unmixed (added (dRd l f q) (rk (aeW l) ((l.length / 4+6) - q)))) (added (dRd l f q) (rk (aeW l) ((l.length / 4+6) - q)))))]] w:=HH.sel hH [0,1,3] rfl (by decide)
 obtain rfl:i=16:=by omega
 have he16:(cArr 16).enc (unmixed (added (dRd l f q) (rk (aeW l) ((l.length / 4+6) - q))))=(cArr 16).enc (upF 16 (unmixed (added (dRd l f q) (rk (aeW l) ((l.length / 4+6) - q)))) (added (dRd l f q) (rk (aeW l) ((l.length / 4+6) - q)))):=arr_congr (fun j hj=>(upF_lt _ _ hj).symm)
 replace hH:HH w0 [] [[bl g1 51 ((cArr 16).enc (dRd l f q))],[bl g2 51 ((cArr 16).enc (fun _=>0))],[bl g6 51 ((cArr 16).enc (unmixed (added (dRd l f q) (rk (aeW l) ((l.length / 4+6) - q)))))]] w:=by rw [he16]; exact hH
 have hq1:0<q:=by omega
 exact qxJoin (unmixed (added (dRd l f q) (rk (aeW l) ((l.length / 4+6) - q)))) ⟨hH,(fun j _=>(congrFun (dRd_pos hq1) j).symm)⟩ (slots_at [2,4,5,6,7] rfl)
 refine cxSkip ?_
 replace hH:HH w0 [] [[bl g1 51 ((cArr 16).enc (dRd l f q))],[bl g2 51 ((cArr 16).enc (fun _=>0))],[bl g6 51 ((cArr 16).enc (added (dRd l f q) (rk (aeW l) ((l.length / 4+6) - q))))]] w:=HH.sel hH [0,1,3] rfl (by decide)
 obtain rfl:q=0:=by omega
 exact qxJoin (added (dRd l f 0) (rk (aeW l) ((l.length / 4+6) - 0))) ⟨hH,(fun j _=>rfl)⟩ (slots_at [1,3,4,5,6] rfl)
 clear hH
 rintro u w ⟨hH,hu⟩
 change CX _ _ _ _ [(7,(.pointer (some ⟨g6,0,none⟩))),(5,(.int .i64 ((((l.length / 4+6) - q):Nat):Int))),(4,(.pointer (some ⟨g2,0,none⟩))),(3,(.pointer (some ⟨g1,0,none⟩))),(0,(.pointer (some ⟨g,0,none⟩)))] _
 replace hH:HH w0 [] [[bl g1 51 ((cArr 16).enc (dRd l f q))],[bl g2 51 ((cArr 16).enc (fun _=>0))],[bl g6 51 ((cArr 16).enc u)]] w:=hH
 replace hu:∀ j,j<16→(boxed (bk boxF 256) (unshifted u)) j=dRd l f (q+1) j:=hu
 refine zr (zv .mv 0 ?_)
 refine zn (cxBlock ?_)
 have he17:(cArr 16).enc (prU 0 (boxed (bk boxF 256) (unshifted u)) (dRd l f q))=(cArr 16).enc (dRd l f q):=arr_congr (fun j _=>if_neg (Nat.not_lt_zero _))
 replace hH:HH w0 [] [[bl g1 51 ((cArr 16).enc (prU 0 (boxed (bk boxF 256) (unshifted u)) (dRd l f q)))],[bl g2 51 ((cArr 16).enc (fun _=>0))],[bl g6 51 ((cArr 16).enc u)]] w:=by rw [he17]; exact hH
 refine zL1 (fun (i:Nat)=>[(70,(.int .i64 (((i):Nat):Int))),(7,(.pointer (some ⟨g6,0,none⟩))),(5,(.int .i64 ((((l.length / 4+6) - q):Nat):Int))),(4,(.pointer (some ⟨g2,0,none⟩))),(3,(.pointer (some ⟨g1,0,none⟩))),(0,(.pointer (some ⟨g,0,none⟩)))]) (fun i w=>HH w0 [] [[bl g1 51 ((cArr 16).enc (prU i (boxed (bk boxF 256) (unshifted u)) (dRd l f q)))],[bl g2 51 ((cArr 16).enc (fun _=>0))],[bl g6 51 ((cArr 16).enc u)]] w∧(i≤16)) (fun i=>16 - i) 0 ⟨hH,(Nat.zero_le _)⟩ ?_
 clear hH
 rintro i w ⟨hH,hi⟩
 refine zr (zv (.lt (i<16)) 0 ?_)
 refine zn (cxSeq ?_)
 refine zP (fun hc18 => ?_) (fun hc18 => ?_)
 refine cxSkip (qxThen (cxSeq (cxBlock (zr (zv .mv 1 ?_)))))
 refine zv .mv 1 ?_
 refine zn (cxRegX mixedOrders (by kernel_rfl) ?_)
 replace hH:=hH.drew
 refine rv 0 .mv 0 ?_
 refine rv 1 (v:=(.int .i64 (((i / 4):Nat):Int))) (fun _ _ hF=>opQuo (z:=((i / 4:Nat):Int)) rfl (hF.ev 0 rfl) rfl (by omega) (wI quoN (by omega) (by omega))) 1 ?_
 refine rv 2 .mv 0 ?_
 refine rv 3 (v:=(.int .i64 (((i%4):Nat):Int))) (fun _ _ hF=>opRem (z:=((i%4:Nat):Int)) rfl (hF.ev 0 rfl) rfl (by omega) remN) 1 ?_
 refine rv 4 (.add (((i / 4)+(i%4):Nat):Int)) 3 ?_
 refine rv 5 (v:=(.int .i64 (((((i / 4)+(i%4))%4):Nat):Int))) (fun _ _ hF=>opRem (z:=((((i / 4)+(i%4))%4:Nat):Int)) rfl (hF.ev 0 rfl) rfl (by omega) remN) 1 ?_
 refine rv 6 (.mul ((4*(((i / 4)+(i%4))%4):Nat):Int)) 1 ?_
 refine rv 7 .mv 0 ?_
 refine rv 8 (v:=(.int .i64 (((i%4):Nat):Int))) (fun _ _ hF=>opRem (z:=((i%4:Nat):Int)) rfl (hF.ev 0 rfl) rfl (by omega) remN) 1 ?_
 refine rv 9 (.add (((4*(((i / 4)+(i%4))%4))+(i%4):Nat):Int)) 3 ?_
 refine rv 10 .mv 0 ?_
 refine rv 11 .mv 4 ?_
 have hi19:i<16:=by omega
 refine rv 12 (.ia 1 16 i (hi:=hi19)) 1 ?_
 refine rld 13 (hH.q 2 rfl) (.ld cByte (u i) (fun _ hS=>((holds_blk0 hS).elt hi19))) 1 ?_
 refine rv 14 .nc 2 ?_
 refine rv 15 (.fld 256) 1 ?_
 have hi20:(u i).toNat<256:=UInt8.toNat_lt _
 refine rv 16 (.ia 1 256 ((u i).toNat) (hi:=hi20)) 3 ?_
 refine rld 17 (hH.ob hR) (.ld cByte ((bk boxF 256) ((u i).toNat)) (fun _ hS=>(((holds_blk0 hS).snd).fst.elt hi20))) 1 ?_
 have hi21:(4*(((i / 4)+(i%4))%4))+(i%4)<16:=by omega
 refine rv 18 (.ia 1 16 ((4*(((i / 4)+(i%4))%4))+(i%4)) (hi:=hi21)) 2 ?_
 refine rx1k 19 ?_
 refine re0 19 0 hH rfl (.st cByte ((bk boxF 256) ((u i).toNat)) (room_1 (S:=sBy) (C:=(cArr 16)) rfl hi21) (arr_set0 (prU i (boxed (bk boxF 256) (unshifted u)) (dRd l f q)) ((bk boxF 256) ((u i).toNat)) hi21)) trivial (pgo [] (pgo [] (.nil _ []))) ?_
 clear hH
 rintro _ _ w rfl hH
 refine ⟨pnil,rxEnd (by kernel_rfl) ?_⟩
 refine qxInN (qxThen (cxReg (zv (.add ((i+1:Nat):Int)) 7 ?_)))
 refine zv .mv 1 ?_
 refine pxEnd ?_
 have he22:(cArr 16).enc (prU (i+1) (boxed (bk boxF 256) (unshifted u)) (dRd l f q))=(cArr 16).enc (stF (prU i (boxed (bk boxF 256) (unshifted u)) (dRd l f q)) ((4*(((i / 4)+(i%4))%4))+(i%4)) ((bk boxF 256) ((u i).toNat))):=arr_congr (prU_step (by omega) (back_put _ (by omega)))
 replace hH:HH w0 [] [[bl g1 51 ((cArr 16).enc (prU (i+1) (boxed (bk boxF 256) (unshifted u)) (dRd l f q)))],[bl g2 51 ((cArr 16).enc (fun _=>0))],[bl g6 51 ((cArr 16).enc u)]] w:=by rw [he22]; exact hH
 exact zR1 (i+1) ⟨hH,(by omega)⟩ (by omega)
 refine cxExit (qxThenE (qxThenE (qxInE (qxInN (qxThen (cxReg (zv .mv 15 ?_)))))))
 refine zv (.sub ((((l.length / 4+6) - (q+1)):Nat):Int)) 1 ?_
 refine zv .mv 1 ?_
 refine pxEnd ?_
 replace hH:HH w0 [] [[bl g1 51 ((cArr 16).enc (prU i (boxed (bk boxF 256) (unshifted u)) (dRd l f q)))],[bl g2 51 ((cArr 16).enc (fun _=>0))]] w:=hH.only [true,true,false]
 obtain rfl:i=16:=by omega
 have he23:(cArr 16).enc (dRd l f (q+1))=(cArr 16).enc (prU 16 (boxed (bk boxF 256) (unshifted u)) (dRd l f q)):=arr_congr (fun j hj=>(hu j hj).symm.trans (prU_all _ _ j))
 replace hH:HH w0 [] [[bl g1 51 ((cArr 16).enc (dRd l f (q+1)))],[bl g2 51 ((cArr 16).enc (fun _=>0))]] w:=by rw [he23]; exact hH
 exact zR1 (q+1) ⟨hH,(by omega)⟩ (by omega)
 refine cxExit (qxThenE (qxThenE (qxInE (qxThen ?_))))
 obtain rfl:q=(l.length / 4+6):=by omega
 refine zr (zv .mv 19 ?_)
 refine zs (hH.q 0 rfl) (.ld (cArr 16) (dRd l f (l.length / 4+6)) (fun _ hS=>(holds_blk0 hS))) 4 ?_
 refine zc Tryz.func80 (put_r g l hk (dRd l f (l.length / 4+6)) 0 (by omega)) (hH.oldBlk hR (by simp)) hH 3 ?_
 clear hH
 intro w hH
 refine ze0 1 hH rfl (.sw (cArr 16) (fun _=>0) (added (dRd l f (l.length / 4+6)) (rk (aeW l) 0))) trivial ?_
 clear hH
 rintro _ _ w rfl hH
 refine zn (cxRet (qxRetC 1 (hH.blk 1 rfl) rfl rfl (by kernel_rfl) (Cod.size _ _) (by kernel_rfl) ?_))
 exact ⟨rfl,HH.toBelow hH⟩
end Go.Proofs.YtajppfmjbkebfaaGreatDoor

namespace Go.Proofs.YtajppfmjbkebfaaGreatDoor
open Go Go.RowKit
set_option maxRecDepth 100000
theorem cnt_step {T k:Nat} {X:Nat→UInt8} (hT:T<256) (hk:k<8):upF k (countF X T) X k ^^^ UInt8.ofNat (T / 2^(56 - 8*k))=countF X T k:=by
 rw [upF_at]
 unfold countF
 by_cases h:k=7
 ·subst h; rw [if_pos rfl,show 56 - 8*7=0 from rfl,Nat.pow_zero,Nat.div_one]; rfl
 ·rw [if_neg h,Nat.div_eq_of_lt (Nat.lt_of_lt_of_le hT (by
   have:=Nat.pow_le_pow_right (show 0<2 by decide) (show 8≤56 - 8*k by omega)
   exact this))]
  exact UInt8.xor_zero
theorem cnt_all (X:Nat→UInt8) (T j:Nat):countF X T j=upF 8 (countF X T) X j:=by
 by_cases h:j<8
 ·rw [upF_lt _ _ h]
 ·rw [upF_ge _ _ (by omega)]
  exact if_neg (by omega)
theorem vu_nilA {α:Type} {C:Cod α} {w:World} {A:Option Addr} {n c:Nat} {l:List α} (h:Vu C w A n c l) (hA:A=none):n=0∧c=0:=by
 have h1:=h.nil hA
 have h2:=h.cap
 exact ⟨by omega,h1⟩
theorem at_part {n j i:Nat} (hi:i<n):(n*j+i)*8%(8*n)=8*i:=by
 rw [Nat.mul_comm,Nat.mul_mod_mul_left,Nat.mul_add_mod,Nat.mod_eq_of_lt hi]
section
variable {o d Q:List UInt8} {A P X:Nat→UInt8} {m k:Nat}
theorem both_out (hol:o.length=8+m) (hA:∀ j,j<8→o[j]?=some (A j)) (hP:∀ j,j<m→o[8+j]?=some (P j)) (hk:k+8≤m):E16 (ovA 8 (((o.take (8+k+8)).drop (8+k)).take 8) (ovr ((o.take 8).take 8) fun _=>0)) (bothF A fun j=>P (k+j)):=fun j hj=>by
 have hl:((o.take (8+k+8)).drop (8+k)).length=8:=by rw [List.length_drop,List.length_take]; omega
 rw [show ovA 8 (((o.take (8+k+8)).drop (8+k)).take 8) (ovr ((o.take 8).take 8) fun _=>0) j=ovA 8 (((o.take (8+k+8)).drop (8+k)).take 8) (ovr ((lst 8 A).take 8) fun _=>0) j from ?_,← both_at A _ hl j hj]
 ·exact both_E16 (fun _ _=>rfl) (fun j hj=>part_known hP hk j hj) j hj
 ·rw [show o.take 8=lst 8 A from lst_of_known (fun j hj=>by rw [List.getElem?_take,if_pos hj]; exact hA j hj) (by rw [List.length_take]; omega)]
theorem put_head (h8:8≤o.length) (hQ:Q=o.take 0++((lst 16 X).take 8++o.drop (0+((lst 16 X).take 8).length))):Q.length=o.length∧(∀ j,j<8→Q[j]?=some (X j)) ∧ ∀ j,Q[8+j]?=o[8+j]?:=by
 have hl:((lst 16 X).take 8).length=8:=by rw [List.length_take,lst_len]; rfl
 rw [List.take_zero,List.nil_append,hl,Nat.zero_add] at hQ
 subst hQ
 refine ⟨by rw [List.length_append,hl,List.length_drop]; omega,fun j hj => ?_,fun j => ?_⟩
 ·rw [List.getElem?_append_left (by omega),List.getElem?_take,if_pos hj,lst_get (by omega)]
 ·rw [List.getElem?_append_right (by omega),hl,List.getElem?_drop]
  congr 1
  omega
theorem put_keeps {a j:Nat} {R:List UInt8} (ha:8≤a) (hj:j<8) (h8:8≤Q.length):(Q.take a++R)[j]?=Q[j]?:=by
 rw [List.getElem?_append_left (by rw [List.length_take]; omega),List.getElem?_take,if_pos (by omega)]
theorem put_behind (hol:Q.length=8+m) (hk:k+8≤m) (h:∀ j,j<m→Q[8+j]?=some (P j)) (hX:∀ j,8≤j→X j=A j) (j:Nat) (hj:j<m) :
  (Q.take (8+k)++((lst 16 X).drop 8++Q.drop (8+k+((lst 16 X).drop 8).length)))[8+j]?=some (cpy k 8 P (fun j=>A (8+j)) j):=by
 rw [put_part hol hk h j hj]
 unfold cpy
 by_cases hh:k≤j∧j<k+8
 ·rw [if_pos hh,if_pos hh]; exact congrArg some (hX _ (by omega))
 ·rw [if_neg hh,if_neg hh]
end
theorem lit8 (d:List UInt8):([166,166,166,166,166,166,166,166]++d).length=8+d.length:=by rw [List.length_append]; rfl
theorem lit8_A (d:List UInt8) (j:Nat) (hj:j<8):([166,166,166,166,166,166,166,166]++d)[j]?=some (ini8 j):=by
 rw [List.getElem?_append_left (by exact hj)]
 rcases (by omega:j=0 ∨ j=1 ∨ j=2 ∨ j=3 ∨ j=4 ∨ j=5 ∨ j=6 ∨ j=7) with rfl | rfl | rfl | rfl | rfl | rfl | rfl | rfl <;> rfl
theorem lit8_P (d:List UInt8) (j:Nat) (hj:j<d.length):([166,166,166,166,166,166,166,166]++d)[8+j]?=some (cutF d 0 j):=by
 rw [List.getElem?_append_right (by exact Nat.le_add_right _ _)]
 show d[8+j - 8]?=_
 rw [Nat.add_sub_cancel_left]
 exact getD_some hj
theorem two_lst {o:List UInt8} {A P:Nat→UInt8} {m:Nat} (hol:o.length=8+m) (hA:∀ j,j<8→o[j]?=some (A j)) (hP:∀ j,j<m→o[8+j]?=some (P j)):o=lst 8 A++lst m P:=by
 rw [← List.take_append_drop 8 o]
 congr 1
 ·exact lst_of_known (fun j hj=>by rw [List.getElem?_take,if_pos hj]; exact hA j hj) (by rw [List.length_take]; omega)
 ·exact lst_of_known (fun j hj=>by rw [List.getElem?_drop]; exact hP j hj) (by rw [List.length_drop]; omega)
theorem rwrap_c (A:Option Addr) (z:Nat) (l:List UInt8) (hk:l.length=16 ∨ l.length=32) (B:Option Addr) (y:Nat) (d:List UInt8) (hd:16≤d.length∧d.length≤128) (h8:d.length%8=0):Does Tryz.prog 22 #[(.slice A l.length z),(.slice B d.length y)] [] (fun w=>Vu cByte w A l.length z l∧Vu cByte w B d.length y d) (fun v E' => ∃ s,v=.tuple #[s,.int .i64 0]∧OwnT cByte 5 s (wrapL l d) E'):=by
 refine does_of (fn:=Tryz.f22) Tryz.func22 rfl Tryz.ntmps22 (Nat.le_of_ble_eq_true rfl) rfl ?_
 intro w0 hH hR
 replace hH:HH w0 [] [] w0:=hH.only [false]
 have hlk:=hR.1.len; have hld:=hR.2.len
 refine zr (zv .mv 0 ?_)
 refine zv .mv 1 ?_
 refine zn (zr (zv .mv 3 ?_))
 refine zm hH (.call Tryz.func40 (new_r A z l hk)) (hH.vu hR.1 (by decide) (Off.nil _ _)) 1 ?_
 clear hH
 rintro _ _ w ⟨g1,rfl,rfl⟩ hH
 refine zv .mv 1 ?_
 refine zv .ext 0 ?_
 refine zv .ext 2 ?_
 refine zv .mv 2 ?_
 refine zv .mv 2 ?_
 refine zn (cxSeq (zr (zv .mv 1 ?_)))
 refine zv (v:=(.bool false)) (fun _ _ hF=>opNot rfl (hF.ev 0 rfl) rfl) 1 ?_
 refine zv .mv 1 ?_
 refine pxV (v:=(.slice B d.length y)) (fun _ _ hF=>opMove rfl (hF.ev 2 rfl)) rfl (gOn 0 rfl rfl rfl (by decide)) (kA rfl) (by decide) ?_
 refine pxV (v:=(.int .i64 (((d.length):Nat):Int))) (fun _ _ hF=>opLen (e:=5) rfl (by kernel_rfl) (hF.ev 0 rfl)) rfl (gOn 1 rfl rfl rfl (by decide)) (kM [false,true,true,true] rfl rfl) (by decide) ?_
 refine pxV (v:=(.bool false)) (fun _ _ hF=>opLss rfl (hF.ev 0 rfl) rfl (decide_eq_false (by omega))) rfl (gOn 1 rfl rfl rfl (by decide)) (kM [false,true,true,true] rfl rfl) (by decide) ?_
 refine zv (v:=(.bool false)) (fun _ _ hF=>opPickF rfl (hF.ev 1 rfl) (hF.ev 0 rfl)) 3 ?_
 refine zv .mv 1 ?_
 refine pxV (v:=(.slice B d.length y)) (fun _ _ hF=>opMove rfl (hF.ev 2 rfl)) rfl (gOn 0 rfl rfl rfl (by decide)) (kA rfl) (by decide) ?_
 refine pxV (v:=(.int .i64 (((d.length):Nat):Int))) (fun _ _ hF=>opLen (e:=5) rfl (by kernel_rfl) (hF.ev 0 rfl)) rfl (gOn 1 rfl rfl rfl (by decide)) (kM [false,true,true,true] rfl rfl) (by decide) ?_
 refine pxV (v:=(.bool false)) (fun _ _ hF=>opGtr rfl (hF.ev 0 rfl) rfl (decide_eq_false (by omega))) rfl (gOn 1 rfl rfl rfl (by decide)) (kM [false,true,true,true] rfl rfl) (by decide) ?_
 refine zv (v:=(.bool false)) (fun _ _ hF=>opPickF rfl (hF.ev 1 rfl) (hF.ev 0 rfl)) 3 ?_
 refine zv .mv 1 ?_
 refine pxV (v:=(.slice B d.length y)) (fun _ _ hF=>opMove rfl (hF.ev 2 rfl)) rfl (gOn 0 rfl rfl rfl (by decide)) (kA rfl) (by decide) ?_
 refine pxV (v:=(.int .i64 (((d.length):Nat):Int))) (fun _ _ hF=>opLen (e:=5) rfl (by kernel_rfl) (hF.ev 0 rfl)) rfl (gOn 1 rfl rfl rfl (by decide)) (kM [false,true,true,true] rfl rfl) (by decide) ?_
 refine pxV (v:=(.int .i64 (((d.length%8):Nat):Int))) (fun _ _ hF=>opRem (z:=((d.length%8:Nat):Int)) rfl (hF.ev 0 rfl) rfl (by omega) remN) rfl (gOn 1 rfl rfl rfl (by decide)) (kM [false,true,true,true] rfl rfl) (by decide) ?_
 refine pxV (v:=(.bool false)) (fun _ _ hF=>opNeI rfl (hF.ev 0 rfl) rfl (decide_eq_false (by omega))) rfl (gOn 1 rfl rfl rfl (by decide)) (kM [false,true,true,true] rfl rfl) (by decide) ?_
 refine zv (v:=(.bool false)) (fun _ _ hF=>opPickF rfl (hF.ev 1 rfl) (hF.ev 0 rfl)) 3 ?_
 refine zn (zF ?_)
 refine cxSkip (qxThen (zr (zm hH (fun _ hF=>smLits (C:=cByte) (e:=5) (z:=(.int .u8 0)) (by_:=1) [166,166,166,166,166,166,166,166] rfl (by kernel_rfl) (by kernel_rfl) (EvP.cons (v:=cByte.val 166) rfl (EvP.cons (v:=cByte.val 166) rfl (EvP.cons (v:=cByte.val 166) rfl (EvP.cons (v:=cByte.val 166) rfl (EvP.cons (v:=cByte.val 166) rfl (EvP.cons (v:=cByte.val 166) rfl (EvP.cons (v:=cByte.val 166) rfl (EvP.cons (v:=cByte.val 166) rfl EvP.nil)))))))) rfl (ltb rfl) (leb rfl) rfl) trivial 1 ?_)))
 clear hH
 rintro _ _ w ⟨g2,rfl,rfl⟩ hH
 refine zv .mv 0 ?_
 refine ze 1 hH rfl (fun _ hF=>smAppT (C:=cByte) (l:=[166,166,166,166,166,166,166,166]) (m:=d) (e:=5) (z:=(.int .u8 0)) (by_:=1) rfl (by kernel_rfl) (by kernel_rfl) rfl (ltb rfl) (hF.ev 1 rfl) ((Bk.lits (C:=cByte) [166,166,166,166,166,166,166,166] (by show 8≤_; unfold maxLen; decide)).own 5 g2 rfl) (hF.ev 0 rfl) rfl (vu_nilA hR.2) (by show 8+_≤maxLen; unfold maxLen; omega) (by show (8+_)*1≤_; omega)) (hH.vu hR.2 (by decide) (Off.nil _ _)) 3 ?_
 clear hH
 rintro v5 E6 w ⟨hO7,_⟩ hH
 replace hO7:OwnT cByte 5 v5 ([166,166,166,166,166,166,166,166]++d) E6:=hO7
 obtain ⟨A3,c4,rfl⟩:=hO7.slice
 refine zv .mv 1 ?_
 refine zn ?_
 have hln:=lit8 d
 obtain ⟨g8,cap9,cur10,hv12,rfl,hB11⟩:=hO7.open (by omega)
 obtain ⟨rfl,rfl⟩:A3=some ⟨g8,0,none⟩∧c4=cap9:=by injection hv12 with h1 h2 h3; exact ⟨h1,h3⟩
 have:=hB11.le
 rw [hln]
 refine zr (zv .mv 0 ?_)
 refine zn (cxSeq (zr (zv .mv 0 ?_)))
 refine zn (cxBlock ?_)
 refine zL4 (fun (j:Nat) (t:Nat) (_:List UInt8) (_:Array Value)=>[(39,(.int .i64 (((j):Nat):Int))),(9,(.int .u64 (((t):Nat):Int))),(8,(.slice (some ⟨g8,0,none⟩) (8+d.length) c4)),(6,(.pointer (some ⟨g1,0,none⟩))),(1,(.slice B d.length y))]) (fun j t o cu w=>HH w0 [] [[bl g1 107 (cCi.enc (boxF,bk boxF 256,(upF (16*(l.length / 4+7)) (aeW l) fun _=>0),(l.length / 4+6)))],[bl g8 5 cu]] w∧(j≤6)∧(t=(d.length / 8)*j)∧(o.length=8+d.length)∧(∀ j,j<8→o[j]?=some ((wrapR (aeE l) d.length ini8 (cutF d 0) t).1 j))∧(∀ j,j<d.length→o[8+j]?=some ((wrapR (aeE l) d.length ini8 (cutF d 0) t).2 j))∧(Bk cByte c4 cu o)) (fun j _ _ _=>6 - j) 0 0 ([166,166,166,166,166,166,166,166]++d) cur10 ⟨hH,(Nat.zero_le _),(Nat.mul_zero _).symm,hln,(lit8_A d),(lit8_P d),hB11⟩ ?_
 clear hH
 rintro j t o cu w ⟨hH,hj,ht,hol,hoA,hoP,hB⟩
 refine zr (zv (.lt (j<6)) 0 ?_)
 refine zn (cxSeq ?_)
 refine zP (fun hc13 => ?_) (fun hc13 => ?_)
 refine cxSkip (qxThen (cxSeq (cxBlock (zr (zv .mv 1 ?_)))))
 refine zn (cxBlock ?_)
 have htb:t+(d.length / 8)≤(d.length / 8)*6:=by rw [ht,← Nat.mul_succ]; exact Nat.mul_le_mul_left _ (by omega)
 refine zL3 (fun (i:Nat) (_:List UInt8) (_:Array Value)=>[(39,(.int .i64 (((j):Nat):Int))),(10,(.int .i64 (((i+1):Nat):Int))),(9,(.int .u64 (((t+i):Nat):Int))),(8,(.slice (some ⟨g8,0,none⟩) (8+d.length) c4)),(6,(.pointer (some ⟨g1,0,none⟩))),(1,(.slice B d.length y))]) (fun i o2 cu2 w=>HH w0 [] [[bl g1 107 (cCi.enc (boxF,bk boxF 256,(upF (16*(l.length / 4+7)) (aeW l) fun _=>0),(l.length / 4+6)))],[bl g8 5 cu2]] w∧(i≤(d.length / 8))∧(o2.length=8+d.length)∧(∀ j,j<8→o2[j]?=some ((wrapR (aeE l) d.length ini8 (cutF d 0) (t+i)).1 j))∧(∀ j,j<d.length→o2[8+j]?=some ((wrapR (aeE l) d.length ini8 (cutF d 0) (t+i)).2 j))∧(Bk cByte c4 cu2 o2)) (fun i _ _=>(d.length / 8) - i) 0 o cu ⟨hH,(Nat.zero_le _),hol,hoA,hoP,hB⟩ ?_
 clear hH
 rintro i o2 cu2 w ⟨hH,hi,hol2,hoA2,hoP2,hB2⟩
 refine cxSeq (zr (zv .mv 0 ?_))
 refine zv .mv 0 ?_
 refine zv .len 1 ?_
 refine zv (v:=(.int .i64 (((d.length / 8):Nat):Int))) (fun _ _ hF=>opQuo (z:=((d.length / 8:Nat):Int)) rfl (hF.ev 0 rfl) rfl (by omega) (wI quoN (by omega) (by omega))) 1 ?_
 refine zv (.le (i+1≤d.length / 8)) 3 ?_
 refine zn ?_
 refine zP (fun hc14 => ?_) (fun hc14 => ?_)
 refine cxSkip (qxThen (cxSeq (cxBlock (zr (zm hH (.al (cArr 16) (fun _=>0)) trivial 1 ?_)))))
 clear hH
 rintro _ _ w ⟨g15,rfl,rfl⟩ hH
 refine zn ?_
 have he8:8*(i+1)=8+8*i:=by omega
 refine zx ?_
 replace hH:=hH.drew
 refine rv 0 (v:=(.slice (some ⟨g15,0,none⟩) 16 16)) (fun _ _ hF=>opSliceA (n:=16) (e:=5) (sz:=1) rfl (by kernel_rfl) (by kernel_rfl) (hF.ev 0 rfl)) 0 ?_
 refine rv 1 .mv 0 ?_
 refine rv 2 (v:=(.slice (some ⟨g8,0,none⟩) 8 c4)) (fun _ _ hF=>opCutH (h:=8) (e:=5) (sz:=1) rfl (by kernel_rfl) (by kernel_rfl) (hF.ev 0 rfl) rfl rfl (by omega)) 1 ?_
 refine rx1k 3 ?_
 refine re 3 2 hH rfl (fun _ hF=>smCopyK (C:=cByte) (m:=(o2.take 8)) (e:=5) 8 rfl rfl (by kernel_rfl) (by kernel_rfl) (ltb rfl) (hF.ev 1 rfl) (hF.ev 0 rfl) (by rw [List.length_take]; omega) (by rw [Cod.size]; show 0+8*1≤16; omega) (arr_ovr _ _)) ((hB2.vu (n:=(8+d.length)) (hH.blk 1 rfl) hol2).head (m:=8) (by omega)) 3 (.nil _ []) ?_
 clear hH
 rintro _ _ w ⟨rfl,rfl⟩ hH
 refine ⟨pnil,rn ?_⟩
 refine zx ?_
 replace hH:=hH.drew
 refine rv 0 (v:=(.slice (some ⟨g15,0+8*1,none⟩) (16 - 8) (16 - 8))) (fun _ _ hF=>opSliceAL (m:=16) (l:=8) (e:=5) (sz:=1) rfl (by kernel_rfl) (by kernel_rfl) (hF.ev 1 rfl) rfl rfl (by omega)) 1 ?_
 refine rv 1 .mv 0 ?_
 refine rv 2 .mv 0 ?_
 refine rv 3 (.mul ((8*(i+1):Nat):Int)) 1 ?_
 refine rv 4 .mv 0 ?_
 refine rv 5 (.mul ((8*(i+1):Nat):Int)) 1 ?_
 refine rv 6 (.add (((8*(i+1))+8:Nat):Int)) 1 ?_
 refine rv 7 (v:=(.slice (some ⟨g8,0+(8*(i+1))*1,none⟩) (((8*(i+1))+8) - (8*(i+1))) (c4 - (8*(i+1))))) (fun _ _ hF=>opSlcLH (k:=8*(i+1)) (h:=(8*(i+1))+8) (e:=5) (sz:=1) rfl (by kernel_rfl) (by kernel_rfl) (hF.ev 2 rfl) (hF.ev 1 rfl) (hF.ev 0 rfl) rfl rfl (by omega) (by omega) (by omega)) 7 ?_
 refine rx1k 8 ?_
 refine re 8 2 hH rfl (fun _ hF=>smCopyK (C:=cByte) (m:=((o2.take ((8*(i+1))+8)).drop (8*(i+1)))) (e:=5) 8 (show min (8*(i+1)+8 - 8*(i+1)) (16 - 8)=8 by omega) rfl (by kernel_rfl) (by kernel_rfl) (ltb rfl) (hF.ev 1 rfl) (hF.ev 0 rfl) (by rw [List.length_drop,List.length_take]; omega) (by rw [Cod.size]; show 0+8*1+8*1≤16; omega) (arr_ovA 8 _ _)) (cutA_some (sz:=1) (b:=g8) (off:=0) (c:=c4) (k:=8*(i+1)) (by omega) ▸ ((hB2.vu (n:=(8+d.length)) (hH.blk 1 rfl) hol2).cut (k:=8*(i+1)) (m:=(8*(i+1))+8) (by omega) (by omega))) 3 (.nil _ []) ?_
 clear hH
 rintro _ _ w ⟨rfl,rfl⟩ hH
 refine ⟨pnil,rn ?_⟩
 refine zr (zv .mv 1 ?_)
 refine zs (hH.q 2 rfl) (.ld (cArr 16) (ovA 8 (((o2.take ((8*(i+1))+8)).drop (8*(i+1))).take 8) (ovr ((o2.take 8).take 8) (fun _=>0))) (fun _ hS=>(holds_blk0 hS))) 0 ?_
 refine zc Tryz.func41 (enc_r g1 l hk (ovA 8 (((o2.take ((8*(i+1))+8)).drop (8*(i+1))).take 8) (ovr ((o2.take 8).take 8) (fun _=>0)))) (hH.blk 0 rfl) hH 3 ?_
 clear hH
 intro w hH
 refine ze0 2 hH rfl (.sw (cArr 16) (ovA 8 (((o2.take ((8*(i+1))+8)).drop (8*(i+1))).take 8) (ovr ((o2.take 8).take 8) (fun _=>0))) (aeE l (ovA 8 (((o2.take ((8*(i+1))+8)).drop (8*(i+1))).take 8) (ovr ((o2.take 8).take 8) (fun _=>0))))) trivial ?_
 clear hH
 rintro _ _ w rfl hH
 refine zn ?_
 have hat:(t+i)*8%d.length=8*i:=by rw [ht]; exact (congrArg (fun q=>((d.length / 8)*j+i)*8%q) (show d.length=8*(d.length / 8) by omega)).trans (at_part (by omega))
 obtain ⟨X,hX⟩:∃ X,X=wrB (aeE l) d.length ini8 (cutF d 0) (t+i):=⟨_,rfl⟩
 have he16:(cArr 16).enc X=(cArr 16).enc (aeE l (ovA 8 (((o2.take ((8*(i+1))+8)).drop (8*(i+1))).take 8) (ovr ((o2.take 8).take 8) (fun _=>0)))):=arr_congr (fun j hj=>by rw [hX,he8]; unfold wrB; rw [hat]; exact (aeE_E16 l (by unfold aeR; omega) (both_out hol2 hoA2 hoP2 (by omega)) j hj).symm)
 replace hH:HH w0 [] [[bl g1 107 (cCi.enc (boxF,bk boxF 256,(upF (16*(l.length / 4+7)) (aeW l) fun _=>0),(l.length / 4+6)))],[bl g8 5 cu2],[bl g15 51 ((cArr 16).enc X)]] w:=by rw [he16]; exact hH
 refine zr (zv .mv 17 ?_)
 refine zv (v:=(.int .u64 (((t+i+1):Nat):Int))) (fun _ _ hF=>opAddU (m:=t+i) (j:=1) (z:=(t+i+1)) rfl rfl (hF.ev 0 rfl) rfl (Nat.mod_eq_of_lt (by show _<18446744073709551616; omega))) 1 ?_
 refine zv .mv 1 ?_
 refine zn (cxSeq (zr (zv .mv 0 ?_)))
 refine zn (cxBlock ?_)
 have he17:(cArr 16).enc (upF 0 (countF X (t+i+1)) X)=(cArr 16).enc X:=arr_congr (fun j _=>by rw [upF_zero])
 replace hH:HH w0 [] [[bl g1 107 (cCi.enc (boxF,bk boxF 256,(upF (16*(l.length / 4+7)) (aeW l) fun _=>0),(l.length / 4+6)))],[bl g8 5 cu2],[bl g15 51 ((cArr 16).enc (upF 0 (countF X (t+i+1)) X))]] w:=by rw [he17]; exact hH
 refine zL1 (fun (v8:Nat)=>[(66,(.int .i64 (((v8):Nat):Int))),(39,(.int .i64 (((j):Nat):Int))),(11,(.pointer (some ⟨g15,0,none⟩))),(10,(.int .i64 (((i+1):Nat):Int))),(9,(.int .u64 (((t+i+1):Nat):Int))),(8,(.slice (some ⟨g8,0,none⟩) (8+d.length) c4)),(6,(.pointer (some ⟨g1,0,none⟩))),(1,(.slice B d.length y))]) (fun v8 w=>HH w0 [] [[bl g1 107 (cCi.enc (boxF,bk boxF 256,(upF (16*(l.length / 4+7)) (aeW l) fun _=>0),(l.length / 4+6)))],[bl g8 5 cu2],[bl g15 51 ((cArr 16).enc (upF v8 (countF X (t+i+1)) X))]] w∧(v8≤8)) (fun v8=>8 - v8) 0 ⟨hH,(Nat.zero_le _)⟩ ?_
 clear hH
 rintro v8 w ⟨hH,hk8⟩
 refine zr (zv (.lt (v8<8)) 0 ?_)
 refine zn (cxSeq ?_)
 refine zP (fun hc18 => ?_) (fun hc18 => ?_)
 refine cxSkip (qxThen (cxSeq (cxBlock (zr (zv .mv 1 ?_)))))
 refine zv .mv 1 ?_
 refine zn (cxRegX mixedOrders (by kernel_rfl) ?_)
 replace hH:=hH.drew
 refine rv 0 .mv 0 ?_
 refine rv 1 .mv 0 ?_
 have hi19:v8<16:=by omega
 refine rv 2 (.ia 1 16 v8 (hi:=hi19)) 1 ?_
 refine rld 3 (hH.q 2 rfl) (.ld cByte ((upF v8 (countF X (t+i+1)) X) v8) (fun _ hS=>((holds_blk0 hS).elt hi19))) 1 ?_
 refine rv 4 .mv 0 ?_
 refine rv 5 .mv 8 ?_
 refine rv 6 (.mul ((8*v8:Nat):Int)) 1 ?_
 refine rv 7 (.sub (((56 - 8*v8):Nat):Int)) 1 ?_
 refine rv 8 (v:=(.int .u64 ((((t+i+1) / 2^(56 - 8*v8)):Nat):Int))) (fun _ _ hF=>opShrU (n:=56 - 8*v8) (z:=((t+i+1) / 2^(56 - 8*v8))) rfl (hF.ev 1 rfl) (hF.ev 0 rfl) (by show _≤64; omega) (rfl)) 3 ?_
 refine rv 9 .cb 1 ?_
 refine rv 10 (.xb (((upF v8 (countF X (t+i+1)) X) v8) ^^^ (UInt8.ofNat ((t+i+1) / 2^(56 - 8*v8)))) (u:=((upF v8 (countF X (t+i+1)) X) v8)) (v:=(UInt8.ofNat ((t+i+1) / 2^(56 - 8*v8))))) 3 ?_
 have hi20:v8<16:=by omega
 refine rv 11 (.ia 1 16 v8 (hi:=hi20)) 2 ?_
 refine rx1k 12 ?_
 refine re0 12 2 hH rfl (.st cByte (((upF v8 (countF X (t+i+1)) X) v8) ^^^ (UInt8.ofNat ((t+i+1) / 2^(56 - 8*v8)))) (room_1 (S:=sBy) (C:=(cArr 16)) rfl hi20) (arr_set0 (upF v8 (countF X (t+i+1)) X) (((upF v8 (countF X (t+i+1)) X) v8) ^^^ (UInt8.ofNat ((t+i+1) / 2^(56 - 8*v8)))) hi20)) trivial (pgo [] (.nil _ [])) ?_
 clear hH
 rintro _ _ w rfl hH
 refine ⟨pnil,rxEnd (by kernel_rfl) ?_⟩
 refine qxInN (qxThen (cxReg (zv (.add ((v8+1:Nat):Int)) 7 ?_)))
 refine zv .mv 1 ?_
 refine pxEnd ?_
 have he21:(cArr 16).enc (upF (v8+1) (countF X (t+i+1)) X)=(cArr 16).enc (stF (upF v8 (countF X (t+i+1)) X) v8 (((upF v8 (countF X (t+i+1)) X) v8) ^^^ (UInt8.ofNat ((t+i+1) / 2^(56 - 8*v8))))):=arr_congr (fun j _=>(congrFun (upF_step v8 _ X (cnt_step (by omega) (by omega))) j).symm)
 replace hH:HH w0 [] [[bl g1 107 (cCi.enc (boxF,bk boxF 256,(upF (16*(l.length / 4+7)) (aeW l) fun _=>0),(l.length / 4+6)))],[bl g8 5 cu2],[bl g15 51 ((cArr 16).enc (upF (v8+1) (countF X (t+i+1)) X))]] w:=by rw [he21]; exact hH
 exact zR1 (v8+1) ⟨hH,(by omega)⟩ (by omega)
 refine cxExit (qxThenE (qxThenE (qxInE (qxThen ?_))))
 obtain rfl:v8=8:=by omega
 have he22:(cArr 16).enc (countF X (t+i+1))=(cArr 16).enc (upF 8 (countF X (t+i+1)) X):=arr_congr (fun j _=>cnt_all _ _ j)
 replace hH:HH w0 [] [[bl g1 107 (cCi.enc (boxF,bk boxF 256,(upF (16*(l.length / 4+7)) (aeW l) fun _=>0),(l.length / 4+6)))],[bl g8 5 cu2],[bl g15 51 ((cArr 16).enc (countF X (t+i+1)))]] w:=by rw [he22]; exact hH
 refine zx ?_
 replace hH:=hH.drew
 refine rv 0 .mv 3 ?_
 refine rv 1 (v:=(.slice (some ⟨g8,0,none⟩) 8 c4)) (fun _ _ hF=>opCutH (h:=8) (e:=5) (sz:=1) rfl (by kernel_rfl) (by kernel_rfl) (hF.ev 0 rfl) rfl rfl (by omega)) 1 ?_
 refine rv 2 (v:=(.slice (some ⟨g15,0,none⟩) 8 16)) (fun _ _ hF=>opSliceAH (m:=16) (h:=8) (e:=5) (sz:=1) rfl (by kernel_rfl) (by kernel_rfl) (hF.ev 2 rfl) rfl rfl (by omega)) 0 ?_
 obtain ⟨cur24,hcs25,hB23⟩:∃ cs,putL cu2 (0) (flat cByte ((lst 16 (countF X (t+i+1))).take 8))=cs∧Bk cByte c4 cs (o2.take 0++(((lst 16 (countF X (t+i+1))).take 8)++o2.drop (0+((lst 16 (countF X (t+i+1))).take 8).length))):=⟨_,rfl,hB2.copy 0 ((lst 16 (countF X (t+i+1))).take 8) (by rw [List.length_take,lst_len]; show 0+8≤_; omega)⟩
 refine rx1k 3 ?_
 refine re 3 1 hH rfl (fun _ hF=>smCopyT (C:=cByte) (m:=((lst 16 (countF X (t+i+1))).take 8)) (e:=5) rfl (by kernel_rfl) (by kernel_rfl) (ltb rfl) (hF.ev 1 rfl) (hF.ev 0 rfl) (by omega) (by rw [List.length_take,lst_len]; rfl) (room_cp hB2 (k:=0) (n:=8) (by omega)) hcs25) ((vu_arr (hH.blk 2 rfl)).head (m:=8) (by omega)) 3 (.nil _ []) ?_
 clear hH
 rintro _ _ w ⟨rfl,rfl⟩ hH
 refine ⟨pnil,rn ?_⟩
 obtain ⟨o3,ho3⟩:∃ o3,o3=(o2.take 0++(((lst 16 (countF X (t+i+1))).take 8)++o2.drop (0+((lst 16 (countF X (t+i+1))).take 8).length))):=⟨_,rfl⟩
 rw [← ho3] at hB23
 obtain ⟨hq1,hq2,hq3⟩:=put_head (by omega) ho3
 refine cxRegX mixedOrders (by kernel_rfl) ?_
 replace hH:=hH.drew
 refine rv 0 .mv 1 ?_
 refine rv 1 .mv 0 ?_
 refine rv 2 (.mul ((8*(i+1):Nat):Int)) 1 ?_
 refine rv 3 (v:=(.slice (some ⟨g8,0+(8*(i+1))*1,none⟩) ((8+d.length) - (8*(i+1))) (c4 - (8*(i+1))))) (fun _ _ hF=>opSlcL (k:=8*(i+1)) (e:=5) (sz:=1) rfl (by kernel_rfl) (by kernel_rfl) (hF.ev 1 rfl) (hF.ev 0 rfl) rfl (by omega) (by omega)) 3 ?_
 refine rv 4 (v:=(.slice (some ⟨g15,0+8*1,none⟩) (16 - 8) (16 - 8))) (fun _ _ hF=>opSliceAL (m:=16) (l:=8) (e:=5) (sz:=1) rfl (by kernel_rfl) (by kernel_rfl) (hF.ev 2 rfl) rfl rfl (by omega)) 4 ?_
 obtain ⟨cur27,hcs28,hB26⟩:∃ cs,putL cur24 (0+(8*(i+1))*1) (flat cByte ((lst 16 (countF X (t+i+1))).drop 8))=cs∧Bk cByte c4 cs (o3.take (8*(i+1))++(((lst 16 (countF X (t+i+1))).drop 8)++o3.drop (8*(i+1)+((lst 16 (countF X (t+i+1))).drop 8).length))):=⟨_,rfl,hB23.copy (8*(i+1)) ((lst 16 (countF X (t+i+1))).drop 8) (by rw [List.length_drop,lst_len]; omega)⟩
 refine rx1k 5 ?_
 refine re 5 1 hH rfl (fun _ hF=>smCopyT (C:=cByte) (m:=((lst 16 (countF X (t+i+1))).drop 8)) (e:=5) rfl (by kernel_rfl) (by kernel_rfl) (ltb rfl) (hF.ev 1 rfl) (hF.ev 0 rfl) (by omega) (by rw [List.length_drop,lst_len]) (room_cp hB23 (k:=8*(i+1)) (n:=16 - 8) (by omega)) hcs28) (cutA_some (sz:=1) (b:=g15) (off:=0) (c:=16) (k:=8) (by omega) ▸ ((vu_arr (hH.blk 2 rfl)).from (k:=8) (by omega))) 3 (.nil _ []) ?_
 clear hH
 rintro _ _ w ⟨rfl,rfl⟩ hH
 refine ⟨pnil,rxEnd (by kernel_rfl) ?_⟩
 refine qxInN (qxThen (cxReg (zv .mv 5 ?_)))
 refine zv (.add (((i+1+1):Nat):Int)) 1 ?_
 refine zv .mv 1 ?_
 refine pxEnd ?_
 replace hH:HH w0 [] [[bl g1 107 (cCi.enc (boxF,bk boxF 256,(upF (16*(l.length / 4+7)) (aeW l) fun _=>0),(l.length / 4+6)))],[bl g8 5 cur27]] w:=hH.only [true,true,false]
 have hsu:=wrapR_succ (e:=aeE l) (m:=d.length) (A:=ini8) (P:=cutF d 0) (t:=t+i)
 rw [hat,← hX] at hsu
 exact zR3 (i+1) (o3.take (8*(i+1))++(((lst 16 (countF X (t+i+1))).drop 8)++o3.drop (8*(i+1)+((lst 16 (countF X (t+i+1))).drop 8).length))) cur27 ⟨hH,(by omega),(by rw [put_len (by omega)]; omega),(fun j hj=>by rw [put_keeps (by omega) hj (by omega),hq2 j hj,← Nat.add_assoc,hsu]),(fun j hj=>by rw [← Nat.add_assoc,hsu,he8]; exact put_behind (by omega) (by omega) (fun j hj=>(hq3 j).trans (hoP2 j hj)) (fun j hj=>if_neg (by omega)) j hj),hB26⟩ (by omega)
 refine cxExit (qxThenE (qxThenE (qxInE (qxInN (qxThen ?_)))))
 obtain rfl:i=(d.length / 8):=by omega
 refine cxReg (zv (.add ((j+1:Nat):Int)) 7 ?_)
 refine zv .mv 1 ?_
 refine pxEnd ?_
 exact zR4 (j+1) (t+(d.length / 8)) o2 cu2 ⟨hH,(by omega),(by rw [ht]; exact (Nat.mul_succ _ _).symm),hol2,hoA2,hoP2,hB2⟩ (by omega)
 refine cxExit (qxThenE (qxThenE (qxInE (qxThen ?_))))
 obtain rfl:j=6:=by omega
 refine zr (zv .mv 63 ?_)
 refine zv .mv 1 ?_
 refine zv .mv 0 ?_
 refine zn (cxRet (qxRet2 1 0 rfl rfl rfl ?_))
 have hfin:=hB
 rw [two_lst hol hoA hoP,ht,Nat.mul_comm] at hfin
 exact ⟨_,_,rfl,⟨_,rfl,hfin.own 5 g8 (by rw [List.length_append,lst_len,lst_len])⟩,hH.out1 [false,true] rfl⟩
theorem at_part_back {n j q:Nat} (hj:j<6) (hq:q<n):(6*n - (n*j+q) - 1)*8%(8*n)=8*(n - q - 1):=by
 obtain ⟨r,hr⟩:∃ r,6*n - (n*j+q) - 1=n*r+(n - q - 1):=by
  rcases (by omega:j=0 ∨ j=1 ∨ j=2 ∨ j=3 ∨ j=4 ∨ j=5) with rfl | rfl | rfl | rfl | rfl | rfl
  ·exact ⟨5,by omega⟩
  ·exact ⟨4,by omega⟩
  ·exact ⟨3,by omega⟩
  ·exact ⟨2,by omega⟩
  ·exact ⟨1,by omega⟩
  ·exact ⟨0,by omega⟩
 rw [hr,at_part (by omega)]
theorem back_fits {n j:Nat} (hj:j<6):n*j+n≤6*n:=by
 rw [← Nat.mul_succ,Nat.mul_comm 6 n]
 exact Nat.mul_le_mul_left _ hj
section
variable {o d:List UInt8} {A P:Nat→UInt8} {m k:Nat}
theorem both_cnt (hol:o.length=8+m) (hA:∀ j,j<8→o[j]?=some (A j)) (hP:∀ j,j<m→o[8+j]?=some (P j)) (hk:k+8≤m) (t:Nat) (Y:Nat→UInt8) (hY:Y=ovA 8 (((o.take (8+k+8)).drop (8+k)).take 8) (ovr ((o.take 8).take 8) fun _=>0)):E16 (countF Y t) (bothF (countF A t) fun j=>P (k+j)):=fun j hj=>by
 have h:=both_out hol hA hP hk
 rw [← hY] at h
 unfold countF bothF
 by_cases h7:j=7
 ·dsimp only
  rw [if_pos h7,if_pos (by omega),if_pos h7,h 7 (by decide)]; rfl
 ·rw [if_neg h7,h j hj]
  unfold bothF
  by_cases h8:j<8
  ·dsimp only
   rw [if_pos h8,if_pos h8,if_neg h7]
  ·dsimp only
   rw [if_neg h8,if_neg h8]
theorem drop8 (hol:o.length=8+m) (hP:∀ j,j<m→o[8+j]?=some (P j)):o.drop 8=lst m P :=
 lst_of_known (fun j hj=>by rw [List.getElem?_drop]; exact hP j hj) (by rw [List.length_drop]; omega)
theorem head_ne {i:Nat} {x:UInt8} (hA:∀ j,j<8→o[j]?=some (A j)) (hi:i<8) (hx:o[i]?=some x) (hne:x.toNat≠166):lst 8 A≠lst 8 ini8:=fun h=>by
 have h1:=congrArg (fun l=>l[i]?) h
 simp only [lst_get hi] at h1
 rw [hA i hi] at hx
 rw [← Option.some.inj hx,Option.some.inj h1] at hne
 exact hne rfl
end
theorem known_next {α:Type} {o:List α} {i:Nat} {c:α} (h:∀ j,j<i→o[j]?=some c) (hx:o[i]?=some c):∀ j,j<i+1→o[j]?=some c:=fun j hj=>by
 by_cases he:j=i
 ·rw [he]; exact hx
 ·exact h j (by omega)
theorem runwrap_c (A:Option Addr) (z:Nat) (l:List UInt8) (hk:l.length=16 ∨ l.length=32) (B:Option Addr) (y:Nat) (d:List UInt8) (hd:24≤d.length∧d.length≤136) (h8:d.length%8=0):Does Tryz.prog 30 #[(.slice A l.length z),(.slice B d.length y)] [] (fun w=>Vu cByte w A l.length z l∧Vu cByte w B d.length y d) (fun v E'=>(unE l d=0 → ∃ g cap cur o,v=.tuple #[.slice (some ⟨g,0+8*1,none⟩) (d.length - 8) (cap - 8),.int .i64 0]∧E'=[bl g 5 cur]∧Bk cByte cap cur o∧o.length=d.length∧o.drop 8=unL l d)∧(unE l d≠0→v=.tuple #[.slice none 0 0,.int .i64 5]∧E'=[])):=by
 refine does_of (fn:=Tryz.f30) Tryz.func30 rfl Tryz.ntmps30 (Nat.le_of_ble_eq_true rfl) rfl ?_
 intro w0 hH hR
 replace hH:HH w0 [] [] w0:=hH.only [false]
 have hlk:=hR.1.len; have hld:=hR.2.len
 refine zr (zv .mv 0 ?_)
 refine zv .mv 1 ?_
 refine zn (zr (zv .mv 3 ?_))
 refine zm hH (.call Tryz.func40 (new_r A z l hk)) (hH.vu hR.1 (by decide) (Off.nil _ _)) 1 ?_
 clear hH
 rintro _ _ w ⟨g1,rfl,rfl⟩ hH
 refine zv .mv 1 ?_
 refine zv .ext 0 ?_
 refine zv .ext 2 ?_
 refine zv .mv 2 ?_
 refine zv .mv 2 ?_
 refine zn (cxSeq (zr (zv .mv 1 ?_)))
 refine zv (v:=(.bool false)) (fun _ _ hF=>opNot rfl (hF.ev 0 rfl) rfl) 1 ?_
 refine zv .mv 1 ?_
 refine pxV (v:=(.slice B d.length y)) (fun _ _ hF=>opMove rfl (hF.ev 2 rfl)) rfl (gOn 0 rfl rfl rfl (by decide)) (kA rfl) (by decide) ?_
 refine pxV (v:=(.int .i64 (((d.length):Nat):Int))) (fun _ _ hF=>opLen (e:=5) rfl (by kernel_rfl) (hF.ev 0 rfl)) rfl (gOn 1 rfl rfl rfl (by decide)) (kM [false,true,true,true] rfl rfl) (by decide) ?_
 refine pxV (v:=(.bool false)) (fun _ _ hF=>opLss rfl (hF.ev 0 rfl) rfl (decide_eq_false (by omega))) rfl (gOn 1 rfl rfl rfl (by decide)) (kM [false,true,true,true] rfl rfl) (by decide) ?_
 refine zv (v:=(.bool false)) (fun _ _ hF=>opPickF rfl (hF.ev 1 rfl) (hF.ev 0 rfl)) 3 ?_
 refine zv .mv 1 ?_
 refine pxV (v:=(.slice B d.length y)) (fun _ _ hF=>opMove rfl (hF.ev 2 rfl)) rfl (gOn 0 rfl rfl rfl (by decide)) (kA rfl) (by decide) ?_
 refine pxV (v:=(.int .i64 (((d.length):Nat):Int))) (fun _ _ hF=>opLen (e:=5) rfl (by kernel_rfl) (hF.ev 0 rfl)) rfl (gOn 1 rfl rfl rfl (by decide)) (kM [false,true,true,true] rfl rfl) (by decide) ?_
 refine pxV (v:=(.bool false)) (fun _ _ hF=>opGtr rfl (hF.ev 0 rfl) rfl (decide_eq_false (by omega))) rfl (gOn 1 rfl rfl rfl (by decide)) (kM [false,true,true,true] rfl rfl) (by decide) ?_
 refine zv (v:=(.bool false)) (fun _ _ hF=>opPickF rfl (hF.ev 1 rfl) (hF.ev 0 rfl)) 3 ?_
 refine zv .mv 1 ?_
 refine pxV (v:=(.slice B d.length y)) (fun _ _ hF=>opMove rfl (hF.ev 2 rfl)) rfl (gOn 0 rfl rfl rfl (by decide)) (kA rfl) (by decide) ?_
 refine pxV (v:=(.int .i64 (((d.length):Nat):Int))) (fun _ _ hF=>opLen (e:=5) rfl (by kernel_rfl) (hF.ev 0 rfl)) rfl (gOn 1 rfl rfl rfl (by decide)) (kM [false,true,true,true] rfl rfl) (by decide) ?_
 refine pxV (v:=(.int .i64 (((d.length%8):Nat):Int))) (fun _ _ hF=>opRem (z:=((d.length%8:Nat):Int)) rfl (hF.ev 0 rfl) rfl (by omega) remN) rfl (gOn 1 rfl rfl rfl (by decide)) (kM [false,true,true,true] rfl rfl) (by decide) ?_
 refine pxV (v:=(.bool false)) (fun _ _ hF=>opNeI rfl (hF.ev 0 rfl) rfl (decide_eq_false (by omega))) rfl (gOn 1 rfl rfl rfl (by decide)) (kM [false,true,true,true] rfl rfl) (by decide) ?_
 refine zv (v:=(.bool false)) (fun _ _ hF=>opPickF rfl (hF.ev 1 rfl) (hF.ev 0 rfl)) 3 ?_
 refine zn (zF ?_)
 refine cxSkip (qxThen (zr (zm hH (fun _ hF=>smLit0 (e:=5) rfl (by kernel_rfl) (by kernel_rfl)) trivial 1 ?_)))
 clear hH
 rintro _ _ w ⟨g2,rfl,rfl⟩ hH
 refine zv .mv 0 ?_
 refine ze 1 hH rfl (fun _ hF=>smAppT (C:=cByte) (l:=[]) (m:=d) (e:=5) (z:=(.int .u8 0)) (by_:=1) rfl (by kernel_rfl) (by kernel_rfl) rfl (ltb rfl) (hF.ev 1 rfl) ((Bk.lit0 (C:=cByte)).own 5 g2 rfl) (hF.ev 0 rfl) rfl (vu_nilA hR.2) (by rw [List.length_nil]; unfold maxLen; omega) (by rw [List.length_nil]; omega)) (hH.vu hR.2 (by decide) (Off.nil _ _)) 3 ?_
 clear hH
 rintro v5 E6 w ⟨hO7,_⟩ hH
 replace hO7:OwnT cByte 5 v5 d E6:=hO7
 obtain ⟨A3,c4,rfl⟩:=hO7.slice
 refine zv .mv 1 ?_
 refine zn (zr (zv .mv 4 ?_))
 refine zv .len 1 ?_
 refine zv (v:=(.int .i64 (((d.length / 8):Nat):Int))) (fun _ _ hF=>opQuo (z:=((d.length / 8:Nat):Int)) rfl (hF.ev 0 rfl) rfl (by omega) (wI quoN (by omega) (by omega))) 1 ?_
 refine zv (.sub ((((d.length / 8 - 1)):Nat):Int)) 1 ?_
 refine zv .mv 1 ?_
 refine zn (zr (zv .mv 0 ?_))
 refine zv (.mul ((6*(d.length / 8 - 1):Nat):Int)) 1 ?_
 refine zv (.cu .u64) 1 ?_
 refine zv .mv 1 ?_
 refine zn (cxSeq ?_)
 obtain ⟨g8,cap9,cur10,hv12,rfl,hB11⟩:=hO7.open (by omega)
 obtain ⟨rfl,rfl⟩:A3=some ⟨g8,0,none⟩∧c4=cap9:=by injection hv12 with h1 h2 h3; exact ⟨h1,h3⟩
 have:=hB11.le
 refine zr (zv .mv 0 ?_)
 refine zn (cxBlock ?_)
 refine zL4 (fun (j:Nat) (k:Nat) (_:List UInt8) (_:Array Value)=>[(48,(.int .i64 (((j):Nat):Int))),(10,(.int .u64 (((6*(d.length / 8 - 1) - k):Nat):Int))),(9,(.int .i64 ((((d.length / 8 - 1)):Nat):Int))),(8,(.slice (some ⟨g8,0,none⟩) d.length c4)),(6,(.pointer (some ⟨g1,0,none⟩)))]) (fun j k o cu w=>HH w0 [] [[bl g1 107 (cCi.enc (boxF,bk boxF 256,(upF (16*(l.length / 4+7)) (aeW l) fun _=>0),(l.length / 4+6)))],[bl g8 5 cu]] w∧(j≤6)∧(k=(d.length / 8 - 1)*j)∧(o.length=8+(d.length - 8))∧(∀ j,j<8→o[j]?=some ((unR (aeD l) (d.length - 8) (6*(d.length / 8 - 1)) (cutF d 0) (cutF d 8) k).1 j))∧(∀ j,j<(d.length - 8)→o[8+j]?=some ((unR (aeD l) (d.length - 8) (6*(d.length / 8 - 1)) (cutF d 0) (cutF d 8) k).2 j))∧(Bk cByte c4 cu o)) (fun j _ _ _=>6 - j) 0 0 d cur10 ⟨hH,(Nat.zero_le _),(Nat.mul_zero _).symm,(by omega),(fun j hj=>getD_some (by omega)),(fun j hj=>cut_at8 (by omega)),hB11⟩ ?_
 clear hH
 rintro j k o cu w ⟨hH,hj,hkj,hol,hoA,hoP,hB⟩
 refine zr (zv (.lt (j<6)) 0 ?_)
 refine zn (cxSeq ?_)
 refine zP (fun hc13 => ?_) (fun hc13 => ?_)
 refine cxSkip (qxThen (cxSeq (cxBlock (zr (zv .mv 1 ?_)))))
 refine zv .mv 1 ?_
 refine zn (cxBlock ?_)
 have htb:k+(d.length / 8 - 1)≤6*(d.length / 8 - 1):=by rw [hkj]; exact back_fits (by omega)
 refine zL3 (fun (q:Nat) (_:List UInt8) (_:Array Value)=>[(48,(.int .i64 (((j):Nat):Int))),(11,(.int .i64 ((((d.length / 8 - 1) - q):Nat):Int))),(10,(.int .u64 (((6*(d.length / 8 - 1) - (k+q)):Nat):Int))),(9,(.int .i64 ((((d.length / 8 - 1)):Nat):Int))),(8,(.slice (some ⟨g8,0,none⟩) d.length c4)),(6,(.pointer (some ⟨g1,0,none⟩)))]) (fun q o2 cu2 w=>HH w0 [] [[bl g1 107 (cCi.enc (boxF,bk boxF 256,(upF (16*(l.length / 4+7)) (aeW l) fun _=>0),(l.length / 4+6)))],[bl g8 5 cu2]] w∧(q≤(d.length / 8 - 1))∧(o2.length=8+(d.length - 8))∧(∀ j,j<8→o2[j]?=some ((unR (aeD l) (d.length - 8) (6*(d.length / 8 - 1)) (cutF d 0) (cutF d 8) (k+q)).1 j))∧(∀ j,j<(d.length - 8)→o2[8+j]?=some ((unR (aeD l) (d.length - 8) (6*(d.length / 8 - 1)) (cutF d 0) (cutF d 8) (k+q)).2 j))∧(Bk cByte c4 cu2 o2)) (fun q _ _=>(d.length / 8 - 1) - q) 0 o cu ⟨hH,(Nat.zero_le _),hol,hoA,hoP,hB⟩ ?_
 clear hH
 rintro q o2 cu2 w ⟨hH,hq,hol2,hoA2,hoP2,hB2⟩
 refine cxSeq (zr (zv .mv 0 ?_))
 refine zv (.ge ((d.length / 8 - 1) - q ≥ 1)) 1 ?_
 refine zn ?_
 refine zP (fun hc14 => ?_) (fun hc14 => ?_)
 refine cxSkip (qxThen (cxSeq (cxBlock (zr (zm hH (.al (cArr 16) (fun _=>0)) trivial 1 ?_)))))
 clear hH
 rintro _ _ w ⟨g15,rfl,rfl⟩ hH
 refine zn ?_
 have he8:8*((d.length / 8 - 1) - q)=8+8*((d.length / 8 - 1) - q - 1):=by omega
 refine zx ?_
 replace hH:=hH.drew
 refine rv 0 (v:=(.slice (some ⟨g15,0,none⟩) 16 16)) (fun _ _ hF=>opSliceA (n:=16) (e:=5) (sz:=1) rfl (by kernel_rfl) (by kernel_rfl) (hF.ev 0 rfl)) 0 ?_
 refine rv 1 .mv 0 ?_
 refine rv 2 (v:=(.slice (some ⟨g8,0,none⟩) 8 c4)) (fun _ _ hF=>opCutH (h:=8) (e:=5) (sz:=1) rfl (by kernel_rfl) (by kernel_rfl) (hF.ev 0 rfl) rfl rfl (by omega)) 1 ?_
 refine rx1k 3 ?_
 refine re 3 2 hH rfl (fun _ hF=>smCopyK (C:=cByte) (m:=(o2.take 8)) (e:=5) 8 rfl rfl (by kernel_rfl) (by kernel_rfl) (ltb rfl) (hF.ev 1 rfl) (hF.ev 0 rfl) (by rw [List.length_take]; omega) (by rw [Cod.size]; show 0+8*1≤16; omega) (arr_ovr _ _)) ((hB2.vu (n:=d.length) (hH.blk 1 rfl) (hol2.trans (by omega))).head (m:=8) (by omega)) 3 (.nil _ []) ?_
 clear hH
 rintro _ _ w ⟨rfl,rfl⟩ hH
 refine ⟨pnil,rn ?_⟩
 refine zx ?_
 replace hH:=hH.drew
 refine rv 0 (v:=(.slice (some ⟨g15,0+8*1,none⟩) (16 - 8) (16 - 8))) (fun _ _ hF=>opSliceAL (m:=16) (l:=8) (e:=5) (sz:=1) rfl (by kernel_rfl) (by kernel_rfl) (hF.ev 1 rfl) rfl rfl (by omega)) 1 ?_
 refine rv 1 .mv 0 ?_
 refine rv 2 .mv 0 ?_
 refine rv 3 (.mul ((8*((d.length / 8 - 1) - q):Nat):Int)) 1 ?_
 refine rv 4 .mv 0 ?_
 refine rv 5 (.mul ((8*((d.length / 8 - 1) - q):Nat):Int)) 1 ?_
 refine rv 6 (.add (((8*((d.length / 8 - 1) - q))+8:Nat):Int)) 1 ?_
 refine rv 7 (v:=(.slice (some ⟨g8,0+(8*((d.length / 8 - 1) - q))*1,none⟩) (((8*((d.length / 8 - 1) - q))+8) - (8*((d.length / 8 - 1) - q))) (c4 - (8*((d.length / 8 - 1) - q))))) (fun _ _ hF=>opSlcLH (k:=8*((d.length / 8 - 1) - q)) (h:=(8*((d.length / 8 - 1) - q))+8) (e:=5) (sz:=1) rfl (by kernel_rfl) (by kernel_rfl) (hF.ev 2 rfl) (hF.ev 1 rfl) (hF.ev 0 rfl) rfl rfl (by omega) (by omega) (by omega)) 7 ?_
 refine rx1k 8 ?_
 refine re 8 2 hH rfl (fun _ hF=>smCopyK (C:=cByte) (m:=((o2.take ((8*((d.length / 8 - 1) - q))+8)).drop (8*((d.length / 8 - 1) - q)))) (e:=5) 8 (show min (8*((d.length / 8 - 1) - q)+8 - 8*((d.length / 8 - 1) - q)) (16 - 8)=8 by omega) rfl (by kernel_rfl) (by kernel_rfl) (ltb rfl) (hF.ev 1 rfl) (hF.ev 0 rfl) (by rw [List.length_drop,List.length_take]; omega) (by rw [Cod.size]; show 0+8*1+8*1≤16; omega) (arr_ovA 8 _ _)) (cutA_some (sz:=1) (b:=g8) (off:=0) (c:=c4) (k:=8*((d.length / 8 - 1) - q)) (by omega) ▸ ((hB2.vu (n:=d.length) (hH.blk 1 rfl) (hol2.trans (by omega))).cut (k:=8*((d.length / 8 - 1) - q)) (m:=(8*((d.length / 8 - 1) - q))+8) (by omega) (by omega))) 3 (.nil _ []) ?_
 clear hH
 rintro _ _ w ⟨rfl,rfl⟩ hH
 refine ⟨pnil,rn ?_⟩
 refine cxSeq ?_
 obtain ⟨Y,hY⟩:∃ Y,Y=(ovA 8 (((o2.take ((8*((d.length / 8 - 1) - q))+8)).drop (8*((d.length / 8 - 1) - q))).take 8) (ovr ((o2.take 8).take 8) (fun _=>0))):=⟨_,rfl⟩
 have he16:(cArr 16).enc Y=(cArr 16).enc (ovA 8 (((o2.take ((8*((d.length / 8 - 1) - q))+8)).drop (8*((d.length / 8 - 1) - q))).take 8) (ovr ((o2.take 8).take 8) (fun _=>0))):=arr_congr (fun j hj=>by rw [hY])
 replace hH:HH w0 [] [[bl g1 107 (cCi.enc (boxF,bk boxF 256,(upF (16*(l.length / 4+7)) (aeW l) fun _=>0),(l.length / 4+6)))],[bl g8 5 cu2],[bl g15 51 ((cArr 16).enc Y)]] w:=by rw [he16]; exact hH
 refine zr (zv .mv 1 ?_)
 refine zn (cxBlock ?_)
 have he17:(cArr 16).enc (upF 0 (countF Y (6*(d.length / 8 - 1) - (k+q))) Y)=(cArr 16).enc Y:=arr_congr (fun j _=>by rw [upF_zero])
 replace hH:HH w0 [] [[bl g1 107 (cCi.enc (boxF,bk boxF 256,(upF (16*(l.length / 4+7)) (aeW l) fun _=>0),(l.length / 4+6)))],[bl g8 5 cu2],[bl g15 51 ((cArr 16).enc (upF 0 (countF Y (6*(d.length / 8 - 1) - (k+q))) Y))]] w:=by rw [he17]; exact hH
 refine zL1 (fun (v8:Nat)=>[(68,(.int .i64 (((v8):Nat):Int))),(48,(.int .i64 (((j):Nat):Int))),(12,(.pointer (some ⟨g15,0,none⟩))),(11,(.int .i64 ((((d.length / 8 - 1) - q):Nat):Int))),(10,(.int .u64 (((6*(d.length / 8 - 1) - (k+q)):Nat):Int))),(9,(.int .i64 ((((d.length / 8 - 1)):Nat):Int))),(8,(.slice (some ⟨g8,0,none⟩) d.length c4)),(6,(.pointer (some ⟨g1,0,none⟩)))]) (fun v8 w=>HH w0 [] [[bl g1 107 (cCi.enc (boxF,bk boxF 256,(upF (16*(l.length / 4+7)) (aeW l) fun _=>0),(l.length / 4+6)))],[bl g8 5 cu2],[bl g15 51 ((cArr 16).enc (upF v8 (countF Y (6*(d.length / 8 - 1) - (k+q))) Y))]] w∧(v8≤8)) (fun v8=>8 - v8) 0 ⟨hH,(Nat.zero_le _)⟩ ?_
 clear hH
 rintro v8 w ⟨hH,hk8⟩
 refine zr (zv (.lt (v8<8)) 0 ?_)
 refine zn (cxSeq ?_)
 refine zP (fun hc18 => ?_) (fun hc18 => ?_)
 refine cxSkip (qxThen (cxSeq (cxBlock (zr (zv .mv 1 ?_)))))
 refine zv .mv 1 ?_
 refine zn (cxRegX mixedOrders (by kernel_rfl) ?_)
 replace hH:=hH.drew
 refine rv 0 .mv 0 ?_
 refine rv 1 .mv 0 ?_
 have hi19:v8<16:=by omega
 refine rv 2 (.ia 1 16 v8 (hi:=hi19)) 1 ?_
 refine rld 3 (hH.q 2 rfl) (.ld cByte ((upF v8 (countF Y (6*(d.length / 8 - 1) - (k+q))) Y) v8) (fun _ hS=>((holds_blk0 hS).elt hi19))) 1 ?_
 refine rv 4 .mv 0 ?_
 refine rv 5 .mv 8 ?_
 refine rv 6 (.mul ((8*v8:Nat):Int)) 1 ?_
 refine rv 7 (.sub (((56 - 8*v8):Nat):Int)) 1 ?_
 refine rv 8 (v:=(.int .u64 ((((6*(d.length / 8 - 1) - (k+q)) / 2^(56 - 8*v8)):Nat):Int))) (fun _ _ hF=>opShrU (n:=56 - 8*v8) (z:=((6*(d.length / 8 - 1) - (k+q)) / 2^(56 - 8*v8))) rfl (hF.ev 1 rfl) (hF.ev 0 rfl) (by show _≤64; omega) (rfl)) 3 ?_
 refine rv 9 .cb 1 ?_
 refine rv 10 (.xb (((upF v8 (countF Y (6*(d.length / 8 - 1) - (k+q))) Y) v8) ^^^ (UInt8.ofNat ((6*(d.length / 8 - 1) - (k+q)) / 2^(56 - 8*v8)))) (u:=((upF v8 (countF Y (6*(d.length / 8 - 1) - (k+q))) Y) v8)) (v:=(UInt8.ofNat ((6*(d.length / 8 - 1) - (k+q)) / 2^(56 - 8*v8))))) 3 ?_
 have hi20:v8<16:=by omega
 refine rv 11 (.ia 1 16 v8 (hi:=hi20)) 2 ?_
 refine rx1k 12 ?_
 refine re0 12 2 hH rfl (.st cByte (((upF v8 (countF Y (6*(d.length / 8 - 1) - (k+q))) Y) v8) ^^^ (UInt8.ofNat ((6*(d.length / 8 - 1) - (k+q)) / 2^(56 - 8*v8)))) (room_1 (S:=sBy) (C:=(cArr 16)) rfl hi20) (arr_set0 (upF v8 (countF Y (6*(d.length / 8 - 1) - (k+q))) Y) (((upF v8 (countF Y (6*(d.length / 8 - 1) - (k+q))) Y) v8) ^^^ (UInt8.ofNat ((6*(d.length / 8 - 1) - (k+q)) / 2^(56 - 8*v8)))) hi20)) trivial (pgo [] (.nil _ [])) ?_
 clear hH
 rintro _ _ w rfl hH
 refine ⟨pnil,rxEnd (by kernel_rfl) ?_⟩
 refine qxInN (qxThen (cxReg (zv (.add ((v8+1:Nat):Int)) 7 ?_)))
 refine zv .mv 1 ?_
 refine pxEnd ?_
 have he21:(cArr 16).enc (upF (v8+1) (countF Y (6*(d.length / 8 - 1) - (k+q))) Y)=(cArr 16).enc (stF (upF v8 (countF Y (6*(d.length / 8 - 1) - (k+q))) Y) v8 (((upF v8 (countF Y (6*(d.length / 8 - 1) - (k+q))) Y) v8) ^^^ (UInt8.ofNat ((6*(d.length / 8 - 1) - (k+q)) / 2^(56 - 8*v8))))):=arr_congr (fun j _=>(congrFun (upF_step v8 _ Y (cnt_step (by omega) (by omega))) j).symm)
 replace hH:HH w0 [] [[bl g1 107 (cCi.enc (boxF,bk boxF 256,(upF (16*(l.length / 4+7)) (aeW l) fun _=>0),(l.length / 4+6)))],[bl g8 5 cu2],[bl g15 51 ((cArr 16).enc (upF (v8+1) (countF Y (6*(d.length / 8 - 1) - (k+q))) Y))]] w:=by rw [he21]; exact hH
 exact zR1 (v8+1) ⟨hH,(by omega)⟩ (by omega)
 refine cxExit (qxThenE (qxThenE (qxInE (qxThen ?_))))
 obtain rfl:v8=8:=by omega
 have he22:(cArr 16).enc (countF Y (6*(d.length / 8 - 1) - (k+q)))=(cArr 16).enc (upF 8 (countF Y (6*(d.length / 8 - 1) - (k+q))) Y):=arr_congr (fun j _=>cnt_all _ _ j)
 replace hH:HH w0 [] [[bl g1 107 (cCi.enc (boxF,bk boxF 256,(upF (16*(l.length / 4+7)) (aeW l) fun _=>0),(l.length / 4+6)))],[bl g8 5 cu2],[bl g15 51 ((cArr 16).enc (countF Y (6*(d.length / 8 - 1) - (k+q))))]] w:=by rw [he22]; exact hH
 refine zr (zv .mv 35 ?_)
 refine zv (v:=(.int .u64 (((6*(d.length / 8 - 1) - (k+(q+1))):Nat):Int))) (fun _ _ hF=>opSubU (m:=6*(d.length / 8 - 1) - (k+q)) (j:=1) (z:=(6*(d.length / 8 - 1) - (k+(q+1)))) rfl rfl (hF.ev 0 rfl) rfl (by show 1≤18446744073709551616; omega) (by show (6*(d.length / 8 - 1) - (k+q)+(18446744073709551616 - 1))%18446744073709551616=_; omega)) 1 ?_
 refine zv .mv 1 ?_
 refine zn (zr (zv .mv 0 ?_))
 refine zs (hH.q 2 rfl) (.ld (cArr 16) (countF Y (6*(d.length / 8 - 1) - (k+q))) (fun _ hS=>(holds_blk0 hS))) 0 ?_
 refine zc Tryz.func50 (dec_r g1 l hk (countF Y (6*(d.length / 8 - 1) - (k+q)))) (hH.blk 0 rfl) hH 3 ?_
 clear hH
 intro w hH
 refine ze0 2 hH rfl (.sw (cArr 16) (countF Y (6*(d.length / 8 - 1) - (k+q))) (aeD l (countF Y (6*(d.length / 8 - 1) - (k+q))))) trivial ?_
 clear hH
 rintro _ _ w rfl hH
 refine zn ?_
 have hat:(6*(d.length / 8 - 1) - (k+q) - 1)*8%(d.length - 8)=8*((d.length / 8 - 1) - q - 1):=by rw [hkj]; exact (congrArg (fun p=>(6*(d.length / 8 - 1) - ((d.length / 8 - 1)*j+q) - 1)*8%p) (show (d.length - 8)=8*(d.length / 8 - 1) by omega)).trans (at_part_back (by omega) (by omega))
 obtain ⟨X,hX⟩:∃ X,X=aeD l (bothF (countF (unR (aeD l) (d.length - 8) (6*(d.length / 8 - 1)) (cutF d 0) (cutF d 8) (k+q)).1 (6*(d.length / 8 - 1) - (k+q))) fun j=>(unR (aeD l) (d.length - 8) (6*(d.length / 8 - 1)) (cutF d 0) (cutF d 8) (k+q)).2 (8*((d.length / 8 - 1) - q - 1)+j)):=⟨_,rfl⟩
 have he23:(cArr 16).enc X=(cArr 16).enc (aeD l (countF Y (6*(d.length / 8 - 1) - (k+q)))):=arr_congr (fun j hj=>by rw [hX]; exact (aeD_E16 l (both_cnt hol2 hoA2 hoP2 (by omega) _ Y (by rw [hY,he8])) j hj).symm)
 replace hH:HH w0 [] [[bl g1 107 (cCi.enc (boxF,bk boxF 256,(upF (16*(l.length / 4+7)) (aeW l) fun _=>0),(l.length / 4+6)))],[bl g8 5 cu2],[bl g15 51 ((cArr 16).enc X)]] w:=by rw [he23]; exact hH
 refine zx ?_
 replace hH:=hH.drew
 refine rv 0 .mv 1 ?_
 refine rv 1 (v:=(.slice (some ⟨g8,0,none⟩) 8 c4)) (fun _ _ hF=>opCutH (h:=8) (e:=5) (sz:=1) rfl (by kernel_rfl) (by kernel_rfl) (hF.ev 0 rfl) rfl rfl (by omega)) 1 ?_
 refine rv 2 (v:=(.slice (some ⟨g15,0,none⟩) 8 16)) (fun _ _ hF=>opSliceAH (m:=16) (h:=8) (e:=5) (sz:=1) rfl (by kernel_rfl) (by kernel_rfl) (hF.ev 3 rfl) rfl rfl (by omega)) 0 ?_
 obtain ⟨cur25,hcs26,hB24⟩:∃ cs,putL cu2 (0) (flat cByte ((lst 16 X).take 8))=cs∧Bk cByte c4 cs (o2.take 0++(((lst 16 X).take 8)++o2.drop (0+((lst 16 X).take 8).length))):=⟨_,rfl,hB2.copy 0 ((lst 16 X).take 8) (by rw [List.length_take,lst_len]; show 0+8≤_; omega)⟩
 refine rx1k 3 ?_
 refine re 3 1 hH rfl (fun _ hF=>smCopyT (C:=cByte) (m:=((lst 16 X).take 8)) (e:=5) rfl (by kernel_rfl) (by kernel_rfl) (ltb rfl) (hF.ev 1 rfl) (hF.ev 0 rfl) (by omega) (by rw [List.length_take,lst_len]; rfl) (room_cp hB2 (k:=0) (n:=8) (by omega)) hcs26) ((vu_arr (hH.blk 2 rfl)).head (m:=8) (by omega)) 3 (.nil _ []) ?_
 clear hH
 rintro _ _ w ⟨rfl,rfl⟩ hH
 refine ⟨pnil,rn ?_⟩
 obtain ⟨o3,ho3⟩:∃ o3,o3=(o2.take 0++(((lst 16 X).take 8)++o2.drop (0+((lst 16 X).take 8).length))):=⟨_,rfl⟩
 rw [← ho3] at hB24
 obtain ⟨hq1,hq2,hq3⟩:=put_head (by omega) ho3
 refine cxRegX mixedOrders (by kernel_rfl) ?_
 replace hH:=hH.drew
 refine rv 0 .mv 1 ?_
 refine rv 1 .mv 0 ?_
 refine rv 2 (.mul ((8*((d.length / 8 - 1) - q):Nat):Int)) 1 ?_
 refine rv 3 (v:=(.slice (some ⟨g8,0+(8*((d.length / 8 - 1) - q))*1,none⟩) (d.length - (8*((d.length / 8 - 1) - q))) (c4 - (8*((d.length / 8 - 1) - q))))) (fun _ _ hF=>opSlcL (k:=8*((d.length / 8 - 1) - q)) (e:=5) (sz:=1) rfl (by kernel_rfl) (by kernel_rfl) (hF.ev 1 rfl) (hF.ev 0 rfl) rfl (by omega) (by omega)) 3 ?_
 refine rv 4 (v:=(.slice (some ⟨g15,0+8*1,none⟩) (16 - 8) (16 - 8))) (fun _ _ hF=>opSliceAL (m:=16) (l:=8) (e:=5) (sz:=1) rfl (by kernel_rfl) (by kernel_rfl) (hF.ev 3 rfl) rfl rfl (by omega)) 8 ?_
 obtain ⟨cur28,hcs29,hB27⟩:∃ cs,putL cur25 (0+(8*((d.length / 8 - 1) - q))*1) (flat cByte ((lst 16 X).drop 8))=cs∧Bk cByte c4 cs (o3.take (8*((d.length / 8 - 1) - q))++(((lst 16 X).drop 8)++o3.drop (8*((d.length / 8 - 1) - q)+((lst 16 X).drop 8).length))):=⟨_,rfl,hB24.copy (8*((d.length / 8 - 1) - q)) ((lst 16 X).drop 8) (by rw [List.length_drop,lst_len]; omega)⟩
 refine rx1k 5 ?_
 refine re 5 1 hH rfl (fun _ hF=>smCopyT (C:=cByte) (m:=((lst 16 X).drop 8)) (e:=5) rfl (by kernel_rfl) (by kernel_rfl) (ltb rfl) (hF.ev 1 rfl) (hF.ev 0 rfl) (by omega) (by rw [List.length_drop,lst_len]) (room_cp hB24 (k:=8*((d.length / 8 - 1) - q)) (n:=16 - 8) (by omega)) hcs29) (cutA_some (sz:=1) (b:=g15) (off:=0) (c:=16) (k:=8) (by omega) ▸ ((vu_arr (hH.blk 2 rfl)).from (k:=8) (by omega))) 3 (.nil _ []) ?_
 clear hH
 rintro _ _ w ⟨rfl,rfl⟩ hH
 refine ⟨pnil,rxEnd (by kernel_rfl) ?_⟩
 refine qxInN (qxThen (cxReg (zv .mv 9 ?_)))
 refine zv (.sub ((((d.length / 8 - 1) - (q+1)):Nat):Int)) 1 ?_
 refine zv .mv 1 ?_
 refine pxEnd ?_
 replace hH:HH w0 [] [[bl g1 107 (cCi.enc (boxF,bk boxF 256,(upF (16*(l.length / 4+7)) (aeW l) fun _=>0),(l.length / 4+6)))],[bl g8 5 cur28]] w:=hH.only [true,true,false]
 have hsu:unR (aeD l) (d.length - 8) (6*(d.length / 8 - 1)) (cutF d 0) (cutF d 8) (k+q+1)=(X,cpy (8*((d.length / 8 - 1) - q - 1)) 8 (unR (aeD l) (d.length - 8) (6*(d.length / 8 - 1)) (cutF d 0) (cutF d 8) (k+q)).2 fun j=>X (8+j)):=by rw [unR_succ,hX]; unfold unB; rw [hat]
 exact zR3 (q+1) (o3.take (8*((d.length / 8 - 1) - q))++(((lst 16 X).drop 8)++o3.drop (8*((d.length / 8 - 1) - q)+((lst 16 X).drop 8).length))) cur28 ⟨hH,(by omega),(by rw [put_len (by omega)]; omega),(fun j hj=>by rw [put_keeps (by omega) hj (by omega),hq2 j hj,← Nat.add_assoc,hsu]),(fun j hj=>by rw [← Nat.add_assoc,hsu,he8]; exact put_behind (by omega) (by omega) (fun j hj=>(hq3 j).trans (hoP2 j hj)) (fun j hj=>rfl) j hj),hB27⟩ (by omega)
 refine cxExit (qxThenE (qxThenE (qxInE (qxInN (qxThen ?_)))))
 obtain rfl:q=(d.length / 8 - 1):=by omega
 refine cxReg (zv (.add ((j+1:Nat):Int)) 7 ?_)
 refine zv .mv 1 ?_
 refine pxEnd ?_
 exact zR4 (j+1) (k+(d.length / 8 - 1)) o2 cu2 ⟨hH,(by omega),(by rw [hkj]; exact (Nat.mul_succ _ _).symm),hol2,hoA2,hoP2,hB2⟩ (by omega)
 refine cxExit (qxThenE (qxThenE (qxInE (qxThen (cxSeq ?_)))))
 obtain rfl:j=6:=by omega
 obtain rfl:k=6*(d.length / 8 - 1):=by rw [hkj,Nat.mul_comm]
 have hN:unS l d=unR (aeD l) (d.length - 8) (6*(d.length / 8 - 1)) (cutF d 0) (cutF d 8) (6*(d.length / 8 - 1)):=by unfold unS; rw [show 6*((d.length - 8) / 8)=6*(d.length / 8 - 1) by omega]
 rw [← hN] at hoA hoP
 refine zr (zv .mv 47 ?_)
 refine zn (cxBlock ?_)
 refine zL1 (fun (i:Nat)=>[(100,(.int .i64 (((i):Nat):Int))),(8,(.slice (some ⟨g8,0,none⟩) d.length c4))]) (fun i w=>HH w0 [] [[bl g1 107 (cCi.enc (boxF,bk boxF 256,(upF (16*(l.length / 4+7)) (aeW l) fun _=>0),(l.length / 4+6)))],[bl g8 5 cu]] w∧(i≤8)∧(∀ j,j<i→o[j]?=some 166)) (fun i=>8 - i) 0 ⟨hH,(Nat.zero_le _),(fun j hj=>absurd hj (Nat.not_lt_zero _))⟩ ?_
 clear hH
 rintro i w ⟨hH,hi,h166⟩
 refine zr (zv (.lt (i<8)) 0 ?_)
 refine zn (cxSeq ?_)
 refine zP (fun hc30 => ?_) (fun hc30 => ?_)
 refine cxSkip (qxThen (cxSeq (cxBlock (zr (zv .mv 1 ?_)))))
 refine zv .mv 1 ?_
 refine zn (zr (zv .mv 0 ?_))
 refine zv .mv 2 ?_
 have hi31:i<d.length:=by omega
 have hj34:i<o.length:=by first | exact hi31 | (simp only [List.length_drop]; omega) | (simp only [List.length_drop,List.length_take]; omega) | omega
 obtain ⟨x32,hx33⟩:=get_at o i hj34
 have hb35:=UInt8.toNat_lt x32
 refine zv (.ix 1 i (hi:=hi31)) 3 ?_
 refine zs (hH.q 1 rfl) (.ld cByte x32 (fun _ hS=>((hB.holdsL hS) i _ hx33))) 1 ?_
 refine zv (.ne (x32.toNat≠166)) 1 ?_
 refine zn ?_
 refine zP (fun hc36 => ?_) (fun hc36 => ?_)
 refine zr (zv .mv 7 ?_)
 refine zv .mv 0 ?_
 refine zn (cxRet (qxInR ?_))
 refine qxThenR ?_
 refine qxThenR ?_
 refine qxInR ?_
 refine qxThenR ?_
 refine qxRet2 1 0 rfl rfl rfl ?_
 have hn:=head_ne hoA (by omega) hx33 hc36
 have he:unE l d=5:=if_neg hn
 exact ⟨_,_,rfl,⟨fun h=>absurd h (by rw [he]; decide),fun _=>⟨rfl,rfl⟩⟩,HH.out (HH.pad hH 1) [false,false,true]⟩
 refine cxSkip (qxInN (qxThen (cxReg (zv (.add ((i+1:Nat):Int)) 3 ?_))))
 refine zv .mv 1 ?_
 refine pxEnd ?_
 exact zR1 (i+1) ⟨hH,(by omega),(known_next h166 (hx33.trans (congrArg some (byte_eq (n:=166) (Decidable.not_not.1 hc36)))))⟩ (by omega)
 refine cxExit (qxThenE (qxThenE (qxInE (qxThen (zr (zv .mv 7 ?_))))))
 refine zv (v:=(.slice (some ⟨g8,0+8*1,none⟩) (d.length - 8) (c4 - 8))) (fun _ _ hF=>opSlcL (k:=8) (e:=5) (sz:=1) rfl (by kernel_rfl) (by kernel_rfl) (hF.ev 0 rfl) rfl rfl (by omega) (by omega)) 1 ?_
 refine zv .mv 1 ?_
 refine zv .mv 0 ?_
 refine zn (cxRet (qxRet2 1 0 rfl rfl rfl ?_))
 have hz:lst 8 (unS l d).1=lst 8 ini8:=lst_congr fun j hj=>by have h1:=(hoA j hj).symm.trans (h166 j (by omega)); exact Option.some.inj h1
 have he:unE l d=0:=if_pos hz
 have hl:unL l d=lst (d.length - 8) (unS l d).2:=if_pos hz
 exact ⟨_,_,rfl,⟨fun _=>⟨g8,_,_,o,rfl,rfl,hB,by omega,by rw [hl]; exact drop8 hol hoP⟩,fun h=>absurd he h⟩,hH.out1 [false,true] rfl⟩
end Go.Proofs.YtajppfmjbkebfaaGreatDoor
