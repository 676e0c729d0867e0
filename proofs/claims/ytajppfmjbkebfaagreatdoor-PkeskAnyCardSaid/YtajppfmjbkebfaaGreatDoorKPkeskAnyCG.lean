/- What the claim leans on, part 7: plain theorems, and walks of functions of the program and of the document. -/
import Derived.Test.YtajppfmjbkebfaaGreatDoorKPkeskAnyCF
import Derived.Test.YtajppfmjbkebfaaGreatDoorKPkeskAnyCD
import Derived.Test.YtajppfmjbkebfaaGreatDoorKPkeskAnyCC
import Derived.Test.YtajppfmjbkebfaaGreatDoorKPkeskAnyCA
import Derived.OpenShut
import Derived.Deep.Slices
import Derived.SizedLaws
import Derived.WideShapes
import Derived.ChangeArms
set_option maxHeartbeats 8000000
namespace Go.Proofs.YtajppfmjbkebfaaGreatDoor
open Go Go.RowKit
set_option maxRecDepth 100000
theorem rshared_x (s u:Bt):Pure Tryz.prog 20 #[(cArr 32).val s,(cArr 32).val u] (fun _=>True) (.tuple #[(cArr 32).val (xMulB s u),.int .i64 ((shE (xMulB s u):Nat):Int)]):=by
 have:=rshared_p s u
 rwa [← xMulB_is] at this
theorem rpub_x (s:Bt):Pure Tryz.prog 21 #[(cArr 32).val s] (fun _=>True) ((cArr 32).val (xPub s)):=by
 have:=rpub_p s
 rwa [← xPub_is] at this
theorem rwrapn_c (A:Option Addr) (n z:Nat) (l:List UInt8) (hn:l.length=n) (hk:l.length=16 ∨ l.length=32) (B:Option Addr) (m y:Nat) (d:List UInt8) (hm:d.length=m) (hd:16≤d.length∧d.length≤128) (h8:d.length%8=0):Does Tryz.prog 22 #[.slice A n z,.slice B m y] [] (fun w=>Vu cByte w A n z l∧Vu cByte w B m y d) (fun v E' => ∃ s,v=.tuple #[s,.int .i64 0]∧OwnT cByte 5 s (wrapL l d) E'):=by
 subst hn hm; exact rwrap_c A z l hk B y d hd h8
theorem runwrap_ok (A:Option Addr) (n z:Nat) (l:List UInt8) (hn:l.length=n) (hk:l.length=16 ∨ l.length=32) (B:Option Addr) (m y:Nat) (d:List UInt8) (hm:d.length=m) (hd:24≤d.length∧d.length≤136) (h8:d.length%8=0) (hu:unE l d=0):Does Tryz.prog 30 #[.slice A n z,.slice B m y] [] (fun w=>Vu cByte w A n z l∧Vu cByte w B m y d) (fun v E' => ∃ g cap cur o,v=.tuple #[.slice (some ⟨g,0+8*1,none⟩) (m - 8) (cap - 8),.int .i64 0]∧E'=[bl g 5 cur]∧Bk cByte cap cur o∧o.length=d.length∧o.drop 8=unL l d):=by
 subst hn hm; exact (runwrap_c A z l hk B y d hd h8).mono (fun _ h=>h) fun _ _ h=>h.1 hu
theorem runwrap_bad (A:Option Addr) (n z:Nat) (l:List UInt8) (hn:l.length=n) (hk:l.length=16 ∨ l.length=32) (B:Option Addr) (m y:Nat) (d:List UInt8) (hm:d.length=m) (hd:24≤d.length∧d.length≤136) (h8:d.length%8=0) (hu:unE l d≠0):Does Tryz.prog 30 #[.slice A n z,.slice B m y] [] (fun w=>Vu cByte w A n z l∧Vu cByte w B m y d) (fun v E'=>v=.tuple #[.slice none 0 0,.int .i64 5]∧E'=[]):=by
 subst hn hm; exact (runwrap_c A z l hk B y d hd h8).mono (fun _ h=>h) fun _ _ h=>h.2 hu
section
variable {l:List UInt8}
theorem seg_of {k n:Nat} (h:k+n≤l.length):(l.take (k+n)).drop k=lst n (cutF l k):=by
 refine lst_of_known (fun j hj => ?_) (by rw [List.length_drop,List.length_take]; omega)
 rw [List.getElem?_drop,List.getElem?_take,if_pos (by omega)]
 exact cut_at8 (by omega)
theorem cut_seg {k n m j:Nat} (hm:m=k+n) (hj:j<n):cutF ((l.take m).drop k) 0 j=cutF l k j:=by
 unfold cutF
 rw [Nat.zero_add,List.getD_eq_getElem?_getD,List.getElem?_drop,List.getElem?_take,if_pos (by omega),List.getD_eq_getElem?_getD]
theorem cut_drop {k:Nat}:cutF (l.drop k) 0=cutF l k:=by
 funext j
 unfold cutF
 rw [Nat.zero_add,List.getD_eq_getElem?_getD,List.getElem?_drop,List.getD_eq_getElem?_getD]
theorem take_drop_seg {k n:Nat} (h:k+n≤l.length):l.drop k=lst n (cutF l k)++l.drop (k+n):=by
 rw [← seg_of h,← List.drop_drop,List.drop_take,Nat.add_sub_cancel_left,List.take_append_drop]
theorem drop_one {k:Nat} {x:UInt8} (h:l[k]?=some x):l.drop k=[x]++l.drop (k+1):=by
 obtain ⟨hk,rfl⟩:=List.getElem?_eq_some_iff.1 h
 exact List.drop_eq_getElem_cons hk
theorem isB_of {x y:UInt8} (hl:l.length=109) (h3:l.take 3=[6,33,6]) (hx:l[35]?=some x) (h25:x.toNat=25) (hy:l[68]?=some y) (h40:y.toNat=40):isB l:=by
 obtain rfl:x=25:=byte_eq h25
 obtain rfl:y=40:=byte_eq h40
 refine ⟨hl,?_⟩
 unfold bodyL
 have e:l=l.take 3++l.drop 3:=(List.take_append_drop 3 l).symm
 rw [h3,take_drop_seg (k:=3) (n:=32) (by omega),drop_one hx,take_drop_seg (k:=35+1) (n:=32) (by omega),drop_one (k:=35+1+32) hy] at e
 exact e
theorem isB_parts (hb:isB l):l.take 3=[6,33,6]∧l[35]?=some 25∧l[68]?=some 40:=by
 obtain ⟨hl,hb⟩:=hb
 unfold bodyL at hb
 refine ⟨?_,?_,?_⟩
 ·rw [hb]; rfl
 ·rw [hb,List.getElem?_append_right (by decide),List.getElem?_append_right (by rw [lst_len]; decide),lst_len]; rfl
 ·rw [hb,List.getElem?_append_right (by decide),List.getElem?_append_right (by rw [lst_len]; decide),lst_len,List.getElem?_append_right (by decide),List.getElem?_append_right (by rw [lst_len]; decide),lst_len]; rfl
end
theorem rseal_c (S:Bt) (ct:Ct) (d:Bt):Does Tryz.prog 9 #[((cArr 32).val S),(cCe.val ct),((cArr 32).val d)] [] (fun _=>True) (fun v E' => ∃ s,v=.tuple #[s,.int .i64 ((skE d ct:Nat):Int)]∧OwnT cByte 5 s (skL S ct d) E'):=by
 refine does_of (fn:=Tryz.f9) Tryz.func9 rfl Tryz.ntmps9 (Nat.le_of_ble_eq_true rfl) rfl ?_
 intro w0 hH hR
 replace hH:HH w0 [] [] w0:=hH.only [false]
 refine zr (zm hH (.bx (cArr 32) S) trivial 1 ?_)
 clear hH
 rintro _ _ w ⟨g1,rfl,rfl⟩ hH
 refine zm hH (.bx cCe ct) trivial 2 ?_
 clear hH
 rintro _ _ w ⟨g2,rfl,rfl⟩ hH
 refine zm hH (.bx (cArr 32) d) trivial 4 ?_
 clear hH
 rintro _ _ w ⟨g3,rfl,rfl⟩ hH
 refine zv .mv 0 ?_
 refine zv .mv 1 ?_
 refine zn (zr (zs (hH.q 2 rfl) (.ld (cArr 32) d (fun _ hS=>(holds_blk0 hS))) 1 ?_))
 refine zv (.fld 33) 0 ?_
 refine zs (hH.q 1 rfl) (.ld (cArr 32) ct.2.2.1 (fun _ hS=>(((holds_blk0 hS).snd).snd).fst)) 1 ?_
 refine zc Tryz.func20 (rshared_x d ct.2.2.1) trivial hH 3 ?_
 clear hH
 intro w hH
 refine zv .mv 1 ?_
 refine zv .ext 0 ?_
 refine zv .ext 2 ?_
 refine zm hH (.al (cArr 32) (fun _=>0)) trivial 0 ?_
 clear hH
 rintro _ _ w ⟨g4,rfl,rfl⟩ hH
 refine ze0 3 hH rfl (.sw (cArr 32) (fun _=>0) (xMulB d ct.2.2.1)) trivial ?_
 clear hH
 rintro _ _ w rfl hH
 refine zv .mv 6 ?_
 refine zn (cxSeq (zr (zv .mv 0 ?_)))
 refine zv (.ne (shE (xMulB d ct.2.2.1)≠0)) 1 ?_
 refine zn ?_
 refine zP (fun hc5 => ?_) (fun hc5 => ?_)
 refine zr (zv .mv 63 ?_)
 refine zv .mv 0 ?_
 refine zv .mv 2 ?_
 refine zn (cxRet (qxThenR ?_))
 refine qxRet2 1 0 rfl rfl rfl ?_
 have hl:skL S ct d=[]:=if_neg hc5
 exact ⟨_,_,rfl,⟨_,rfl,hl ▸ OwnT.nil _ _⟩,HH.out (HH.pad hH 1) [false,false,false,false,true]⟩
 refine cxSkip (qxThen (zr (zs (hH.q 2 rfl) (.ld (cArr 32) d (fun _ hS=>(holds_blk0 hS))) 11 ?_)))
 refine zc Tryz.func21 (rpub_x d) trivial hH 1 ?_
 clear hH
 intro w hH
 refine zm hH (.al (cArr 32) (fun _=>0)) trivial 0 ?_
 clear hH
 rintro _ _ w ⟨g6,rfl,rfl⟩ hH
 refine ze0 4 hH rfl (.sw (cArr 32) (fun _=>0) (xPub d)) trivial ?_
 clear hH
 rintro _ _ w rfl hH
 refine zn (zx ?_)
 replace hH:=hH.drew
 refine rld 0 (hH.q 4 rfl) (.ld (cArr 32) (xPub d) (fun _ hS=>(holds_blk0 hS))) 2 ?_
 refine rv 1 (.fld 33) 0 ?_
 refine rld 2 (hH.q 1 rfl) (.ld (cArr 32) ct.2.2.1 (fun _ hS=>(((holds_blk0 hS).snd).snd).fst)) 1 ?_
 refine rld 3 (hH.q 3 rfl) (.ld (cArr 32) (xMulB d ct.2.2.1) (fun _ hS=>(holds_blk0 hS))) 8 ?_
 refine rv 5 (v:=(.slice (some ⟨g1,0,none⟩) 32 32)) (fun _ _ hF=>opSliceA (n:=32) (e:=5) (sz:=1) rfl (by kernel_rfl) (by kernel_rfl) (hF.ev 5 rfl)) 32 ?_
 refine rx1k 4 ?_
 refine rm 4 hH (.call Tryz.func23 ((rkek_c (xPub d) ct.2.2.1 (xMulB d ct.2.2.1)))) trivial 14 (pgo [] (pgo [] (pgo [] (.nil _ [])))) ?_
 clear hH
 rintro v11 E7 w hO8 hH
 obtain ⟨A9,c10,rfl⟩:=hO8.slice
 refine ⟨pnil,rx1k 6 ?_⟩
 refine rm 6 hH (.call Tryz.func22 ((rwrapn_c A9 ((kekL (xPub d) ct.2.2.1 (xMulB d ct.2.2.1)).length) c10 (kekL (xPub d) ct.2.2.1 (xMulB d ct.2.2.1)) rfl (.inl (kekL_len _ _ _)) (some ⟨g1,0,none⟩) 32 32 (lst 32 S) (lst_len _ _) (by rw [lst_len]; decide) (by rw [lst_len])))) (⟨(hO8.vuAt (hH.has 5 rfl)),(vu_arr (hH.blk 0 rfl))⟩) 3 (.nil _ []) ?_
 clear hH
 rintro _ E13 w ⟨s17,rfl,hO14⟩ hH
 obtain ⟨A15,c16,rfl⟩:=hO14.slice
 refine ⟨pnil,rv 7 .mv 1 ?_⟩
 refine rv 8 .ext 0 ?_
 refine rv 9 .ext 2 ?_
 refine rv 10 .mv 2 ?_
 refine rv 11 .mv 2 ?_
 refine rn ?_
 refine zx ?_
 replace hH:=hH.drew
 have hi20:1<2:=by omega
 refine rxPg 3 [mkv 0 35 [] [] (fun G g=>(.slice (some ⟨g,0,none⟩) 3 3)) fun G g=>[bl g 5 (flat cByte [6,33,6]).toArray],pv 1 36 [] [] fun G=>(.pointer (some ⟨g2,65,none⟩)),pv 2 37 [1] [] fun G=>(.pointer (some ⟨g2,65+1*32,none⟩)),pv 3 38 [2] [] fun G=>(.slice (some ⟨g2,65+1*32,none⟩) 32 32),mkv 4 39 [] [] (fun G g=>(.slice (some ⟨g,0,none⟩) 1 1)) fun G g=>[bl g 5 (cByte.enc 25)],pv 5 40 [] [] fun G=>(.slice (some ⟨g6,0,none⟩) 32 32),mkv 6 41 [] [] (fun G g=>(.slice (some ⟨g,0,none⟩) 1 1)) fun G g=>[bl g 5 (cByte.enc 40)],pv 7 42 [] [] fun G=>(.slice A15 ((wrapL (kekL (xPub d) ct.2.2.1 (xMulB d ct.2.2.1)) (lst 32 S)).length) c16),mkv 8 43 [0,3,4,5,6,7] [0,4,6] (fun G g=>(.slice (some ⟨g,0,none⟩) 6 6)) fun G g=>[bl g 27 (flat cSl [((some ⟨(G 0).g,0,none⟩),3,3),((some ⟨g2,65+1*32,none⟩),32,32),((some ⟨(G 4).g,0,none⟩),1,1),((some ⟨g6,0,none⟩),32,32),((some ⟨(G 6).g,0,none⟩),1,1),(A15,(wrapL (kekL (xPub d) ct.2.2.1 (xMulB d ct.2.2.1)) (lst 32 S)).length,c16)]).toArray]] (fun G=>[(43,(.slice (some ⟨(G 8).g,0,none⟩) 6 6))]) (fun G=>[[bl g1 22 ((cArr 32).enc S)],[bl g2 36 (cCe.enc ct)],[bl g3 22 ((cArr 32).enc d)],[bl g4 22 ((cArr 32).enc (xMulB d ct.2.2.1))],[bl g6 22 ((cArr 32).enc (xPub d))],E7,E13,[bl (G 0).g 5 (flat cByte [6,33,6]).toArray],[bl (G 4).g 5 (cByte.enc 25)],[bl (G 6).g 5 (cByte.enc 40)],[bl (G 8).g 27 (flat cSl [((some ⟨(G 0).g,0,none⟩),3,3),((some ⟨g2,65+1*32,none⟩),32,32),((some ⟨(G 4).g,0,none⟩),1,1),((some ⟨g6,0,none⟩),32,32),((some ⟨(G 6).g,0,none⟩),1,1),(A15,(wrapL (kekL (xPub d) ct.2.2.1 (xMulB d ct.2.2.1)) (lst 32 S)).length,c16)]).toArray]]) hH (.c (.a (fun _ _ _ _=>trivial) (fun G=>(fun _ hF=>smLits (C:=cByte) (e:=5) (z:=(.int .u8 0)) (by_:=1) [6,33,6] rfl (by kernel_rfl) (by kernel_rfl) (EvP.cons (v:=cByte.val 6) rfl (EvP.cons (v:=cByte.val 33) rfl (EvP.cons (v:=cByte.val 6) rfl EvP.nil))) rfl (ltb rfl) (leb rfl) rfl)) fun _ _ _ h=>h) <| .c (.v fun G=>(.fld 65)) <| .c (.v fun G=>(.ia 32 2 1 (hi:=hi20))) <| .c (.v fun G=>(fun _ _ hF=>opSliceA (n:=32) (e:=5) (sz:=1) rfl (by kernel_rfl) (by kernel_rfl) (hF.ev 0 rfl))) <| .c (.a (fun _ _ _ _=>trivial) (fun G=>(fun _ hF=>smLit1 (e:=5) (sz:=1) (z:=(.int .u8 0)) (by_:=1) (cs:=cByte.enc 25) rfl (by kernel_rfl) (by kernel_rfl) rfl (cByte.len 25) (ltb rfl) (leb rfl) rfl)) fun _ _ _ h=>h) <| .c (.v fun G=>(fun _ _ hF=>opSliceA (n:=32) (e:=5) (sz:=1) rfl (by kernel_rfl) (by kernel_rfl) (hF.ev 2 rfl))) <| .c (.a (fun _ _ _ _=>trivial) (fun G=>(fun _ hF=>smLit1 (e:=5) (sz:=1) (z:=(.int .u8 0)) (by_:=1) (cs:=cByte.enc 40) rfl (by kernel_rfl) (by kernel_rfl) rfl (cByte.len 40) (ltb rfl) (leb rfl) rfl)) fun _ _ _ h=>h) <| .c (.v fun G=>.mv) <| .c (.a (fun _ _ _ _=>trivial) (fun G=>(fun _ hF=>smLits (C:=cSl) (e:=27) (z:=(.slice none 0 0)) (by_:=24) [((some ⟨(G 0).g,0,none⟩),3,3),((some ⟨g2,65+1*32,none⟩),32,32),((some ⟨(G 4).g,0,none⟩),1,1),((some ⟨g6,0,none⟩),32,32),((some ⟨(G 6).g,0,none⟩),1,1),(A15,(wrapL (kekL (xPub d) ct.2.2.1 (xMulB d ct.2.2.1)) (lst 32 S)).length,c16)] rfl (by kernel_rfl) (by kernel_rfl) (EvP.cons (v:=cSl.val ((some ⟨(G 0).g,0,none⟩),3,3)) (hF.ev 0 rfl) (EvP.cons (v:=cSl.val ((some ⟨g2,65+1*32,none⟩),32,32)) (hF.ev 1 rfl) (EvP.cons (v:=cSl.val ((some ⟨(G 4).g,0,none⟩),1,1)) (hF.ev 2 rfl) (EvP.cons (v:=cSl.val ((some ⟨g6,0,none⟩),32,32)) (hF.ev 3 rfl) (EvP.cons (v:=cSl.val ((some ⟨(G 6).g,0,none⟩),1,1)) (hF.ev 4 rfl) (EvP.cons (v:=cSl.val (A15,(wrapL (kekL (xPub d) ct.2.2.1 (xMulB d ct.2.2.1)) (lst 32 S)).length,c16)) (hF.ev 5 rfl) EvP.nil)))))) rfl (ltb rfl) (leb rfl) rfl)) fun _ _ _ h=>h) <| .nil) ?_
 clear hH
 rintro G w - hH
 revert hH
 generalize (G 0).g=g19
 generalize (G 4).g=g21
 generalize (G 6).g=g22
 generalize (G 8).g=g23
 intro hH
 refine rx1k 9 ?_
 refine rm 9 hH (.call Tryz.func24 ((rjoin_c (some ⟨g23,0,none⟩) 6 6 [((some ⟨g19,0,none⟩),3,3),((some ⟨g2,65+1*32,none⟩),32,32),((some ⟨g21,0,none⟩),1,1),((some ⟨g6,0,none⟩),32,32),((some ⟨g22,0,none⟩),1,1),(A15,(wrapL (kekL (xPub d) ct.2.2.1 (xMulB d ct.2.2.1)) (lst 32 S)).length,c16)] [[6,33,6],(lst 32 (fun q9=>ct.2.2.2 (32*1+q9))),[25],(lst 32 (xPub d)),[40],(wrapL (kekL (xPub d) ct.2.2.1 (xMulB d ct.2.2.1)) (lst 32 S))] rfl (by decide) (by simp only [List.flatten_cons,List.flatten_nil,List.length_append,List.length_cons,List.length_nil,lst_len,wrapL_len]; omega)))) (⟨((Bk.lits (C:=cSl) [((some ⟨g19,0,none⟩),3,3),((some ⟨g2,65+1*32,none⟩),32,32),((some ⟨g21,0,none⟩),1,1),((some ⟨g6,0,none⟩),32,32),((some ⟨g22,0,none⟩),1,1),(A15,(wrapL (kekL (xPub d) ct.2.2.1 (xMulB d ct.2.2.1)) (lst 32 S)).length,c16)] (by show 6≤_; unfold maxLen; decide)).vu (n:=6) (hH.blk 10 rfl) rfl),(.cons ((Bk.lits (C:=cByte) [6,33,6] (by show 3≤_; unfold maxLen; decide)).vu (n:=3) (hH.blk 7 rfl) rfl) (.cons (vu_holds (Holds.row ((((holds_blk0 (hH.blk 1 rfl)).snd).snd).snd) 1 32 (by omega))) (.cons ((Bk.lit1 (C:=cByte) 25).vu (n:=1) (hH.blk 8 rfl) rfl) (.cons (vu_arr (hH.blk 4 rfl)) (.cons ((Bk.lit1 (C:=cByte) 40).vu (n:=1) (hH.blk 9 rfl) rfl) (.cons (hO14.vuAt (hH.has 6 rfl)) ViewsL.nil))))))⟩) 1 (.nil _ []) ?_
 clear hH
 rintro v28 E24 w hO25 hH
 obtain ⟨A26,c27,rfl⟩:=hO25.slice
 refine ⟨pnil,rv 10 .mv 1 ?_⟩
 refine rv 11 .mv 0 ?_
 refine rn ?_
 refine cxRet (qxRet2 1 0 rfl rfl rfl ?_)
 have he:=Decidable.not_not.1 hc5
 have hl:skL S ct d=bodyL (pr1 ct) (xPub d) (skW S d ct):=if_pos he
 exact ⟨_,_,rfl,⟨(.slice A26 (([[6,33,6],(lst 32 (fun q9=>ct.2.2.2 (32*1+q9))),[25],(lst 32 (xPub d)),[40],(wrapL (kekL (xPub d) ct.2.2.1 (xMulB d ct.2.2.1)) (lst 32 S))].flatten).length) c27),by rw [show skE d ct=0 from he]; rfl,hl.trans (bodyL_is _ _ _).symm ▸ hO25⟩,hH.out1 [false,false,false,false,false,false,false,false,false,false,false,true] rfl⟩
theorem ropen_c (A:Option Addr) (n c:Nat) (l:List UInt8) (k:Bt×Bt) (ct:Ct):Pure Tryz.prog 12 #[(.slice A n c),(cKy.val k),(cCe.val ct)] (fun w=>Vu cByte w A n c l) (.tuple #[(cArr 32).val (opR l k.2 ct).1,.int .i64 (((opR l k.2 ct).2:Nat):Int)]):=by
 refine pure_of (fn:=Tryz.f12) Tryz.func12 rfl Tryz.ntmps12 (Nat.le_of_ble_eq_true rfl) rfl ?_
 intro w0 hH hR
 have hll:=hR.len; have hcl:=hR.cap
 refine zr (zm hH (.bx cKy k) trivial 2 ?_)
 clear hH
 rintro _ _ w ⟨g1,rfl,rfl⟩ hH
 refine zm hH (.bx cCe ct) trivial 4 ?_
 clear hH
 rintro _ _ w ⟨g2,rfl,rfl⟩ hH
 refine zm hH (.al (cArr 32) (fun _=>0)) trivial 0 ?_
 clear hH
 rintro _ _ w ⟨g3,rfl,rfl⟩ hH
 refine zv .mv 0 ?_
 refine zn (cxSeq (zr (zv .mv 1 ?_)))
 refine zv .len 1 ?_
 refine zv (.ne (n≠109)) 1 ?_
 refine zv .mv 1 ?_
 refine pxSplitP 0 rfl (l1:=[(15,(.bool true)),(6,(.pointer (some ⟨g3,0,none⟩))),(5,(.pointer (some ⟨g2,0,none⟩))),(4,(.pointer (some ⟨g1,0,none⟩))),(0,(.slice A n c))]) (l2:=[(15,(.bool false)),(6,(.pointer (some ⟨g3,0,none⟩))),(5,(.pointer (some ⟨g2,0,none⟩))),(4,(.pointer (some ⟨g1,0,none⟩))),(0,(.slice A n c))]) rfl rfl (fun hg4 => ?_) (fun hg4 => ?_)
 refine pxU rfl (gOff 0 rfl rfl rfl (by decide)) (kA rfl) (by decide) ?_
 refine pxU rfl (gOff 0 rfl rfl rfl (by decide)) (kA rfl) (by decide) ?_
 refine pxU rfl (gOff 0 rfl rfl rfl (by decide)) (kA rfl) (by decide) ?_
 refine pxU rfl (gOff 0 rfl rfl rfl (by decide)) (kA rfl) (by decide) ?_
 refine zv (v:=(.bool true)) (fun _ _ hF=>opPickT rfl (hF.ev 0 rfl) rfl) 1 ?_
 refine zv .mv 1 ?_
 refine pxU rfl (gOff 0 rfl rfl rfl (by decide)) (kA rfl) (by decide) ?_
 refine pxU rfl (gOff 0 rfl rfl rfl (by decide)) (kA rfl) (by decide) ?_
 refine pxU rfl (gOff 0 rfl rfl rfl (by decide)) (kA rfl) (by decide) ?_
 refine pxU rfl (gOff 0 rfl rfl rfl (by decide)) (kA rfl) (by decide) ?_
 refine zv (v:=(.bool true)) (fun _ _ hF=>opPickT rfl (hF.ev 0 rfl) rfl) 1 ?_
 refine zv .mv 1 ?_
 refine pxU rfl (gOff 0 rfl rfl rfl (by decide)) (kA rfl) (by decide) ?_
 refine pxU rfl (gOff 0 rfl rfl rfl (by decide)) (kA rfl) (by decide) ?_
 refine pxU rfl (gOff 0 rfl rfl rfl (by decide)) (kA rfl) (by decide) ?_
 refine pxU rfl (gOff 0 rfl rfl rfl (by decide)) (kA rfl) (by decide) ?_
 refine zv (v:=(.bool true)) (fun _ _ hF=>opPickT rfl (hF.ev 0 rfl) rfl) 1 ?_
 refine zn (zT ?_)
 refine zr (zv (v:=((cArr 32).val (fun _=>0))) (fun _ _ hF=>opBuildP (cells:=(cArr 32).enc (fun _=>0)) (vals:=[]) rfl EvP.nil (by kernel_rfl) _) 29 ?_)
 refine ze0 2 hH rfl (.sw (cArr 32) (fun _=>0) (fun _=>0)) trivial ?_
 clear hH
 rintro _ _ w rfl hH
 refine zv .mv 1 ?_
 refine zn (cxRet (qxThenR ?_))
 refine qxRetCT 1 0 (hH.blk 2 rfl) rfl rfl rfl (by kernel_rfl) (Cod.size _ _) (by kernel_rfl) ?_
 have hb:¬ isB l:=fun hb=>hg4 (by rw [← hll]; exact hb.1)
 have hv:opR l k.2 ct=(fun _=>0,2):=by unfold opR; rw [if_neg hb]
 exact ⟨by rw [hv]; rfl,HH.toBelow hH⟩
 refine pxV (v:=(.slice A n c)) (fun _ _ hF=>opMove rfl (hF.ev 4 rfl)) rfl (gOn 0 rfl rfl rfl (by decide)) (kA rfl) (by decide) ?_
 refine pxV (v:=(.slice A 3 c)) (fun _ _ hF=>opCutH (h:=3) (e:=5) (sz:=1) rfl (by kernel_rfl) (by kernel_rfl) (hF.ev 0 rfl) rfl rfl (by omega)) rfl (gOn 1 rfl rfl rfl (by decide)) (kM [false,true,true,true,true,true] rfl rfl) (by decide) ?_
 refine pxS (v:=(.string (strL (l.take 3)))) (fun w=>Vu cByte w A 3 c (l.take 3)) ((hH.vu hR (by decide) (Off.nil _ _)).head (m:=3) (by omega)) (fun _ _ hF hS=>opStr (e:=5) rfl (by kernel_rfl) (by kernel_rfl) (by kernel_rfl) (hF.ev 0 rfl) hS) rfl (gOn 1 rfl rfl rfl (by decide)) (kM [false,true,true,true,true,true] rfl rfl) (by decide) ?_
 refine pxV (v:=(.bool (decide ((l.take 3)≠[6,33,6])))) (fun _ _ hF=>opNeL (l:=(l.take 3)) (m:=[6,33,6]) rfl (hF.ev 0 rfl) rfl Iff.rfl) rfl (gOn 1 rfl rfl rfl (by decide)) (kM [false,true,true,true,true,true] rfl rfl) (by decide) ?_
 refine zv (v:=(.bool (decide ((l.take 3)≠[6,33,6])))) (fun _ _ hF=>opPickF rfl (hF.ev 1 rfl) (hF.ev 0 rfl)) 3 ?_
 refine zv .mv 1 ?_
 refine pxSplitP 0 rfl (l1:=[(21,(.bool true)),(6,(.pointer (some ⟨g3,0,none⟩))),(5,(.pointer (some ⟨g2,0,none⟩))),(4,(.pointer (some ⟨g1,0,none⟩))),(0,(.slice A n c))]) (l2:=[(21,(.bool false)),(6,(.pointer (some ⟨g3,0,none⟩))),(5,(.pointer (some ⟨g2,0,none⟩))),(4,(.pointer (some ⟨g1,0,none⟩))),(0,(.slice A n c))]) rfl rfl (fun hg5 => ?_) (fun hg5 => ?_)
 refine pxU rfl (gOff 0 rfl rfl rfl (by decide)) (kA rfl) (by decide) ?_
 refine pxU rfl (gOff 0 rfl rfl rfl (by decide)) (kA rfl) (by decide) ?_
 refine pxU rfl (gOff 0 rfl rfl rfl (by decide)) (kA rfl) (by decide) ?_
 refine pxU rfl (gOff 0 rfl rfl rfl (by decide)) (kA rfl) (by decide) ?_
 refine zv (v:=(.bool true)) (fun _ _ hF=>opPickT rfl (hF.ev 0 rfl) rfl) 1 ?_
 refine zv .mv 1 ?_
 refine pxU rfl (gOff 0 rfl rfl rfl (by decide)) (kA rfl) (by decide) ?_
 refine pxU rfl (gOff 0 rfl rfl rfl (by decide)) (kA rfl) (by decide) ?_
 refine pxU rfl (gOff 0 rfl rfl rfl (by decide)) (kA rfl) (by decide) ?_
 refine pxU rfl (gOff 0 rfl rfl rfl (by decide)) (kA rfl) (by decide) ?_
 refine zv (v:=(.bool true)) (fun _ _ hF=>opPickT rfl (hF.ev 0 rfl) rfl) 1 ?_
 refine zn (zT ?_)
 refine zr (zv (v:=((cArr 32).val (fun _=>0))) (fun _ _ hF=>opBuildP (cells:=(cArr 32).enc (fun _=>0)) (vals:=[]) rfl EvP.nil (by kernel_rfl) _) 29 ?_)
 refine ze0 2 hH rfl (.sw (cArr 32) (fun _=>0) (fun _=>0)) trivial ?_
 clear hH
 rintro _ _ w rfl hH
 refine zv .mv 1 ?_
 refine zn (cxRet (qxThenR ?_))
 refine qxRetCT 1 0 (hH.blk 2 rfl) rfl rfl rfl (by kernel_rfl) (Cod.size _ _) (by kernel_rfl) ?_
 have hb:¬ isB l:=fun hb=>hg5 (isB_parts hb).1
 have hv:opR l k.2 ct=(fun _=>0,2):=by unfold opR; rw [if_neg hb]
 exact ⟨by rw [hv]; rfl,HH.toBelow hH⟩
 refine pxV (v:=(.slice A n c)) (fun _ _ hF=>opMove rfl (hF.ev 4 rfl)) rfl (gOn 0 rfl rfl rfl (by decide)) (kA rfl) (by decide) ?_
 have hi6:35<n:=by omega
 obtain ⟨b7,off8,rfl,hL9,hb10,hR11⟩:=hR.blk (by decide) (Off.nil _ _) (by omega)
 have:=hR.cap
 have hj14:35<l.length:=by first | exact hi6 | (simp only [List.length_drop]; omega) | (simp only [List.length_drop,List.length_take]; omega) | omega
 obtain ⟨x12,hx13⟩:=get_at l 35 hj14
 have hb15:=UInt8.toNat_lt x12
 refine pxV (v:=(.pointer (some ⟨b7,off8+35*1,none⟩))) (fun _ _ hF=>opIndex (i:=35) (e:=5) (sz:=1) rfl (by kernel_rfl) (by kernel_rfl) (hF.ev 0 rfl) rfl rfl hi6) rfl (gOn 1 rfl rfl rfl (by decide)) (kM [false,true,true,true,true,true] rfl rfl) (by decide) ?_
 refine pxS (v:=(.int .u8 (((x12.toNat):Nat):Int))) (fun w=>HoldsL cByte w b7 off8 l) (hH.holdsL hL9 hb10 hR11) (fun _ _ hF hS=>opLoadT (C:=cByte) (y:=x12) rfl (hF.ev 0 rfl) (by kernel_rfl) (hS 35 _ hx13) rfl) rfl (gOn 1 rfl rfl rfl (by decide)) (kM [false,true,true,true,true,true] rfl rfl) (by decide) ?_
 refine pxV (v:=(.bool (decide (x12.toNat≠25)))) (fun _ _ hF=>opNeI rfl (hF.ev 0 rfl) rfl (dc (by omega))) rfl (gOn 1 rfl rfl rfl (by decide)) (kM [false,true,true,true,true,true] rfl rfl) (by decide) ?_
 refine zv (v:=(.bool (decide (x12.toNat≠25)))) (fun _ _ hF=>opPickF rfl (hF.ev 1 rfl) (hF.ev 0 rfl)) 3 ?_
 refine zv .mv 1 ?_
 refine pxSplitP 0 rfl (l1:=[(27,(.bool true)),(6,(.pointer (some ⟨g3,0,none⟩))),(5,(.pointer (some ⟨g2,0,none⟩))),(4,(.pointer (some ⟨g1,0,none⟩))),(0,(.slice (some ⟨b7,off8,none⟩) n c))]) (l2:=[(27,(.bool false)),(6,(.pointer (some ⟨g3,0,none⟩))),(5,(.pointer (some ⟨g2,0,none⟩))),(4,(.pointer (some ⟨g1,0,none⟩))),(0,(.slice (some ⟨b7,off8,none⟩) n c))]) rfl rfl (fun hg16 => ?_) (fun hg16 => ?_)
 refine pxU rfl (gOff 0 rfl rfl rfl (by decide)) (kA rfl) (by decide) ?_
 refine pxU rfl (gOff 0 rfl rfl rfl (by decide)) (kA rfl) (by decide) ?_
 refine pxU rfl (gOff 0 rfl rfl rfl (by decide)) (kA rfl) (by decide) ?_
 refine pxU rfl (gOff 0 rfl rfl rfl (by decide)) (kA rfl) (by decide) ?_
 refine zv (v:=(.bool true)) (fun _ _ hF=>opPickT rfl (hF.ev 0 rfl) rfl) 1 ?_
 refine zn (zT ?_)
 refine zr (zv (v:=((cArr 32).val (fun _=>0))) (fun _ _ hF=>opBuildP (cells:=(cArr 32).enc (fun _=>0)) (vals:=[]) rfl EvP.nil (by kernel_rfl) _) 29 ?_)
 refine ze0 2 hH rfl (.sw (cArr 32) (fun _=>0) (fun _=>0)) trivial ?_
 clear hH
 rintro _ _ w rfl hH
 refine zv .mv 1 ?_
 refine zn (cxRet (qxThenR ?_))
 refine qxRetCT 1 0 (hH.blk 2 rfl) rfl rfl rfl (by kernel_rfl) (Cod.size _ _) (by kernel_rfl) ?_
 have hb:¬ isB l:=fun hb=>hg16 (by have:=(isB_parts hb).2.1; rw [hx13] at this; rw [Option.some.inj this]; rfl)
 have hv:opR l k.2 ct=(fun _=>0,2):=by unfold opR; rw [if_neg hb]
 exact ⟨by rw [hv]; rfl,HH.toBelow hH⟩
 refine pxV (v:=(.slice (some ⟨b7,off8,none⟩) n c)) (fun _ _ hF=>opMove rfl (hF.ev 4 rfl)) rfl (gOn 0 rfl rfl rfl (by decide)) (kA rfl) (by decide) ?_
 have hi17:68<n:=by omega
 have hj20:68<l.length:=by first | exact hi17 | (simp only [List.length_drop]; omega) | (simp only [List.length_drop,List.length_take]; omega) | omega
 obtain ⟨x18,hx19⟩:=get_at l 68 hj20
 have hb21:=UInt8.toNat_lt x18
 refine pxV (v:=(.pointer (some ⟨b7,off8+68*1,none⟩))) (fun _ _ hF=>opIndex (i:=68) (e:=5) (sz:=1) rfl (by kernel_rfl) (by kernel_rfl) (hF.ev 0 rfl) rfl rfl hi17) rfl (gOn 1 rfl rfl rfl (by decide)) (kM [false,true,true,true,true,true] rfl rfl) (by decide) ?_
 refine pxS (v:=(.int .u8 (((x18.toNat):Nat):Int))) (fun w=>HoldsL cByte w b7 off8 l) (hH.holdsL hL9 hb10 hR11) (fun _ _ hF hS=>opLoadT (C:=cByte) (y:=x18) rfl (hF.ev 0 rfl) (by kernel_rfl) (hS 68 _ hx19) rfl) rfl (gOn 1 rfl rfl rfl (by decide)) (kM [false,true,true,true,true,true] rfl rfl) (by decide) ?_
 refine pxV (v:=(.bool (decide (x18.toNat≠40)))) (fun _ _ hF=>opNeI rfl (hF.ev 0 rfl) rfl (dc (by omega))) rfl (gOn 1 rfl rfl rfl (by decide)) (kM [false,true,true,true,true,true] rfl rfl) (by decide) ?_
 refine zv (v:=(.bool (decide (x18.toNat≠40)))) (fun _ _ hF=>opPickF rfl (hF.ev 1 rfl) (hF.ev 0 rfl)) 3 ?_
 refine zn ?_
 refine zP (fun hc22 => ?_) (fun hc22 => ?_)
 refine zr (zv (v:=((cArr 32).val (fun _=>0))) (fun _ _ hF=>opBuildP (cells:=(cArr 32).enc (fun _=>0)) (vals:=[]) rfl EvP.nil (by kernel_rfl) _) 29 ?_)
 refine ze0 2 hH rfl (.sw (cArr 32) (fun _=>0) (fun _=>0)) trivial ?_
 clear hH
 rintro _ _ w rfl hH
 refine zv .mv 1 ?_
 refine zn (cxRet (qxThenR ?_))
 refine qxRetCT 1 0 (hH.blk 2 rfl) rfl rfl rfl (by kernel_rfl) (Cod.size _ _) (by kernel_rfl) ?_
 have hb:¬ isB l:=fun hb=>hc22 (by have:=(isB_parts hb).2.2; rw [hx19] at this; rw [Option.some.inj this]; rfl)
 have hv:opR l k.2 ct=(fun _=>0,2):=by unfold opR; rw [if_neg hb]
 exact ⟨by rw [hv]; rfl,HH.toBelow hH⟩
 refine cxSkip (qxThen (cxSeq (zx ?_)))
 replace hH:=hH.drew
 refine rv 0 .mv 1 ?_
 refine rv 1 (v:=(.slice (cutA (some ⟨b7,off8,none⟩) c 3 1) (35 - 3) (c - 3))) (fun _ _ hF=>opCutLH (k:=3) (h:=35) (e:=5) (sz:=1) rfl (by kernel_rfl) (by kernel_rfl) (hF.ev 0 rfl) rfl rfl rfl rfl (by omega) (by omega)) 1 ?_
 refine rld 2 (S:=fun w=>Vu cByte w (cutA (some ⟨b7,off8,none⟩) c 3 1) (35 - 3) (c - 3) ((l.take 35).drop 3)) ((hH.vu hR (by decide) (Off.nil _ _)).cut (k:=3) (m:=35) (by omega) (by omega)) (v:=(.string (strL ((l.take 35).drop 3)))) (fun _ _ hF hS=>opStr (e:=5) rfl (by kernel_rfl) (by kernel_rfl) (by kernel_rfl) (hF.ev 0 rfl) hS) 1 ?_
 refine rv 3 (.fld 65) 4 ?_
 have hi23:1<2:=by omega
 refine rv 4 (.ia 32 2 1 (hi:=hi23)) 1 ?_
 refine rv 5 (v:=(.slice (some ⟨g2,65+1*32,none⟩) 32 32)) (fun _ _ hF=>opSliceA (n:=32) (e:=5) (sz:=1) rfl (by kernel_rfl) (by kernel_rfl) (hF.ev 0 rfl)) 1 ?_
 refine rld 6 (S:=fun w=>Vu cByte w (some ⟨g2,65+1*32,none⟩) 32 32 (lst 32 (fun q9=>ct.2.2.2 (32*1+q9)))) (vu_holds (Holds.row ((((holds_blk0 (hH.blk 1 rfl)).snd).snd).snd) 1 32 (by omega))) (v:=(.string (strL (lst 32 (fun q9=>ct.2.2.2 (32*1+q9)))))) (fun _ _ hF hS=>opStr (e:=5) rfl (by kernel_rfl) (by kernel_rfl) (by kernel_rfl) (hF.ev 0 rfl) hS) 1 ?_
 refine rv 7 (v:=(.bool (decide (¬ lst 32 (cutF l 3)=lst 32 (pr1 ct))))) (fun _ _ hF=>opNeL (l:=((l.take 35).drop 3)) (m:=(lst 32 (fun q9=>ct.2.2.2 (32*1+q9)))) rfl (hF.ev 1 rfl) (hF.ev 0 rfl) (by rw [show (l.take 35).drop 3=lst 32 (cutF l 3) from seg_of (k:=3) (n:=32) (by omega)]; exact Iff.rfl)) 3 ?_
 refine rn ?_
 refine zP (fun hc24 => ?_) (fun hc24 => ?_)
 refine zr (zv (v:=((cArr 32).val (fun _=>0))) (fun _ _ hF=>opBuildP (cells:=(cArr 32).enc (fun _=>0)) (vals:=[]) rfl EvP.nil (by kernel_rfl) _) 13 ?_)
 refine ze0 2 hH rfl (.sw (cArr 32) (fun _=>0) (fun _=>0)) trivial ?_
 clear hH
 rintro _ _ w rfl hH
 refine zv .mv 1 ?_
 refine zn (cxRet (qxThenR ?_))
 refine qxRetCT 1 0 (hH.blk 2 rfl) rfl rfl rfl (by kernel_rfl) (Cod.size _ _) (by kernel_rfl) ?_
 have hb:isB l:=isB_of (by omega) (Decidable.not_not.1 hg5) hx13 (Decidable.not_not.1 hg16) hx19 (Decidable.not_not.1 hc22)
 have hv:opR l k.2 ct=(fun _=>0,3):=by unfold opR; rw [if_pos hb,if_neg hc24]
 exact ⟨by rw [hv]; rfl,HH.toBelow hH⟩
 refine cxSkip (qxThen (zr (zv .mv 1 ?_)))
 refine zv (v:=(.slice (some ⟨b7,off8+36*1,none⟩) (68 - 36) (c - 36))) (fun _ _ hF=>opSlcLH (k:=36) (h:=68) (e:=5) (sz:=1) rfl (by kernel_rfl) (by kernel_rfl) (hF.ev 0 rfl) rfl rfl rfl rfl (by omega) (by omega) (by omega)) 1 ?_
 refine zv (v:=(.pointer (some ⟨b7,off8+36*1,none⟩))) (fun _ _ hF=>opToArray (m:=32) (e:=5) rfl (by kernel_rfl) (hF.ev 0 rfl) (by omega)) 1 ?_
 refine zs (S:=fun w=>HoldsL cByte w b7 off8 l) (hH.holdsL hL9 hb10 hR11) (.ld (cArr 32) (cutF ((l.take 68).drop 36) 0) (fun _ hS=>((hS.cut 36 68).arr 0 32 (by first | omega | (rw [lst_len]; omega) | (simp only [List.length_drop,List.length_take]; omega) | (simp only [List.length_drop,List.length_take,lst_len]; omega))))) 1 ?_
 refine zm hH (.al (cArr 32) (fun _=>0)) trivial 0 ?_
 clear hH
 rintro _ _ w ⟨g25,rfl,rfl⟩ hH
 refine ze0 3 hH rfl (.sw (cArr 32) (fun _=>0) (cutF ((l.take 68).drop 36) 0)) trivial ?_
 clear hH
 rintro _ _ w rfl hH
 refine zn ?_
 have he26:(cArr 32).enc (cutF l 36)=(cArr 32).enc (cutF ((l.take 68).drop 36) 0):=arr_congr (fun j hj=>(cut_seg (n:=32) (by omega) hj).symm)
 replace hH:HH w0 [] [[bl g1 24 (cKy.enc k)],[bl g2 36 (cCe.enc ct)],[bl g3 22 ((cArr 32).enc (fun _=>0))],[bl g25 22 ((cArr 32).enc (cutF l 36))]] w:=by rw [he26]; exact hH
 refine zr (zv (.fld 32) 2 ?_)
 refine zs (hH.q 0 rfl) (.ld (cArr 32) k.2 (fun _ hS=>(holds_blk0 hS).snd)) 1 ?_
 refine zs (hH.q 3 rfl) (.ld (cArr 32) (cutF l 36) (fun _ hS=>(holds_blk0 hS))) 0 ?_
 refine zc Tryz.func20 (rshared_x k.2 (cutF l 36)) trivial hH 3 ?_
 clear hH
 intro w hH
 refine zv .mv 1 ?_
 refine zv .ext 0 ?_
 refine zv .ext 2 ?_
 refine zm hH (.al (cArr 32) (fun _=>0)) trivial 0 ?_
 clear hH
 rintro _ _ w ⟨g27,rfl,rfl⟩ hH
 refine ze0 4 hH rfl (.sw (cArr 32) (fun _=>0) (xMulB k.2 (cutF l 36))) trivial ?_
 clear hH
 rintro _ _ w rfl hH
 refine zv .mv 6 ?_
 refine zn (cxSeq (zr (zv .mv 0 ?_)))
 refine zv (.ne (shE (xMulB k.2 (cutF l 36))≠0)) 1 ?_
 refine zn ?_
 refine zP (fun hc28 => ?_) (fun hc28 => ?_)
 refine zr (zv (v:=((cArr 32).val (fun _=>0))) (fun _ _ hF=>opBuildP (cells:=(cArr 32).enc (fun _=>0)) (vals:=[]) rfl EvP.nil (by kernel_rfl) _) 109 ?_)
 refine zv .mv 2 ?_
 refine ze0 2 hH rfl (.sw (cArr 32) (fun _=>0) (fun _=>0)) trivial ?_
 clear hH
 rintro _ _ w rfl hH
 refine zv .mv 3 ?_
 refine zn (cxRet (qxThenR ?_))
 refine qxRetCT 1 0 (hH.blk 2 rfl) rfl rfl rfl (by kernel_rfl) (Cod.size _ _) (by kernel_rfl) ?_
 have hb:isB l:=isB_of (by omega) (Decidable.not_not.1 hg5) hx13 (Decidable.not_not.1 hg16) hx19 (Decidable.not_not.1 hc22)
 have hv:opR l k.2 ct=(fun _=>0,2):=by unfold opR; rw [if_pos hb,if_pos (Decidable.not_not.1 hc24),if_neg hc28]
 rw [shE_2 hc28]
 exact ⟨by rw [hv]; rfl,HH.toBelow hH⟩
 refine cxSkip (qxThen ?_)
 have hdl:(l.drop 69).length=n - 69:=by rw [List.length_drop]; omega
 rcases Decidable.em (unE (kekL (cutF l 36) (xPub k.2) (xMulB k.2 (cutF l 36))) (l.drop 69)=0) with hu | hu
 refine zx ?_
 replace hH:=hH.drew
 refine rld 0 (hH.q 3 rfl) (.ld (cArr 32) (cutF l 36) (fun _ hS=>(holds_blk0 hS))) 9 ?_
 refine rv 1 (.fld 32) 16 ?_
 refine rld 2 (hH.q 0 rfl) (.ld (cArr 32) k.2 (fun _ hS=>(holds_blk0 hS).snd)) 1 ?_
 refine rld 4 (hH.q 4 rfl) (.ld (cArr 32) (xMulB k.2 (cutF l 36)) (fun _ hS=>(holds_blk0 hS))) 8 ?_
 refine rv 6 .mv 32 ?_
 refine rv 7 (v:=(.slice (some ⟨b7,off8+69*1,none⟩) (n - 69) (c - 69))) (fun _ _ hF=>opSlcL (k:=69) (e:=5) (sz:=1) rfl (by kernel_rfl) (by kernel_rfl) (hF.ev 0 rfl) rfl rfl (by omega) (by omega)) 1 ?_
 refine rx1k 3 (rpc 3 Tryz.func21 (rpub_x k.2) trivial hH 4 (.keep (pgo [] (.keep (.nil _ [])))) ?_)
 clear hH
 intro w hH
 refine ⟨pcons (hH.blk 4 rfl) (pcons (hH.blk 3 rfl) pnil),?_⟩
 refine rx1k 5 ?_
 refine rm 5 hH (.call Tryz.func23 ((rkek_c (cutF l 36) (xPub k.2) (xMulB k.2 (cutF l 36))))) trivial 13 (pgo [] (pgo [] (.nil _ []))) ?_
 clear hH
 rintro v33 E29 w hO30 hH
 obtain ⟨A31,c32,rfl⟩:=hO30.slice
 refine ⟨pnil,rx1k 8 ?_⟩
 refine rm 8 hH (.call Tryz.func30 (runwrap_ok A31 ((kekL (cutF l 36) (xPub k.2) (xMulB k.2 (cutF l 36))).length) c32 (kekL (cutF l 36) (xPub k.2) (xMulB k.2 (cutF l 36))) rfl (.inl (kekL_len _ _ _)) (some ⟨b7,off8+69*1,none⟩) (n - 69) (c - 69) (l.drop 69) hdl (by omega) (by omega) hu)) (⟨(hO30.vuAt (hH.has 5 rfl)),(cutA_some (sz:=1) (b:=b7) (off:=off8) (c:=c) (k:=69) (by omega) ▸ ((hH.vu hR (by decide) (Off.nil _ _)).from (k:=69) (by omega)))⟩) 3 (.nil _ []) ?_
 clear hH
 rintro _ _ w ⟨g35,cap36,cur37,o38,rfl,rfl,hB39,hol,hod⟩ hH
 refine ⟨pnil,rv 9 .mv 1 ?_⟩
 refine rv 10 .ext 0 ?_
 refine rv 11 .ext 2 ?_
 refine rv 12 .mv 2 ?_
 refine rv 13 .mv 6 ?_
 refine rn ?_
 refine cxSeq (zr (zv .mv 0 ?_))
 refine zv (v:=(.bool false)) (fun _ _ hF=>opNeI rfl (hF.ev 0 rfl) rfl (by decide)) 1 ?_
 refine zn (zF ?_)
 refine cxSkip (qxThen (zr (zv .mv 7 ?_)))
 refine zv (v:=(.pointer (some ⟨g35,0+8*1,none⟩))) (fun _ _ hF=>opToArray (m:=32) (e:=5) rfl (by kernel_rfl) (hF.ev 0 rfl) (by omega)) 1 ?_
 refine zs (hH.q 6 rfl) (.ld (cArr 32) (cutF o38 8) (fun _ hS=>((hB39.holdsL hS).arr 8 32 (by first | omega | (rw [lst_len]; omega) | (simp only [List.length_drop,List.length_take]; omega) | (simp only [List.length_drop,List.length_take,lst_len]; omega))))) 1 ?_
 refine ze0 2 hH rfl (.sw (cArr 32) (fun _=>0) (cutF o38 8)) trivial ?_
 clear hH
 rintro _ _ w rfl hH
 refine zv .mv 1 ?_
 refine zn (cxRet (qxRetCT 1 0 (hH.blk 2 rfl) rfl rfl rfl (by kernel_rfl) (Cod.size _ _) (by kernel_rfl) ?_))
 have hb:isB l:=isB_of (by omega) (Decidable.not_not.1 hg5) hx13 (Decidable.not_not.1 hg16) hx19 (Decidable.not_not.1 hc22)
 have hv:opR l k.2 ct=(cutF o38 8,0):=by unfold opR; rw [if_pos hb,if_pos (Decidable.not_not.1 hc24),if_pos (Decidable.not_not.1 hc28),if_pos hu,← hod,cut_drop]
 exact ⟨by rw [hv]; rfl,HH.toBelow hH⟩
 refine zx ?_
 replace hH:=hH.drew
 refine rld 0 (hH.q 3 rfl) (.ld (cArr 32) (cutF l 36) (fun _ hS=>(holds_blk0 hS))) 9 ?_
 refine rv 1 (.fld 32) 16 ?_
 refine rld 2 (hH.q 0 rfl) (.ld (cArr 32) k.2 (fun _ hS=>(holds_blk0 hS).snd)) 1 ?_
 refine rld 4 (hH.q 4 rfl) (.ld (cArr 32) (xMulB k.2 (cutF l 36)) (fun _ hS=>(holds_blk0 hS))) 8 ?_
 refine rv 6 .mv 32 ?_
 refine rv 7 (v:=(.slice (some ⟨b7,off8+69*1,none⟩) (n - 69) (c - 69))) (fun _ _ hF=>opSlcL (k:=69) (e:=5) (sz:=1) rfl (by kernel_rfl) (by kernel_rfl) (hF.ev 0 rfl) rfl rfl (by omega) (by omega)) 1 ?_
 refine rx1k 3 (rpc 3 Tryz.func21 (rpub_x k.2) trivial hH 4 (.keep (pgo [] (.keep (.nil _ [])))) ?_)
 clear hH
 intro w hH
 refine ⟨pcons (hH.blk 4 rfl) (pcons (hH.blk 3 rfl) pnil),?_⟩
 refine rx1k 5 ?_
 refine rm 5 hH (.call Tryz.func23 ((rkek_c (cutF l 36) (xPub k.2) (xMulB k.2 (cutF l 36))))) trivial 13 (pgo [] (pgo [] (.nil _ []))) ?_
 clear hH
 rintro v44 E40 w hO41 hH
 obtain ⟨A42,c43,rfl⟩:=hO41.slice
 refine ⟨pnil,rx1k 8 ?_⟩
 refine rm 8 hH (.call Tryz.func30 (runwrap_bad A42 ((kekL (cutF l 36) (xPub k.2) (xMulB k.2 (cutF l 36))).length) c43 (kekL (cutF l 36) (xPub k.2) (xMulB k.2 (cutF l 36))) rfl (.inl (kekL_len _ _ _)) (some ⟨b7,off8+69*1,none⟩) (n - 69) (c - 69) (l.drop 69) hdl (by omega) (by omega) hu)) (⟨(hO41.vuAt (hH.has 5 rfl)),(cutA_some (sz:=1) (b:=b7) (off:=off8) (c:=c) (k:=69) (by omega) ▸ ((hH.vu hR (by decide) (Off.nil _ _)).from (k:=69) (by omega)))⟩) 3 (.nil _ []) ?_
 clear hH
 rintro _ _ w ⟨rfl,rfl⟩ hH
 refine ⟨pnil,rv 9 .mv 1 ?_⟩
 refine rv 10 .ext 0 ?_
 refine rv 11 .ext 2 ?_
 refine rv 12 .mv 2 ?_
 refine rv 13 .mv 6 ?_
 refine rn ?_
 refine cxSeq (zr (zv .mv 0 ?_))
 refine zv (v:=(.bool true)) (fun _ _ hF=>opNeI rfl (hF.ev 0 rfl) rfl (by decide)) 1 ?_
 refine zn (zT ?_)
 refine zr (zv (v:=((cArr 32).val (fun _=>0))) (fun _ _ hF=>opBuildP (cells:=(cArr 32).enc (fun _=>0)) (vals:=[]) rfl EvP.nil (by kernel_rfl) _) 5 ?_)
 refine zv .mv 2 ?_
 refine ze0 2 hH rfl (.sw (cArr 32) (fun _=>0) (fun _=>0)) trivial ?_
 clear hH
 rintro _ _ w rfl hH
 refine zv .mv 3 ?_
 refine zn (cxRet (qxThenR ?_))
 refine qxRetCT 1 0 (hH.blk 2 rfl) rfl rfl rfl (by kernel_rfl) (Cod.size _ _) (by kernel_rfl) ?_
 have hb:isB l:=isB_of (by omega) (Decidable.not_not.1 hg5) hx13 (Decidable.not_not.1 hg16) hx19 (Decidable.not_not.1 hc22)
 have hv:opR l k.2 ct=(fun _=>0,5):=by unfold opR; rw [if_pos hb,if_pos (Decidable.not_not.1 hc24),if_pos (Decidable.not_not.1 hc28),if_neg hu]
 exact ⟨by rw [hv]; rfl,HH.toBelow hH⟩
end Go.Proofs.YtajppfmjbkebfaaGreatDoor

namespace Go.Proofs.YtajppfmjbkebfaaGreatDoor
open Go Go.RowKit
theorem each_byte {Q:UInt8→Prop} (h:∀ n:Fin 256,Q (UInt8.ofNat n.val)) (x:UInt8):Q x:=by
 have:=h ⟨x.toNat,x.toNat_lt⟩
 rwa [UInt8.ofNat_toNat] at this
theorem bit_of (b:Nat→UInt8) (j:Nat) (hj:j<256):(b (j / 8)).toNat / 2^(j%8)%2=lv b 32 / 2^j%2:=by
 have h:=byteN_lv b 32 (j / 8) (by omega)
 rw [← h,byteN_nat]
 have e:(2:Nat)^j=256^(j / 8)*2^(j%8):=by
  rw [show (256:Nat)=2^8 from rfl,← Nat.pow_mul,← Nat.pow_add]
  congr 1; omega
 rw [e,← Nat.div_div_eq_div_mul]
 generalize lv b 32 / 256^(j / 8)=v
 have hr:j%8<8:=Nat.mod_lt _ (by decide)
 generalize j%8=r at *
 have e2:(256:Nat)=2^r*(2*2^(7 - r)):=by
  rw [show (256:Nat)=2^8 from rfl,← Nat.pow_succ',← Nat.pow_add]
  congr 1; omega
 rw [e2,Nat.mod_mul_right_div_self,Nat.mod_mul_right_mod]
theorem bitB_lv (b:Nat→UInt8) (j:Nat) (hj:j<256):(bitB b j).toNat=lv b 32 / 2^j%2:=by
 rw [← bit_of b j hj]
 unfold bitB
 rw [UInt8.toNat_and,show (1:UInt8).toNat=1 from rfl,Nat.and_one_is_mod,sr8_nat]
theorem to_aF:toF 121665=aF:=by decide +kernel
theorem tP_dD (a:Nat×Nat):tP (dD a.1 a.2)=ladD aF (tP a).1 (tP a).2:=by
 unfold tP dD ladD
 simp only [toF_tm,toF_nA,toF_nS,to_aF]
theorem tP_dA (x:Nat) (a b:Nat×Nat):tP (dA x a.1 a.2 b.1 b.2)=ladA (toF x) (tP a).1 (tP a).2 (tP b).1 (tP b).2:=by
 unfold tP dA ladA
 simp only [toF_tm,toF_nA,toF_nS]
theorem dLad_is (n:Nat→UInt8) (x:Nat):∀ i,i≤255→(tP (dLad n x i).1,tP (dLad n x i).2)=ladTo aF (toF x) 255 (lv n 32) i
 | 0,_=>by
  show (tP (1,0),tP (x,1))=((1,0),(toF x,1))
  unfold tP
  rw [to_one,to_zero]
 | i+1,hi=>by
  have ih:=dLad_is n x i (by omega)
  have hb:=bitB_lv n (254 - i) (by omega)
  show (tP (dStep x (bitB n (254 - i)) (dLad n x i)).1,tP (dStep x (bitB n (254 - i)) (dLad n x i)).2)=ladStep aF (toF x) (lv n 32 / 2^(255 - (i+1))%2 == 1) (ladTo aF (toF x) 255 (lv n 32) i)
  rw [← ih,show 255 - (i+1)=254 - i by omega,← hb]
  generalize bitB n (254 - i)=t
  generalize dLad n x i=S
  unfold dStep ladStep
  by_cases h:t.toNat=1
  ·rw [if_pos h,if_pos (by simpa using h)]
   exact Prod.ext (tP_dA x S.2 S.1) (tP_dD S.2)
  ·rw [if_neg h,if_neg (by simpa using h)]
   exact Prod.ext (tP_dD S.1) (tP_dA x S.1 S.2)
def kX (s:Nat→UInt8):Nat:=lv (dNm s) 32
def mX (u:Nat→UInt8):Fin pF:=nF (dPt u)
theorem dMul_x (s u:Nat→UInt8):dMul s u=bF (xmul (kX s) (mX u)):=by
 have h:=dLad_is (dNm s) (lv (dPt u) 32) 255 (Nat.le_refl _)
 unfold dMul xmul ladOut kX mX nF
 generalize dLad (dNm s) (lv (dPt u) 32) 255=D at h ⊢
 generalize ladTo aF (toF (lv (dPt u) 32)) 255 (lv (dNm s) 32) 255=E at h ⊢
 subst h
 rw [← bF_toF,toF_tm,toF_riv]
 rfl
theorem lv_mod_8 (b:Nat→UInt8):∀ m,lv b (m+1)%8=(b 0).toNat%8
 | 0=>by show (lv b 0+(b 0).toNat*256^0)%8=_; simp [lv]
 | m+1=>by
  show (lv b (m+1)+(b (m+1)).toNat*256^(m+1))%8=_
  have h:(b (m+1)).toNat*256^(m+1)=8*((b (m+1)).toNat*256^m*32):=by rw [Nat.pow_succ]; generalize 256^m=x; generalize (b (m+1)).toNat=y; rw [← Nat.mul_assoc,Nat.mul_comm 8,Nat.mul_assoc _ 32 8]
  rw [h,Nat.add_mul_mod_self_left,lv_mod_8 b m]
theorem dNm_0 (s:Nat→UInt8):(dNm s 0).toNat%8=0:=by
 show (s 0 &&& 248).toNat%8=0
 exact each_byte (Q:=fun x=>(x &&& 248).toNat%8=0) (by decide +kernel) (s 0)
theorem dNm_31 (s:Nat→UInt8):64≤(dNm s 31).toNat∧(dNm s 31).toNat<128:=by
 show 64≤((s 31 &&& 127) ||| 64).toNat∧((s 31 &&& 127) ||| 64).toNat<128
 exact each_byte (Q:=fun x=>64≤((x &&& 127) ||| 64).toNat∧((x &&& 127) ||| 64).toNat<128) (by decide +kernel) (s 31)
theorem kX_facts (s:Nat→UInt8):∃ k,kX s=8*k∧0<k∧8*k<2^255:=by
 have h8:kX s%8=0:=by unfold kX; rw [lv_mod_8]; exact dNm_0 s
 have e:kX s=lv (dNm s) 31+(dNm s 31).toNat*256^31:=rfl
 have hl:=lv_lt (dNm s) 31
 have ht:=dNm_31 s
 have hp:(256:Nat)^31=2^248:=by decide
 rw [hp] at e hl
 have h2:(2:Nat)^255=128*2^248:=by decide
 have hpos:0<(2:Nat)^248:=Nat.pow_pos (by decide)
 refine ⟨kX s / 8,by omega,?_,?_⟩
 ·have h3:64*2^248≤(dNm s 31).toNat*2^248:=Nat.mul_le_mul_right _ ht.1
  have h4:(8:Nat)≤64*2^248:=by decide
  omega
 ·have h3:((dNm s 31).toNat+1)*2^248≤128*2^248:=Nat.mul_le_mul_right _ (by omega)
  rw [Nat.add_mul,Nat.one_mul] at h3
  omega
theorem nine_both (s t:Nat→UInt8):xmul (kX s) (xmul (kX t) nineF)≠0:=by
 obtain ⟨k,h1,h2,h3⟩:=kX_facts s
 obtain ⟨l,h4,h5,h6⟩:=kX_facts t
 rw [h1,h4]
 exact nine_never _ _ (by omega) (by omega) (secrets_never k l h3 h6 h2 h5)
theorem mX_bF (x:Fin pF):mX (bF x)=x:=by
 unfold mX
 have h:∀ i,i<32→dPt (bF x) i=bF x i:=fun i hi=>by
  unfold dPt stF
  split
  ·rename_i e; subst e
   have hx:=x.isLt
   have hb:(bF x 31).toNat<128:=by
    show (byteN x.val 31).toNat<128
    rw [byteN_nat]
    have:x.val / 256^31<128:=by
     refine (Nat.div_lt_iff_lt_mul (Nat.pow_pos (by decide))).2 (Nat.lt_trans hx (by decide))
    omega
   exact each_byte (Q:=fun x=>x.toNat<128→x &&& 127=x) (by decide +kernel) (bF x 31) hb
  ·rfl
 rw [nF_congr h,nF_bF]
theorem mX_nine:mX nineE=nineF:=by decide +kernel
theorem xPub_x (s:Nat→UInt8):xPub s=bF (xmul (kX s) nineF):=by rw [xPub_is,dMul_x,mX_nine]
theorem shE_pub (s t:Nat→UInt8):shE (xMulB s (xPub t))=0:=by
 rw [xMulB_is,dMul_x,xPub_x,mX_bF]
 have h:=nine_both s t
 generalize xmul (kX s) (xmul (kX t) nineF)=x at h
 unfold shE
 rw [if_neg fun h0=>h ?_]
 have h1:nF (bF x)=nF (fun _=>0):=nF_congr fun i hi=>by
  have:=congrArg (fun l=>l[i]?) h0
  simp only [lst_get hi] at this
  exact Option.some.inj this
 rw [nF_bF,nF_zero] at h1
 exact h1
end Go.Proofs.YtajppfmjbkebfaaGreatDoor

namespace Go.Proofs.YtajppfmjbkebfaaGreatDoor
open Go Go.RowKit
set_option maxRecDepth 100000
theorem skE_pub (d s:Bt) (ct:Ct) (h:ct.2.2.1=xPub s):skE d ct=0:=by unfold skE; rw [h]; exact shE_pub d s
theorem skL_len (S:Bt) (ct:Ct) (d:Bt) (h:skE d ct=0):(skL S ct d).length=109:=by
 unfold skL
 rw [if_pos h,bodyL_len,skW_len]
def dr1:Bt:=fun i=>if i=0 then 1 else 0
theorem aw15_c  : Pure Tryz.prog 6 #[] (fun w=>w.heap[4]?=some (.cells ((cQs 80).enc K64) 159 (0,0))∧w.heap[1]?=some (.cells ((cQs 8).enc H64) 141 (0,0))∧w.heap[3]?=some (.cells ((cWs 64).enc K32) 119 (0,0))∧w.heap[2]?=some (.cells ((cWs 8).enc H32) 118 (0,0))∧w.heap[0]?=some (.cells ((cArr 256).enc boxF) 103 (0,0))) (.bool true):=by
 refine pure_of (fn:=Tryz.f6) Tryz.func6 rfl Tryz.ntmps6 (Nat.le_of_ble_eq_true rfl) rfl ?_
 intro w0 hH hR
 refine zr (zv .mv 0 ?_)
 refine zn (zr (zv (v:=((cArr 32).val (fun _=>0))) (fun _ _ hF=>opBuildP (cells:=(cArr 32).enc (fun _=>0)) (vals:=[]) rfl EvP.nil (by kernel_rfl) _) 1 ?_))
 refine zv (v:=(cKy.val (fun _=>0,fun _=>0))) (fun _ _ hF=>opBuildP (cells:=cKy.enc (fun _=>0,fun _=>0)) (vals:=[]) rfl EvP.nil (by kernel_rfl) _) 0 ?_
 refine zc Tryz.func8 (certO_c (fun _=>0,fun _=>0) 0) (⟨(hH.oldBlk hR.1 (by simp)),(hH.oldBlk hR.2.1 (by simp)),(hH.oldBlk hR.2.2.1 (by simp)),(hH.oldBlk hR.2.2.2.1 (by simp))⟩) hH 1 ?_
 clear hH
 intro w hH
 refine zv (v:=((cArr 32).val dr1)) (fun _ _ hF=>opBuildP (cells:=(cArr 32).enc dr1) (vals:=[(0,(.int .u8 1))]) rfl (EvP.cons (v:=(.int .u8 1)) rfl EvP.nil) (by kernel_rfl) _) 0 ?_
 refine zm hH (.call Tryz.func7 (seal_c (fun _=>0) (certD sha 0 (edPub (fun _=>0)) (xPub (fun _=>0))) dr1)) (⟨(hH.oldBlk hR.2.2.1 (by simp)),(hH.oldBlk hR.2.2.2.1 (by simp)),(hH.oldBlk hR.2.2.2.2 (by simp))⟩) 7 ?_
 clear hH
 rintro _ E1 w ⟨s5,rfl,hO2⟩ hH
 obtain ⟨A3,c4,rfl⟩:=hO2.slice
 refine zv .mv 1 ?_
 refine zv .ext 0 ?_
 refine zv .ext 2 ?_
 refine zv .mv 2 ?_
 refine zv .mv 2 ?_
 refine zn ?_
 have hsk:skE dr1 (certD sha 0 (edPub (fun _=>0)) (xPub (fun _=>0)))=0:=skE_pub _ _ _ rfl
 have hsl:=skL_len (fun _=>0) (certD sha 0 (edPub (fun _=>0)) (xPub (fun _=>0))) dr1 hsk
 refine zr (zv .mv 1 ?_)
 refine zv (v:=(.bool true)) (fun _ _ hF=>opEqI rfl (hF.ev 0 rfl) rfl (decide_eq_true (by rw [hsk]; rfl))) 1 ?_
 refine zv .mv 1 ?_
 refine pxV (v:=(.slice A3 ((skL (fun _=>0) (certD sha 0 (edPub (fun _=>0)) (xPub (fun _=>0))) dr1).length) c4)) (fun _ _ hF=>opMove rfl (hF.ev 1 rfl)) rfl (gOn 0 rfl rfl rfl (by decide)) (kM [true,false] rfl rfl) (by decide) ?_
 refine pxV (v:=(.int .i64 ((((skL (fun _=>0) (certD sha 0 (edPub (fun _=>0)) (xPub (fun _=>0))) dr1).length):Nat):Int))) (fun _ _ hF=>opLen (e:=5) rfl (by kernel_rfl) (hF.ev 0 rfl)) rfl (gOn 1 rfl rfl rfl (by decide)) (kM [false,true] rfl rfl) (by decide) ?_
 refine pxV (v:=(.bool true)) (fun _ _ hF=>opEqI rfl (hF.ev 0 rfl) rfl (decide_eq_true (by rw [hsl]; rfl))) rfl (gOn 1 rfl rfl rfl (by decide)) (kM [false,true] rfl rfl) (by decide) ?_
 refine zv (v:=(.bool true)) (fun _ _ hF=>opPickT rfl (hF.ev 1 rfl) (hF.ev 0 rfl)) 3 ?_
 refine zv .mv 1 ?_
 refine zn (cxRet (qxRet1 0 rfl rfl ?_))
 exact ⟨rfl,HH.toBelow hH⟩
theorem any15_c (S:Bt) (ct:Ct) (d:Bt) (A:Option Addr) (n c:Nat) (l:List UInt8) (k:Bt×Bt):Pure Tryz.prog 4 #[((cArr 32).val S),(cCe.val ct),((cArr 32).val d),(.slice A n c),(cKy.val k)] (fun w=>w.heap[4]?=some (.cells ((cQs 80).enc K64) 159 (0,0))∧w.heap[1]?=some (.cells ((cQs 8).enc H64) 141 (0,0))∧w.heap[3]?=some (.cells ((cWs 64).enc K32) 119 (0,0))∧w.heap[2]?=some (.cells ((cWs 8).enc H32) 118 (0,0))∧w.heap[0]?=some (.cells ((cArr 256).enc boxF) 103 (0,0))∧Vu cByte w A n c l) (.bool true):=by
 refine pure_of (fn:=Tryz.f4) Tryz.func4 rfl Tryz.ntmps4 (Nat.le_of_ble_eq_true rfl) rfl ?_
 intro w0 hH hR
 refine zr (zm hH (.bx (cArr 32) S) trivial 1 ?_)
 clear hH
 rintro _ _ w ⟨g1,rfl,rfl⟩ hH
 refine zm hH (.bx cCe ct) trivial 2 ?_
 clear hH
 rintro _ _ w ⟨g2,rfl,rfl⟩ hH
 refine zm hH (.bx (cArr 32) d) trivial 4 ?_
 clear hH
 rintro _ _ w ⟨g3,rfl,rfl⟩ hH
 refine zm hH (.bx cKy k) trivial 16 ?_
 clear hH
 rintro _ _ w ⟨g4,rfl,rfl⟩ hH
 refine zv .mv 0 ?_
 refine zn (cxSeq (zr (zm hH (.call Tryz.func6 (aw15_c.does)) (⟨(hH.oldBlk hR.1 (by simp)),(hH.oldBlk hR.2.1 (by simp)),(hH.oldBlk hR.2.2.1 (by simp)),(hH.oldBlk hR.2.2.2.1 (by simp)),(hH.oldBlk hR.2.2.2.2.1 (by simp))⟩) 1 ?_)))
 clear hH
 rintro _ _ w ⟨rfl,rfl⟩ hH
 replace hH:HH w0 [] [[bl g1 22 ((cArr 32).enc S)],[bl g2 36 (cCe.enc ct)],[bl g3 22 ((cArr 32).enc d)],[bl g4 24 (cKy.enc k)]] w:=hH.unpad
 refine zv (v:=(.bool false)) (fun _ _ hF=>opNot rfl (hF.ev 0 rfl) rfl) 1 ?_
 refine zv .mv 1 ?_
 refine pxV (v:=(.slice A n c)) (fun _ _ hF=>opMove rfl (hF.ev 5 rfl)) rfl (gOn 0 rfl rfl rfl (by decide)) (kA rfl) (by decide) ?_
 refine pxV (v:=(.int .i64 (((n):Nat):Int))) (fun _ _ hF=>opLen (e:=5) rfl (by kernel_rfl) (hF.ev 0 rfl)) rfl (gOn 1 rfl rfl rfl (by decide)) (kM [false,true,true,true,true,true,true] rfl rfl) (by decide) ?_
 refine pxV (v:=(.bool (decide (n > 1000)))) (fun _ _ hF=>opGtr rfl (hF.ev 0 rfl) rfl (dc (by omega))) rfl (gOn 1 rfl rfl rfl (by decide)) (kM [false,true,true,true,true,true,true] rfl rfl) (by decide) ?_
 refine zv (v:=(.bool (decide (n > 1000)))) (fun _ _ hF=>opPickF rfl (hF.ev 1 rfl) (hF.ev 0 rfl)) 3 ?_
 refine zn ?_
 refine zP (fun hc5 => ?_) (fun hc5 => ?_)
 refine zr (zm hH (.call Tryz.func6 (aw15_c.does)) (⟨(hH.oldBlk hR.1 (by simp)),(hH.oldBlk hR.2.1 (by simp)),(hH.oldBlk hR.2.2.1 (by simp)),(hH.oldBlk hR.2.2.2.1 (by simp)),(hH.oldBlk hR.2.2.2.2.1 (by simp))⟩) 63 ?_)
 clear hH
 rintro _ _ w ⟨rfl,rfl⟩ hH
 replace hH:HH w0 [] [[bl g1 22 ((cArr 32).enc S)],[bl g2 36 (cCe.enc ct)],[bl g3 22 ((cArr 32).enc d)],[bl g4 24 (cKy.enc k)]] w:=hH.unpad
 refine zv .mv 1 ?_
 refine zn (cxRet (qxThenR ?_))
 refine qxRet1 0 rfl rfl ?_
 exact ⟨rfl,HH.toBelow hH⟩
 refine cxSkip (qxThen (zr (zs (hH.q 0 rfl) (.ld (cArr 32) S (fun _ hS=>(holds_blk0 hS))) 1 ?_)))
 refine zs (hH.q 1 rfl) (.ld cCe ct (fun _ hS=>(holds_blk0 hS))) 0 ?_
 refine zs (hH.q 2 rfl) (.ld (cArr 32) d (fun _ hS=>(holds_blk0 hS))) 0 ?_
 refine zm hH (.call Tryz.func7 (seal_c S ct d)) (⟨(hH.oldBlk hR.2.2.1 (by simp)),(hH.oldBlk hR.2.2.2.1 (by simp)),(hH.oldBlk hR.2.2.2.2.1 (by simp))⟩) 7 ?_
 clear hH
 rintro _ E6 w ⟨s10,rfl,hO7⟩ hH
 obtain ⟨A8,c9,rfl⟩:=hO7.slice
 refine zv .mv 1 ?_
 refine zv .ext 0 ?_
 refine zv .ext 2 ?_
 refine zv .mv 2 ?_
 refine zv .mv 2 ?_
 refine zn (zr (zs (hH.q 0 rfl) (.ld (cArr 32) S (fun _ hS=>(holds_blk0 hS))) 32 ?_))
 refine zs (hH.q 1 rfl) (.ld cCe ct (fun _ hS=>(holds_blk0 hS))) 0 ?_
 refine zs (hH.q 2 rfl) (.ld (cArr 32) d (fun _ hS=>(holds_blk0 hS))) 32 ?_
 refine zm hH (.call Tryz.func9 (rseal_c S ct d)) trivial 7 ?_
 clear hH
 rintro _ E12 w ⟨s16,rfl,hO13⟩ hH
 obtain ⟨A14,c15,rfl⟩:=hO13.slice
 refine zv .mv 1 ?_
 refine zv .ext 0 ?_
 refine zv .ext 2 ?_
 refine zv .mv 2 ?_
 refine zv .mv 2 ?_
 refine zn (zr (zv .mv 0 ?_))
 refine zs (hH.q 3 rfl) (.ld cKy k (fun _ hS=>(holds_blk0 hS))) 0 ?_
 refine zs (hH.q 1 rfl) (.ld cCe ct (fun _ hS=>(holds_blk0 hS))) 0 ?_
 refine zc Tryz.func11 (open_c A n c l k ct) (⟨(hH.oldBlk hR.2.2.1 (by simp)),(hH.oldBlk hR.2.2.2.1 (by simp)),(hH.oldBlk hR.2.2.2.2.1 (by simp)),(hH.vu hR.2.2.2.2.2 (by decide) (Off.nil _ _))⟩) hH 7 ?_
 clear hH
 intro w hH
 refine zv .mv 1 ?_
 refine zv .ext 0 ?_
 refine zv .ext 2 ?_
 refine zm hH (.al (cArr 32) (fun _=>0)) trivial 0 ?_
 clear hH
 rintro _ _ w ⟨g18,rfl,rfl⟩ hH
 refine ze0 6 hH rfl (.sw (cArr 32) (fun _=>0) ((opR l k.2 ct).1)) trivial ?_
 clear hH
 rintro _ _ w rfl hH
 refine zv .mv 6 ?_
 refine zn (zr (zv .mv 256 ?_))
 refine zs (hH.q 3 rfl) (.ld cKy k (fun _ hS=>(holds_blk0 hS))) 128 ?_
 refine zs (hH.q 1 rfl) (.ld cCe ct (fun _ hS=>(holds_blk0 hS))) 256 ?_
 refine zc Tryz.func12 (ropen_c A n c l k ct) (hH.vu hR.2.2.2.2.2 (by decide) (Off.nil _ _)) hH 7 ?_
 clear hH
 intro w hH
 refine zv .mv 1 ?_
 refine zv .ext 0 ?_
 refine zv .ext 2 ?_
 refine zm hH (.al (cArr 32) (fun _=>0)) trivial 0 ?_
 clear hH
 rintro _ _ w ⟨g19,rfl,rfl⟩ hH
 refine ze0 7 hH rfl (.sw (cArr 32) (fun _=>0) ((opR l k.2 ct).1)) trivial ?_
 clear hH
 rintro _ _ w rfl hH
 refine zv .mv 6 ?_
 refine zn (zr (zv .mv 128 ?_))
 refine zs (S:=fun w=>Vu cByte w A8 ((skL S ct d).length) c9 (skL S ct d)) (hO7.vuAt (hH.has 4 rfl)) (v:=(.string (strL (skL S ct d)))) (fun _ _ hF hS=>opStr (e:=5) rfl (by kernel_rfl) (by kernel_rfl) (by kernel_rfl) (hF.ev 0 rfl) hS) 1 ?_
 refine zv .mv 64 ?_
 refine zs (S:=fun w=>Vu cByte w A14 ((skL S ct d).length) c15 (skL S ct d)) (hO13.vuAt (hH.has 5 rfl)) (v:=(.string (strL (skL S ct d)))) (fun _ _ hF hS=>opStr (e:=5) rfl (by kernel_rfl) (by kernel_rfl) (by kernel_rfl) (hF.ev 0 rfl) hS) 1 ?_
 refine zv (v:=(.bool true)) (fun _ _ hF=>opEqLb (l:=(skL S ct d)) (m:=(skL S ct d)) rfl (hF.ev 1 rfl) (hF.ev 0 rfl) (decide_eq_true (rfl))) 3 ?_
 refine zv .mv 1 ?_
 refine pxV (v:=(.int .i64 (((skE d ct):Nat):Int))) (fun _ _ hF=>opMove rfl (hF.ev 6 rfl)) rfl (gOn 0 rfl rfl rfl (by decide)) (kM [true,true,true,true,true,true,false] rfl rfl) (by decide) ?_
 refine pxV (v:=(.int .i64 (((skE d ct):Nat):Int))) (fun _ _ hF=>opMove rfl (hF.ev 6 rfl)) rfl (gOn 1 rfl rfl rfl (by decide)) (kM [true,true,true,true,true,true,false] rfl rfl) (by decide) ?_
 refine pxV (v:=(.bool true)) (fun _ _ hF=>opEqI rfl (hF.ev 1 rfl) (hF.ev 0 rfl) (decide_eq_true (rfl))) rfl (gOn 2 rfl rfl rfl (by decide)) (kM [false,false,true,true,true,true,true] rfl rfl) (by decide) ?_
 refine zv (v:=(.bool true)) (fun _ _ hF=>opPickT rfl (hF.ev 1 rfl) (hF.ev 0 rfl)) 3 ?_
 refine zv .mv 1 ?_
 refine pxS (v:=((cArr 32).val ((opR l k.2 ct).1))) (fun w=>w.heap[g18]?=some (.cells ((cArr 32).enc ((opR l k.2 ct).1)) 22 (0,0))) (hH.blk 6 rfl) (fun _ _ hF hS=>opLoadT (C:=(cArr 32)) (y:=(opR l k.2 ct).1) rfl (hF.ev 4 rfl) (by kernel_rfl) (holds_blk0 hS) rfl) rfl (gOn 0 rfl rfl rfl (by decide)) (kM [true,true,true,true,false] rfl rfl) (by decide) ?_
 refine pxS (v:=((cArr 32).val ((opR l k.2 ct).1))) (fun w=>w.heap[g19]?=some (.cells ((cArr 32).enc ((opR l k.2 ct).1)) 22 (0,0))) (hH.blk 7 rfl) (fun _ _ hF hS=>opLoadT (C:=(cArr 32)) (y:=(opR l k.2 ct).1) rfl (hF.ev 3 rfl) (by kernel_rfl) (holds_blk0 hS) rfl) rfl (gOn 1 rfl rfl rfl (by decide)) (kM [true,true,true,false,true] rfl rfl) (by decide) ?_
 refine pxV (v:=(.bool true)) (fun _ _ hF=>opEqA (n:=32) (e:=5) (f:=(opR l k.2 ct).1) (g:=(opR l k.2 ct).1) (p:=True) rfl (by kernel_rfl) (by kernel_rfl) (by kernel_rfl) (hF.ev 1 rfl) (hF.ev 0 rfl) (by kernel_rfl) ⟨fun _=>trivial,fun _=>rfl⟩) rfl (gOn 2 rfl rfl rfl (by decide)) (kM [false,false,true,true,true] rfl rfl) (by decide) ?_
 refine zv (v:=(.bool true)) (fun _ _ hF=>opPickT rfl (hF.ev 1 rfl) (hF.ev 0 rfl)) 3 ?_
 refine zv .mv 1 ?_
 refine pxV (v:=(.int .i64 ((((opR l k.2 ct).2):Nat):Int))) (fun _ _ hF=>opMove rfl (hF.ev 2 rfl)) rfl (gOn 0 rfl rfl rfl (by decide)) (kM [true,true,false] rfl rfl) (by decide) ?_
 refine pxV (v:=(.int .i64 ((((opR l k.2 ct).2):Nat):Int))) (fun _ _ hF=>opMove rfl (hF.ev 2 rfl)) rfl (gOn 1 rfl rfl rfl (by decide)) (kM [true,true,false] rfl rfl) (by decide) ?_
 refine pxV (v:=(.bool true)) (fun _ _ hF=>opEqI rfl (hF.ev 1 rfl) (hF.ev 0 rfl) (decide_eq_true (rfl))) rfl (gOn 2 rfl rfl rfl (by decide)) (kM [false,false,true] rfl rfl) (by decide) ?_
 refine zv (v:=(.bool true)) (fun _ _ hF=>opPickT rfl (hF.ev 1 rfl) (hF.ev 0 rfl)) 3 ?_
 refine zv .mv 1 ?_
 refine zn (cxRet (qxRet1 0 rfl rfl ?_))
 exact ⟨rfl,HH.toBelow hH⟩
end Go.Proofs.YtajppfmjbkebfaaGreatDoor

namespace Go.Proofs.YtajppfmjbkebfaaGreatDoor
open Go Go.RowKit Go.WideShapes Go.Deep
def Opens {α:Type} (P:Program) (t:TypeId) (C:Cod α) (Ok:World→α→Prop):Prop :=
 ∀ {H:Type} (enc:TypeId×Value→H) (w:World) (fuel:Nat) (cs:List Value) (x:DataW H×List MemPlace),DataW.trod enc P w 0 (fun _=>true) true fuel t cs=some x→(x.1.weights P t).all (·≤reachBytes)=true → ∃ a,cs=(C.enc a).toList∧Ok w a
section
variable {P:Program} {t e:TypeId} {α β:Type} {A C:Cod α} {B:Cod β} {Ok OkA:World→α→Prop} {OkB:World→β→Prop}
theorem opens_byte (hu:P.underlying t=some (.int .u8)):Opens P t cByte (fun _ _=>True):=fun enc w fuel cs x h _=>by
 obtain ⟨n,rfl,_,hw⟩:=DataW.trod_int hu h
 have h8:0≤n∧n≤255:=by
  simp [Lit.wf,IntKind.min,IntKind.max,IntKind.signed,IntKind.bits] at hw
  omega
 refine ⟨UInt8.ofNat n.toNat,?_,trivial⟩
 have e:((UInt8.ofNat n.toNat).toNat:Int)=n:=by rw [UInt8.toNat_ofNat']; omega
 show _=[Value.int .u8 ((UInt8.ofNat n.toNat).toNat:Int)]
 rw [e]
theorem opens_u32 (hu:P.underlying t=some (.int .u32)):Opens P t (cNat .u32) (fun _ n=>n<4294967296):=fun enc w fuel cs x h _=>by
 obtain ⟨n,rfl,_,hw⟩:=DataW.trod_int hu h
 have h8:0≤n∧n≤4294967295:=by
  simp [Lit.wf,IntKind.min,IntKind.max,IntKind.signed,IntKind.bits] at hw
  omega
 refine ⟨n.toNat,?_,by omega⟩
 have e:((n.toNat:Nat):Int)=n:=by omega
 show _=[Value.int .u32 ((n.toNat:Nat):Int)]
 rw [e]
theorem weightsAll_mem {H:Type} {P:Program} {e:TypeId}:∀ {ds:List (DataW H)} {d:DataW H},d∈ds → ∀ n∈d.weights P e,n∈DataW.weightsAll P e ds
 | d0 :: r,d,hd,n,hn=>by
  simp only [DataW.weightsAll,List.mem_append]
  rcases List.mem_cons.1 hd with rfl | hd
  ·exact .inl hn
  ·exact .inr (weightsAll_mem hd n hn)
def SlOk {α:Type} (P:Program) (e:TypeId) (C:Cod α) (Ok:World→α→Prop) (w:World) (s:Option Addr×Nat×Nat):Prop :=
 ∃ l:List α,s.2.1=l.length∧Vu C w s.1 l.length s.2.2 l∧(∀ a∈l,Ok w a)∧s.2.2*P.bytesOf e≤reachBytes
theorem opens_slice (hu:P.underlying t=some (.slice e)) (hc:P.cellsOf e=C.sz) (hp:0<C.sz) (he:Opens P e C Ok):Opens P t cSl (SlOk P e C Ok):=fun enc w fuel cs x h hz=>by
 rcases open_slice hu h with ⟨rfl,rfl⟩ | ⟨a,len,cap,m,n,D,Pl,rfl,_,hl,hm,hmm,rfl,hx⟩
 ·exact ⟨(none,0,0),rfl,[],rfl,Vu.none C w,(fun _ h=>by cases h),by simp⟩
 ·simp only [if_true] at hmm
  subst hmm
  simp only [DataW.weights,hu,List.all_cons,Bool.and_eq_true,decide_eq_true_eq,List.length_map,List.length_range] at hz
  have hw:∀ i,i<m→((D i).weights P e).all (·≤reachBytes)=true:=fun i hi=>by
   rw [List.all_eq_true]
   intro k hk
   have h2:=hz.2
   rw [List.all_append,Bool.and_eq_true] at h2
   by_cases hil:i<len
   ·exact List.all_eq_true.1 h2.1 k (weightsAll_mem (List.mem_map.2 ⟨i,by simpa using hil,rfl⟩) k hk)
   ·exact List.all_eq_true.1 h2.2 k (weightsAll_mem (List.mem_map.2 ⟨i - len,by simp; omega,by congr 1; omega⟩) k hk)
  have each:∀ i,i<len → ∃ b:α,(∀ j,j<C.sz→w.cell? (a.add (i*C.sz+j))=(C.enc b)[j]?)∧Ok w b:=fun i hi=>by
   obtain ⟨cs',h1,h2⟩:=hx i (by omega)
   obtain ⟨b,rfl,hok⟩:=he enc w n cs' _ h2 (hw i (by omega))
   rw [hc] at h1
   obtain ⟨_,_,hcell⟩:=World.cells?_some h1
   refine ⟨b,fun j hj => ?_,hok⟩
   rw [← add_add,hcell j hj,Array.getElem?_toList]
  obtain ⟨f,hf⟩:∃ f:(i:Nat)→i<len→α,∀ i h,(∀ j,j<C.sz→w.cell? (a.add (i*C.sz+j))=(C.enc (f i h))[j]?)∧Ok w (f i h):=⟨fun i h=>(each i h).choose,fun i h=>(each i h).choose_spec⟩
  let l:List α:=List.ofFn fun i:Fin len=>f i i.isLt
  have hll:l.length=len:=by simp [l]
  have hlg:∀ i (h:i<len),l[i]?=some (f i h):=fun i h=>by simp [l,h]
  refine ⟨(some a,len,m),rfl,l,hll.symm,⟨rfl,by rw [hll]; exact hl,(fun h=>by cases h),fun hn => ?_⟩,fun b hb => ?_,?_⟩
  ·obtain ⟨ab,ao,spot⟩:=a
   rw [hll] at hn
   have hcell0:=(hf 0 hn).1 0 hp
   have hspot:spot=none:=by
    rw [Array.getElem?_eq_getElem (by rw [C.size]; exact hp)] at hcell0
    have:=World.cell?_spot hcell0
    simpa [Addr.add] using this
   subst hspot
   refine ⟨ab,ao,rfl,fun i y hy j u hu' => ?_⟩
   have hi:i<len:=by rw [← hll]; exact (List.getElem?_eq_some_iff.1 hy).1
   rw [hlg i hi] at hy
   obtain rfl:=Option.some.inj hy
   have hj:j<C.sz:=by
    have:=(Array.getElem?_eq_some_iff.1 hu').1
    rwa [C.size] at this
   have:=(hf i hi).1 j hj
   rw [Addr.add_mid,hu'] at this
   rw [Nat.add_assoc]; exact this
  ·obtain ⟨i,hi⟩:=List.getElem?_of_mem hb
   have hil:i<len:=by rw [← hll]; exact (List.getElem?_eq_some_iff.1 hi).1
   rw [hlg i hil] at hi
   obtain rfl:=Option.some.inj hi
   exact (hf i hil).2
  ·have h1:=hz.1
   rw [show len+(m - len)=m by omega] at h1
   exact h1
def fieldsOf (P:Program) (t:TypeId):Option (List (TypeId×Nat)) :=
 match P.underlying t with
 | some (.struct fs)=>some (fs.toList.map fun f=>(f.type,f.offset))
 | _=>none
def OpensFs {α:Type} (P:Program) (fs:List (TypeId×Nat)) (off:Nat) (C:Cod α) (Ok:World→α→Prop):Prop :=
 ∀ {H:Type} (enc:TypeId×Value→H) (w:World) (n:Nat) (cs:List Value) (xs:List (DataW H×List MemPlace)),cs.length=off+C.sz→xs.length=fs.length →
  (∀ (i:Nat) (f:TypeId×Nat),fs[i]?=some f→DataW.trod enc P w 0 (fun _=>true) true n f.1 ((cs.drop f.2).take (P.cellsOf f.1))=xs[i]?)→(DataW.weightsEach P (fs.map (·.1)) (xs.map (·.1))).all (·≤reachBytes)=true →
  ∃ a,cs.drop off=(C.enc a).toList∧Ok w a
theorem opensFs_last {off:Nat} (hc:P.cellsOf t=C.sz) (h:Opens P t C Ok):OpensFs P [(t,off)] off C Ok:=fun enc w n cs xs hl hx hf hz=>by
 match xs,hx with
 | [y],_ =>
  have h1:=hf 0 (t,off) rfl
  simp only [List.getElem?_cons_zero] at h1
  rw [hc,List.take_of_length_le (by rw [List.length_drop]; omega)] at h1
  simp only [List.map_cons,List.map_nil,DataW.weightsEach,List.append_nil] at hz
  exact h enc w n _ y h1 hz
theorem opensFs_cons {off:Nat} {r:List (TypeId×Nat)} (hc:P.cellsOf t=A.sz) (h:Opens P t A OkA) (hr:OpensFs P r (off+A.sz) B OkB):OpensFs P ((t,off) :: r) off (cPair A B) (fun w x=>OkA w x.1∧OkB w x.2):=fun enc w n cs xs hl hx hf hz=>by
 match xs,hx with
 | y :: ys,hx =>
  have h1:=hf 0 (t,off) rfl
  simp only [List.getElem?_cons_zero] at h1
  simp only [List.map_cons,DataW.weightsEach,List.all_append,Bool.and_eq_true] at hz
  rw [hc] at h1
  obtain ⟨a,ha,hoa⟩:=h enc w n _ y h1 hz.1
  have hl':cs.length=off+A.sz+B.sz:=by rw [hl]; show off+(A.sz+B.sz)=_; omega
  obtain ⟨b,hb,hob⟩:=hr enc w n cs ys hl' (by simpa using hx) (fun i f hi=>by have:=hf (i+1) f (by simpa using hi); simpa using this) hz.2
  refine ⟨(a,b),?_,hoa,hob⟩
  rw [enc_pair,Array.toList_append,← ha,← hb]
  have:cs.drop (off+A.sz)=(cs.drop off).drop A.sz:=by rw [List.drop_drop]
  rw [this,List.take_append_drop]
theorem opens_struct {fs:List (TypeId×Nat)} (hu:fieldsOf P t=some fs) (hc:P.cellsOf t=C.sz) (h:OpensFs P fs 0 C Ok):Opens P t C Ok:=fun enc w fuel cs x hx hz=>by
 unfold fieldsOf at hu
 split at hu
 ·rename_i fa hfa
  obtain rfl:=Option.some.inj hu
  obtain ⟨xs,n,_,rfl,hl,hlen,hf⟩:=DataW.trod_struct hfa hx
  simp only [DataW.weights,hfa] at hz
  have:=h enc w n cs xs (by rw [hl,hc]; omega) (by simp [hlen]) (fun i f hi=>by
   rw [List.getElem?_map] at hi
   cases hfi:fa.toList[i]? with
   | none=>rw [hfi] at hi; cases hi
   | some g =>
    rw [hfi] at hi
    obtain rfl:=Option.some.inj hi
    exact hf i g (by rw [← Array.getElem?_toList]; exact hfi)) (by simpa [List.map_map,Function.comp_def] using hz)
  simpa using this
 ·cases hu
theorem opens_arr {n:Nat} (hu:P.underlying t=some (.array n e)) (hc:P.cellsOf t=n) (he:P.underlying e=some (.int .u8)) (h1:P.cellsOf e=1):Opens P t (cArr n) (fun _ _=>True):=fun enc w fuel cs x h _=>by
 obtain ⟨xs,m,_,_,hl,hx,hel⟩:=DataW.trod_array hu h
 have each:∀ i,i<n → ∃ b:UInt8,cs[i]?=some (.int .u8 (b.toNat:Int)):=fun i hi=>by
  have h2:=hel i hi
  rw [h1,List.getElem?_eq_getElem (by omega)] at h2
  obtain ⟨k,hn,_,hw⟩:=DataW.trod_int he h2
  have hr:0≤k∧k≤255:=by
   simp [Lit.wf,IntKind.min,IntKind.max,IntKind.signed,IntKind.bits] at hw
   omega
  refine ⟨UInt8.ofNat k.toNat,?_⟩
  have h3:=congrArg (fun l=>l[0]?) hn
  simp at h3
  rw [h3]
  congr 2
  rw [UInt8.toNat_ofNat']
  omega
 obtain ⟨f,hf⟩:∃ f:Nat→UInt8,∀ i,i<n→cs[i]?=some (.int .u8 ((f i).toNat:Int)) :=
  ⟨fun i=>if h:i<n then (each i h).choose else 0,fun i hi=>by simpa [hi] using (each i hi).choose_spec⟩
 refine ⟨f,?_,trivial⟩
 apply List.ext_getElem?
 intro i
 rw [enc_arr,Array.getElem?_toList (xs:=row n f)]
 by_cases hi:i<n
 ·rw [row_get n f i hi,hf i hi]
  rfl
 ·rw [List.getElem?_eq_none (by rw [hl,hc]; omega),Array.getElem?_eq_none (by rw [row_size]; omega)]
theorem okWide_noAgg {w:World} {base:Nat} {cs:Array Value} (hd:(P.underlying t).map (·.isRow)=some false) (h:Value.okWide P w .any base t (.agg cs)):False:=by
 cases hu:P.underlying t with
 | none=>rw [hu] at hd; cases hd
 | some d =>
  rw [hu] at hd
  have hd:=Option.some.inj hd
  cases d <;> first | (cases hd; done) | (simp [Value.okWide,hu,Cell.okWide,Cell.ok] at h)
theorem open_arg {H:Type} {enc:TypeId×Value→H} {W:World} {base:Nat} {v:Value} {d:DataW H} {p:List MemPlace} (ho:Opens P t C Ok) (hty:tyOk P t C=true) (hval:Value.okWide P W .any base t v) (h:DataW.Trod enc P W 0 (fun _=>true) true t v d p)
  (hz:(d.weights P t).all (·≤reachBytes)=true):∃ a,v=C.val a∧Ok W a:=by
 obtain ⟨fuel,hf⟩:=h
 obtain ⟨a,ha,hok⟩:=ho enc W fuel _ _ hf hz
 refine ⟨a,?_,hok⟩
 have ha':v.cells=C.enc a:=Array.ext' ha
 obtain ⟨hd,_⟩:=tyOk.spec hty
 cases hr:C.row with
 | true =>
  rw [hr] at hd
  have:∃ cs,v=.agg cs:=by
   cases hu:P.underlying t with
   | none=>rw [hu] at hd; cases hd
   | some dd =>
    rw [hu] at hd
    have hd:=Option.some.inj hd
    simp only [Value.okWide,hu] at hval
    cases dd <;> first | (cases hd; done) | (obtain ⟨cs,rfl,_⟩:=hval; exact ⟨cs,rfl⟩)
  obtain ⟨cs,rfl⟩:=this
  rw [C.agg hr a]
  exact congrArg Value.agg ha'
 | false =>
  rw [hr] at hd
  have h1:=one_cells (C.scal hr a)
  have h2:v.cells = #[C.val a]:=ha'.trans h1
  cases v with
  | agg cs=>exact (okWide_noAgg hd hval).elim
  | _=>simpa [Value.cells] using h2
end
end Go.Proofs.YtajppfmjbkebfaaGreatDoor

namespace Go.Proofs.YtajppfmjbkebfaaGreatDoor
open Go Go.RowKit
theorem opens_rows {P:Program} {t e:TypeId} {m n N:Nat} (hu:P.underlying t=some (.array m e)) (hN:N=m*n) (hc:P.cellsOf t=N) (he:P.cellsOf e=n) (h1:Opens P e (cArr n) (fun _ _=>True)):Opens P t (cArr N) (fun _ _=>True):=fun enc w fuel cs x h hz=>by
 subst hN
 obtain ⟨xs,k,_,rfl,hl,hx,hel⟩:=DataW.trod_array hu h
 have each:∀ i,i<m → ∃ f:Nat→UInt8,(cs.drop (i*n)).take n=(row n f).toList:=fun i hi=>by
  have h2:=hel i hi
  have hi':i<xs.length:=by omega
  rw [he,List.getElem?_eq_getElem hi'] at h2
  obtain ⟨f,hf,_⟩:=h1 enc w k _ xs[i] h2 (List.all_eq_true.2 fun q hq=>List.all_eq_true.1 hz q (by
   simp only [DataW.weights,hu]
   exact weightsAll_mem (List.mem_map_of_mem (List.getElem_mem hi')) q hq))
  exact ⟨f,hf⟩
 obtain ⟨F,hF⟩:∃ F:Nat→Nat→UInt8,∀ i,i<m→(cs.drop (i*n)).take n=(row n (F i)).toList :=
  ⟨fun i=>if h:i<m then (each i h).choose else fun _=>0,fun i hi=>by simpa [hi] using (each i hi).choose_spec⟩
 refine ⟨fun j=>F (j / n) (j%n),?_,trivial⟩
 apply List.ext_getElem?
 intro j
 rw [enc_arr,Array.getElem?_toList (xs:=row _ _)]
 by_cases hj:j<m*n
 ·have hn:0<n:=Nat.pos_of_ne_zero fun h=>by rw [h,Nat.mul_zero] at hj; omega
  have hi:j / n<m:=(Nat.div_lt_iff_lt_mul hn).2 hj
  have hr:=Nat.mod_lt j hn
  have e1:=congrArg (fun l=>l[j%n]?) (hF (j / n) hi)
  simp only [List.getElem?_take,List.getElem?_drop,if_pos hr,Array.getElem?_toList] at e1
  rw [row_get n _ _ hr,Nat.mul_comm,Nat.div_add_mod] at e1
  rw [row_get _ _ _ hj,e1]
 ·rw [List.getElem?_eq_none (by rw [hl,hc]; omega),Array.getElem?_eq_none (by rw [row_size]; omega)]
end Go.Proofs.YtajppfmjbkebfaaGreatDoor
