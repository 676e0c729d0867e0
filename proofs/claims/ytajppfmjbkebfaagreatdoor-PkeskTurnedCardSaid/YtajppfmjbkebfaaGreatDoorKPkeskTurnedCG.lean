/- What the claim leans on, part 7: plain theorems, and walks of functions of the program and of the document. -/
import Derived.Test.YtajppfmjbkebfaaGreatDoorKPkeskTurnedCF
import Derived.Test.YtajppfmjbkebfaaGreatDoorKPkeskTurnedCD
import Derived.Test.YtajppfmjbkebfaaGreatDoorKPkeskTurnedCC
import Derived.Test.YtajppfmjbkebfaaGreatDoorKPkeskTurnedCB
import Derived.Test.YtajppfmjbkebfaaGreatDoorKPkeskTurnedCA
import Derived.Test.YtajppfmjbkebfaaGreatDoorKPkeskTurnedCE
import Derived.OpenShut
import Derived.Deep.Slices
import Derived.SizedLaws
import Derived.WideShapes
import Derived.ChangeArms
set_option maxHeartbeats 8000000
namespace Go.Proofs.YtajppfmjbkebfaaGreatDoor
open Go Go.RowKit
set_option maxRecDepth 100000
theorem mt(s u:Bt):Pure Tryz.prog 20 #[(ac 32).val s,(ac 32).val u] (fun _=>True) (.tuple #[(ac 32).val (xMulB s u),.int .i64 ((shE (xMulB s u):Nat):Int)]):=by
 have:=sN s u
 rwa [← kV]at this
theorem jn(s:Bt):Pure Tryz.prog 21 #[(ac 32).val s] (fun _=>True) ((ac 32).val (xPub s)):=by
 have:=Ab s
 rwa [← ra]at this
theorem vp(A:Option Addr)(n z:Nat)(l:List UInt8)(hn:l.length=n)(hk:l.length=16∨l.length=32)(B:Option Addr)(m y:Nat)(d:List UInt8)(hm:d.length=m)(hd:16≤d.length∧d.length≤128)(h8:d.length%8=0):Does Tryz.prog 22 #[.slice A n z,.slice B m y] [] (fun w=>Vu af w A n z l∧Vu af w B m y d) (fun v E' => ∃ s,v=.tuple #[s,.int .i64 0]∧OwnT af 5 s (cd l d) E'):=by
 subst hn hm;exact xE A z l hk B y d hd h8
theorem pW(A:Option Addr)(n z:Nat)(l:List UInt8)(hn:l.length=n)(hk:l.length=16∨l.length=32)(B:Option Addr)(m y:Nat)(d:List UInt8)(hm:d.length=m)(hd:24≤d.length∧d.length≤136)(h8:d.length%8=0)(hu:unE l d=0):Does Tryz.prog 30 #[.slice A n z,.slice B m y] [] (fun w=>Vu af w A n z l∧Vu af w B m y d) (fun v E' => ∃ g cap cur o,v=.tuple #[.slice (some ⟨g,0+8*1,none⟩) (m-8) (cap-8),.int .i64 0]∧E'=[bl g 5 cur]∧Bk af cap cur o∧o.length=d.length∧o.drop 8=unL l d):=by
 subst hn hm;exact (ms A z l hk B y d hd h8).mono (fun _ h=>h) fun _ _ h=>h.1 hu
theorem oL(A:Option Addr)(n z:Nat)(l:List UInt8)(hn:l.length=n)(hk:l.length=16∨l.length=32)(B:Option Addr)(m y:Nat)(d:List UInt8)(hm:d.length=m)(hd:24≤d.length∧d.length≤136)(h8:d.length%8=0)(hu:unE l d≠0):Does Tryz.prog 30 #[.slice A n z,.slice B m y] [] (fun w=>Vu af w A n z l∧Vu af w B m y d) (fun v E'=>v=.tuple #[.slice none 0 0,.int .i64 5]∧E'=[]):=by
 subst hn hm;exact (ms A z l hk B y d hd h8).mono (fun _ h=>h) fun _ _ h=>h.2 hu
section
variable{l:List UInt8}
theorem vq{k n:Nat}(h:k+n≤l.length):(l.take (k+n)).drop k=lst n (cutF l k):=by
 refine bR (fun j hj => ?_) (by rw[List.length_drop,List.length_take];omega)
 rw[List.getElem?_drop,List.getElem?_take,if_pos (by omega)]
 exact j3 (by omega)
theorem xG{k n m j:Nat}(hm:m=k+n)(hj:j<n):cutF ((l.take m).drop k) 0 j=cutF l k j:=by
 unfold cutF
 rw[Nat.zero_add,List.getD_eq_getElem?_getD,List.getElem?_drop,List.getElem?_take,if_pos (by omega),List.getD_eq_getElem?_getD]
theorem vr{k:Nat}:cutF (l.drop k) 0=cutF l k:=by
 funext j
 unfold cutF
 rw[Nat.zero_add,List.getD_eq_getElem?_getD,List.getElem?_drop,List.getD_eq_getElem?_getD]
theorem gL{k n:Nat}(h:k+n≤l.length):l.drop k=lst n (cutF l k)++l.drop (k+n):=by
 rw[← vq h,← List.drop_drop,List.drop_take,Nat.add_sub_cancel_left,List.take_append_drop]
theorem oM{k:Nat}{x:UInt8}(h:l[k]?=some x):l.drop k=[x]++l.drop (k+1):=by
 obtain ⟨hk,rfl⟩:=List.getElem?_eq_some_iff.1 h
 exact List.drop_eq_getElem_cons hk
theorem nj{x y:UInt8}(hl:l.length=109)(h3:l.take 3=[6,33,6])(hx:l[35]?=some x)(h25:x.toNat=25)(hy:l[68]?=some y)(h40:y.toNat=40):isB l:=by
 obtain rfl:x=25:=j5 h25
 obtain rfl:y=40:=j5 h40
 refine ⟨hl,?_⟩
 unfold eA
 have e:l=l.take 3++l.drop 3:=(List.take_append_drop 3 l).symm
 rw[h3,gL (k:=3) (n:=32) (by omega),oM hx,gL (k:=35+1) (n:=32) (by omega),oM (k:=35+1+32) hy]at e
 exact e
theorem jo(hb:isB l):l.take 3=[6,33,6]∧l[35]?=some 25∧l[68]?=some 40:=by
 obtain ⟨hl,hb⟩:=hb
 unfold eA at hb
 refine ⟨?_,?_,?_⟩
 ·rw[hb];rfl
 ·rw[hb,List.getElem?_append_right (by decide),List.getElem?_append_right (by rw[ap];decide),ap];rfl
 ·rw[hb,List.getElem?_append_right (by decide),List.getElem?_append_right (by rw[ap];decide),ap,List.getElem?_append_right (by decide),List.getElem?_append_right (by rw[ap];decide),ap];rfl
end
theorem xH(S:Bt)(ct:Ct)(d:Bt):Does Tryz.prog 9 #[((ac 32).val S),(cCe.val ct),((ac 32).val d)] [] (fun _=>True) (fun v E' => ∃ s,v=.tuple #[s,.int .i64 ((skE d ct:Nat):Int)]∧OwnT af 5 s (skL S ct d) E'):=by
 refine dU Tryz.func9 Tryz.ntmps9 ?_
 intro w0 hH hR
 replace hH:HH w0 [] [] w0:=hH.only [false]
 refine zr (zB hH (ac 32) S 1 ?_)
 clear hH
 intro g1 w hH
 refine zB hH cCe ct 2 ?_
 clear hH
 intro g2 w hH
 refine zB hH (ac 32) d 4 ?_
 clear hH
 intro g3 w hH
 refine zv .mv 0 ?_
 refine zv .mv 1 ?_
 refine zn (zr (zs (hH.q 2 rfl) (.l0 (ac 32) d) 1 ?_))
 refine zv (.fld 33) 0 ?_
 refine zs (hH.q 1 rfl) (.ld (ac 32) ct.2.2.1 (fun _ hS=>(((ae hS).snd).snd).fst)) 1 ?_
 refine zc Tryz.func20 (mt d ct.2.2.1) trivial hH 3 ?_
 clear hH
 intro w hH
 refine zv .mv 1 ?_
 refine zv .ext 0 ?_
 refine zv .ext 2 ?_
 refine zA hH (ac 32) (fun _=>0) 0 ?_
 clear hH
 intro g4 w hH
 refine zW 3 hH rfl (xMulB d ct.2.2.1) ?_
 clear hH
 intro w hH
 refine zv .mv 6 ?_
 refine zn (aj (zr (zv .mv 0 ?_)))
 refine zv (.ne (shE (xMulB d ct.2.2.1)≠0)) 1 ?_
 refine zn ?_
 refine zP (fun hc5 => ?_) (fun hc5 => ?_)
 refine zr (zv .mv 63 ?_)
 refine zv .mv 0 ?_
 refine zv .mv 2 ?_
 refine zn (ar (bj ?_))
 refine eF 1 0 rfl rfl rfl ?_
 have hl:skL S ct d=[]:=if_neg hc5
 exact ⟨_,_,rfl,⟨_,rfl,hl▸OwnT.nil _ _⟩,HH.out (HH.pad hH 1) [false,false,false,false,true]⟩
 refine aA (ag (zr (zs (hH.q 2 rfl) (.l0 (ac 32) d) 11 ?_)))
 refine zc Tryz.func21 (jn d) trivial hH 1 ?_
 clear hH
 intro w hH
 refine zA hH (ac 32) (fun _=>0) 0 ?_
 clear hH
 intro g6 w hH
 refine zW 4 hH rfl (xPub d) ?_
 clear hH
 intro w hH
 refine zn (zx ?_)
 replace hH:=hH.drew
 refine rld 0 (hH.q 4 rfl) (.l0 (ac 32) (xPub d)) 2 ?_
 refine rv 1 (.fld 33) 0 ?_
 refine rld 2 (hH.q 1 rfl) (.ld (ac 32) ct.2.2.1 (fun _ hS=>(((ae hS).snd).snd).fst)) 1 ?_
 refine rld 3 (hH.q 3 rfl) (.l0 (ac 32) (xMulB d ct.2.2.1)) 8 ?_
 refine rv 5 (v:=(.slice (some ⟨g1,0,none⟩) 32 32)) (fun _ _ hF=>aV (n:=32) (e:=5) (sz:=1) rfl (by kernel_rfl) (by kernel_rfl) (hF.ev 5 rfl)) 32 ?_
 refine ao 4 ?_
 refine rm 4 hH (.call Tryz.func23 ((pc (xPub d) ct.2.2.1 (xMulB d ct.2.2.1)))) trivial 14 (pgo [] (pgo [] (pgo [] (.nil _ [])))) ?_
 clear hH
 rintro v11 E7 w hO8 hH
 obtain ⟨A9,c10,rfl⟩:=hO8.slice
 refine ⟨an,ao 6 ?_⟩
 refine rm 6 hH (.call Tryz.func22 ((vp A9 ((kekL (xPub d) ct.2.2.1 (xMulB d ct.2.2.1)).length) c10 (kekL (xPub d) ct.2.2.1 (xMulB d ct.2.2.1)) rfl (.inl (eL _ _ _)) (some ⟨g1,0,none⟩) 32 32 (lst 32 S) (ap _ _) (by rw[ap];decide) (by rw[ap])))) (⟨(hO8.vuAt (hH.has 5 rfl)),(bp (hH.blk 0 rfl))⟩) 3 (.nil _ []) ?_
 clear hH
 rintro _ E13 w ⟨s17,rfl,hO14⟩ hH
 obtain ⟨A15,c16,rfl⟩:=hO14.slice
 refine ⟨an,rv 7 .mv 1 ?_⟩
 refine rv 8 .ext 0 ?_
 refine rv 9 .ext 2 ?_
 refine rv 10 .mv 2 ?_
 refine rv 11 .mv 2 ?_
 refine rn ?_
 refine zx ?_
 replace hH:=hH.drew
 have hi20:1<2:=by omega
 refine de 3 [mkv 0 35 [] [] (fun G g=>(.slice (some ⟨g,0,none⟩) 3 3)) fun G g=>[bl g 5 (be af [6,33,6]).toArray],pv 1 36 [] [] fun G=>(.pointer (some ⟨g2,65,none⟩)),pv 2 37 [1] [] fun G=>(.pointer (some ⟨g2,65+1*32,none⟩)),pv 3 38 [2] [] fun G=>(.slice (some ⟨g2,65+1*32,none⟩) 32 32),mkv 4 39 [] [] (fun G g=>(.slice (some ⟨g,0,none⟩) 1 1)) fun G g=>[bl g 5 (af.enc 25)],pv 5 40 [] [] fun G=>(.slice (some ⟨g6,0,none⟩) 32 32),mkv 6 41 [] [] (fun G g=>(.slice (some ⟨g,0,none⟩) 1 1)) fun G g=>[bl g 5 (af.enc 40)],pv 7 42 [] [] fun G=>(.slice A15 ((cd (kekL (xPub d) ct.2.2.1 (xMulB d ct.2.2.1)) (lst 32 S)).length) c16),mkv 8 43 [0,3,4,5,6,7] [0,4,6] (fun G g=>(.slice (some ⟨g,0,none⟩) 6 6)) fun G g=>[bl g 27 (be cSl [((some ⟨(G 0).g,0,none⟩),3,3),((some ⟨g2,65+1*32,none⟩),32,32),((some ⟨(G 4).g,0,none⟩),1,1),((some ⟨g6,0,none⟩),32,32),((some ⟨(G 6).g,0,none⟩),1,1),(A15,(cd (kekL (xPub d) ct.2.2.1 (xMulB d ct.2.2.1)) (lst 32 S)).length,c16)]).toArray]] (fun G=>[(43,(.slice (some ⟨(G 8).g,0,none⟩) 6 6))]) (fun G=>[[bl g1 22 ((ac 32).enc S)],[bl g2 36 (cCe.enc ct)],[bl g3 22 ((ac 32).enc d)],[bl g4 22 ((ac 32).enc (xMulB d ct.2.2.1))],[bl g6 22 ((ac 32).enc (xPub d))],E7,E13,[bl (G 0).g 5 (be af [6,33,6]).toArray],[bl (G 4).g 5 (af.enc 25)],[bl (G 6).g 5 (af.enc 40)],[bl (G 8).g 27 (be cSl [((some ⟨(G 0).g,0,none⟩),3,3),((some ⟨g2,65+1*32,none⟩),32,32),((some ⟨(G 4).g,0,none⟩),1,1),((some ⟨g6,0,none⟩),32,32),((some ⟨(G 6).g,0,none⟩),1,1),(A15,(cd (kekL (xPub d) ct.2.2.1 (xMulB d ct.2.2.1)) (lst 32 S)).length,c16)]).toArray]]) hH (.c (.a (fun _ _ _ _=>trivial) (fun G=>(fun _ hF=>cY (C:=af) (e:=5) (z:=(.int .u8 0)) (by_:=1) [6,33,6] rfl (by kernel_rfl) (by kernel_rfl) (EvP.cons (v:=af.val 6) rfl (EvP.cons (v:=af.val 33) rfl (EvP.cons (v:=af.val 6) rfl EvP.nil))) rfl (ltb rfl) (leb rfl) rfl)) fun _ _ _ h=>h) <| .c (.v fun G=>(.fld 65)) <| .c (.v fun G=>(.ia 32 2 1 (hi:=hi20))) <| .c (.v fun G=>(fun _ _ hF=>aV (n:=32) (e:=5) (sz:=1) rfl (by kernel_rfl) (by kernel_rfl) (hF.ev 0 rfl))) <| .c (.a (fun _ _ _ _=>trivial) (fun G=>(fun _ hF=>cx (e:=5) (sz:=1) (z:=(.int .u8 0)) (by_:=1) (cs:=af.enc 25) rfl (by kernel_rfl) (by kernel_rfl) rfl (af.len 25) (ltb rfl) (leb rfl) rfl)) fun _ _ _ h=>h) <| .c (.v fun G=>(fun _ _ hF=>aV (n:=32) (e:=5) (sz:=1) rfl (by kernel_rfl) (by kernel_rfl) (hF.ev 2 rfl))) <| .c (.a (fun _ _ _ _=>trivial) (fun G=>(fun _ hF=>cx (e:=5) (sz:=1) (z:=(.int .u8 0)) (by_:=1) (cs:=af.enc 40) rfl (by kernel_rfl) (by kernel_rfl) rfl (af.len 40) (ltb rfl) (leb rfl) rfl)) fun _ _ _ h=>h) <| .c (.v fun G=>.mv) <| .c (.a (fun _ _ _ _=>trivial) (fun G=>(fun _ hF=>cY (C:=cSl) (e:=27) (z:=(.slice none 0 0)) (by_:=24) [((some ⟨(G 0).g,0,none⟩),3,3),((some ⟨g2,65+1*32,none⟩),32,32),((some ⟨(G 4).g,0,none⟩),1,1),((some ⟨g6,0,none⟩),32,32),((some ⟨(G 6).g,0,none⟩),1,1),(A15,(cd (kekL (xPub d) ct.2.2.1 (xMulB d ct.2.2.1)) (lst 32 S)).length,c16)] rfl (by kernel_rfl) (by kernel_rfl) (EvP.cons (v:=cSl.val ((some ⟨(G 0).g,0,none⟩),3,3)) (hF.ev 0 rfl) (EvP.cons (v:=cSl.val ((some ⟨g2,65+1*32,none⟩),32,32)) (hF.ev 1 rfl) (EvP.cons (v:=cSl.val ((some ⟨(G 4).g,0,none⟩),1,1)) (hF.ev 2 rfl) (EvP.cons (v:=cSl.val ((some ⟨g6,0,none⟩),32,32)) (hF.ev 3 rfl) (EvP.cons (v:=cSl.val ((some ⟨(G 6).g,0,none⟩),1,1)) (hF.ev 4 rfl) (EvP.cons (v:=cSl.val (A15,(cd (kekL (xPub d) ct.2.2.1 (xMulB d ct.2.2.1)) (lst 32 S)).length,c16)) (hF.ev 5 rfl) EvP.nil)))))) rfl (ltb rfl) (leb rfl) rfl)) fun _ _ _ h=>h) <| .nil) ?_
 clear hH
 rintro G w-hH
 revert hH
 generalize (G 0).g=g19
 generalize (G 4).g=g21
 generalize (G 6).g=g22
 generalize (G 8).g=g23
 intro hH
 refine ao 9 ?_
 refine rm 9 hH (.call Tryz.func24 ((jV (some ⟨g23,0,none⟩) 6 6 [((some ⟨g19,0,none⟩),3,3),((some ⟨g2,65+1*32,none⟩),32,32),((some ⟨g21,0,none⟩),1,1),((some ⟨g6,0,none⟩),32,32),((some ⟨g22,0,none⟩),1,1),(A15,(cd (kekL (xPub d) ct.2.2.1 (xMulB d ct.2.2.1)) (lst 32 S)).length,c16)] [[6,33,6],(lst 32 (fun q9=>ct.2.2.2 (32*1+q9))),[25],(lst 32 (xPub d)),[40],(cd (kekL (xPub d) ct.2.2.1 (xMulB d ct.2.2.1)) (lst 32 S))] rfl (by decide) (by simp only[List.flatten_cons,List.flatten_nil,List.length_append,List.length_cons,List.length_nil,ap,jm];omega)))) (⟨((Bk.lits (C:=cSl) [((some ⟨g19,0,none⟩),3,3),((some ⟨g2,65+1*32,none⟩),32,32),((some ⟨g21,0,none⟩),1,1),((some ⟨g6,0,none⟩),32,32),((some ⟨g22,0,none⟩),1,1),(A15,(cd (kekL (xPub d) ct.2.2.1 (xMulB d ct.2.2.1)) (lst 32 S)).length,c16)] (by show 6≤_;unfold maxLen;decide)).vu (n:=6) (hH.blk 10 rfl) rfl),(.cons ((Bk.lits (C:=af) [6,33,6] (by show 3≤_;unfold maxLen;decide)).vu (n:=3) (hH.blk 7 rfl) rfl) (.cons (dx (Holds.row ((((ae (hH.blk 1 rfl)).snd).snd).snd) 1 32 (by omega))) (.cons ((Bk.lit1 (C:=af) 25).vu (n:=1) (hH.blk 8 rfl) rfl) (.cons (bp (hH.blk 4 rfl)) (.cons ((Bk.lit1 (C:=af) 40).vu (n:=1) (hH.blk 9 rfl) rfl) (.cons (hO14.vuAt (hH.has 6 rfl)) ViewsL.nil))))))⟩) 1 (.nil _ []) ?_
 clear hH
 rintro v28 E24 w hO25 hH
 obtain ⟨A26,c27,rfl⟩:=hO25.slice
 refine ⟨an,rv 10 .mv 1 ?_⟩
 refine rv 11 .mv 0 ?_
 refine rn ?_
 refine ar (eF 1 0 rfl rfl rfl ?_)
 have he:=Decidable.not_not.1 hc5
 have hl:skL S ct d=eA (pr1 ct) (xPub d) (skW S d ct):=if_pos he
 exact ⟨_,_,rfl,⟨(.slice A26 (([[6,33,6],(lst 32 (fun q9=>ct.2.2.2 (32*1+q9))),[25],(lst 32 (xPub d)),[40],(cd (kekL (xPub d) ct.2.2.1 (xMulB d ct.2.2.1)) (lst 32 S))].flatten).length) c27),by rw[show skE d ct=0 from he];rfl,hl.trans (oF _ _ _).symm▸hO25⟩,hH.out1 [false,false,false,false,false,false,false,false,false,false,false,true] rfl⟩
theorem nm(A:Option Addr)(n c:Nat)(l:List UInt8)(k:Bt×Bt)(ct:Ct):Pure Tryz.prog 12 #[(.slice A n c),(cKy.val k),(cCe.val ct)] (fun w=>Vu af w A n c l) (.tuple #[(ac 32).val (opR l k.2 ct).1,.int .i64 (((opR l k.2 ct).2:Nat):Int)]):=by
 refine pU Tryz.func12 Tryz.ntmps12 ?_
 intro w0 hH hR
 have hll:=hR.len;have hcl:=hR.cap
 refine zr (zB hH cKy k 2 ?_)
 clear hH
 intro g1 w hH
 refine zB hH cCe ct 4 ?_
 clear hH
 intro g2 w hH
 refine zA hH (ac 32) (fun _=>0) 0 ?_
 clear hH
 intro g3 w hH
 refine zv .mv 0 ?_
 refine zn (aj (zr (zv .mv 1 ?_)))
 refine zv .len 1 ?_
 refine zv (.ne (n≠109)) 1 ?_
 refine zv .mv 1 ?_
 refine eI 0 rfl (l1:=[(15,(.bool true)),(6,(.pointer (some ⟨g3,0,none⟩))),(5,(.pointer (some ⟨g2,0,none⟩))),(4,(.pointer (some ⟨g1,0,none⟩))),(0,(.slice A n c))]) (l2:=[(15,(.bool false)),(6,(.pointer (some ⟨g3,0,none⟩))),(5,(.pointer (some ⟨g2,0,none⟩))),(4,(.pointer (some ⟨g1,0,none⟩))),(0,(.slice A n c))]) rfl rfl (fun hg4 => ?_) (fun hg4 => ?_)
 refine pxU rfl (cW 0 rfl rfl rfl (by decide)) (kA rfl) (by decide) ?_
 refine pxU rfl (cW 0 rfl rfl rfl (by decide)) (kA rfl) (by decide) ?_
 refine pxU rfl (cW 0 rfl rfl rfl (by decide)) (kA rfl) (by decide) ?_
 refine pxU rfl (cW 0 rfl rfl rfl (by decide)) (kA rfl) (by decide) ?_
 refine zv (v:=(.bool true)) (fun _ _ hF=>cB rfl (hF.ev 0 rfl) rfl) 1 ?_
 refine zv .mv 1 ?_
 refine pxU rfl (cW 0 rfl rfl rfl (by decide)) (kA rfl) (by decide) ?_
 refine pxU rfl (cW 0 rfl rfl rfl (by decide)) (kA rfl) (by decide) ?_
 refine pxU rfl (cW 0 rfl rfl rfl (by decide)) (kA rfl) (by decide) ?_
 refine pxU rfl (cW 0 rfl rfl rfl (by decide)) (kA rfl) (by decide) ?_
 refine zv (v:=(.bool true)) (fun _ _ hF=>cB rfl (hF.ev 0 rfl) rfl) 1 ?_
 refine zv .mv 1 ?_
 refine pxU rfl (cW 0 rfl rfl rfl (by decide)) (kA rfl) (by decide) ?_
 refine pxU rfl (cW 0 rfl rfl rfl (by decide)) (kA rfl) (by decide) ?_
 refine pxU rfl (cW 0 rfl rfl rfl (by decide)) (kA rfl) (by decide) ?_
 refine pxU rfl (cW 0 rfl rfl rfl (by decide)) (kA rfl) (by decide) ?_
 refine zv (v:=(.bool true)) (fun _ _ hF=>cB rfl (hF.ev 0 rfl) rfl) 1 ?_
 refine zn (zT ?_)
 refine zr (zv (v:=((ac 32).val (fun _=>0))) (fun _ _ hF=>aE (cells:=(ac 32).enc (fun _=>0)) (vals:=[]) rfl EvP.nil (by kernel_rfl) _) 29 ?_)
 refine zW 2 hH rfl (fun _=>0) ?_
 clear hH
 intro w hH
 refine zv .mv 1 ?_
 refine zn (ar (bj ?_))
 refine aX 1 0 (hH.blk 2 rfl) rfl rfl rfl (by kernel_rfl) (Cod.size _ _) (by kernel_rfl) ?_
 have hb:¬ isB l:=fun hb=>hg4 (by rw[← hll];exact hb.1)
 have hv:opR l k.2 ct=(fun _=>0,2):=by unfold opR;rw[if_neg hb]
 exact ⟨by rw[hv];rfl,HH.toBelow hH⟩
 refine pxV (v:=(.slice A n c)) (fun _ _ hF=>bo rfl (hF.ev 4 rfl)) rfl (gOn 0 rfl rfl rfl (by decide)) (kA rfl) (by decide) ?_
 refine pxV (v:=(.slice A 3 c)) (fun _ _ hF=>eY (h:=3) (e:=5) (sz:=1) rfl (by kernel_rfl) (by kernel_rfl) (hF.ev 0 rfl) rfl rfl (by omega)) rfl (gOn 1 rfl rfl rfl (by decide)) (kM [false,true,true,true,true,true] rfl rfl) (by decide) ?_
 refine pxS (v:=(.string (i5 (l.take 3)))) (fun w=>Vu af w A 3 c (l.take 3)) ((hH.vu hR (by decide) (Off.nil _ _)).head (m:=3) (by omega)) (fun _ _ hF hS=>nG (e:=5) rfl (by kernel_rfl) (by kernel_rfl) (by kernel_rfl) (hF.ev 0 rfl) hS) rfl (gOn 1 rfl rfl rfl (by decide)) (kM [false,true,true,true,true,true] rfl rfl) (by decide) ?_
 refine pxV (v:=(.bool (decide ((l.take 3)≠[6,33,6])))) (fun _ _ hF=>ya (l:=(l.take 3)) (m:=[6,33,6]) rfl (hF.ev 0 rfl) rfl Iff.rfl) rfl (gOn 1 rfl rfl rfl (by decide)) (kM [false,true,true,true,true,true] rfl rfl) (by decide) ?_
 refine zv (v:=(.bool (decide ((l.take 3)≠[6,33,6])))) (fun _ _ hF=>cv rfl (hF.ev 1 rfl) (hF.ev 0 rfl)) 3 ?_
 refine zv .mv 1 ?_
 refine eI 0 rfl (l1:=[(21,(.bool true)),(6,(.pointer (some ⟨g3,0,none⟩))),(5,(.pointer (some ⟨g2,0,none⟩))),(4,(.pointer (some ⟨g1,0,none⟩))),(0,(.slice A n c))]) (l2:=[(21,(.bool false)),(6,(.pointer (some ⟨g3,0,none⟩))),(5,(.pointer (some ⟨g2,0,none⟩))),(4,(.pointer (some ⟨g1,0,none⟩))),(0,(.slice A n c))]) rfl rfl (fun hg5 => ?_) (fun hg5 => ?_)
 refine pxU rfl (cW 0 rfl rfl rfl (by decide)) (kA rfl) (by decide) ?_
 refine pxU rfl (cW 0 rfl rfl rfl (by decide)) (kA rfl) (by decide) ?_
 refine pxU rfl (cW 0 rfl rfl rfl (by decide)) (kA rfl) (by decide) ?_
 refine pxU rfl (cW 0 rfl rfl rfl (by decide)) (kA rfl) (by decide) ?_
 refine zv (v:=(.bool true)) (fun _ _ hF=>cB rfl (hF.ev 0 rfl) rfl) 1 ?_
 refine zv .mv 1 ?_
 refine pxU rfl (cW 0 rfl rfl rfl (by decide)) (kA rfl) (by decide) ?_
 refine pxU rfl (cW 0 rfl rfl rfl (by decide)) (kA rfl) (by decide) ?_
 refine pxU rfl (cW 0 rfl rfl rfl (by decide)) (kA rfl) (by decide) ?_
 refine pxU rfl (cW 0 rfl rfl rfl (by decide)) (kA rfl) (by decide) ?_
 refine zv (v:=(.bool true)) (fun _ _ hF=>cB rfl (hF.ev 0 rfl) rfl) 1 ?_
 refine zn (zT ?_)
 refine zr (zv (v:=((ac 32).val (fun _=>0))) (fun _ _ hF=>aE (cells:=(ac 32).enc (fun _=>0)) (vals:=[]) rfl EvP.nil (by kernel_rfl) _) 29 ?_)
 refine zW 2 hH rfl (fun _=>0) ?_
 clear hH
 intro w hH
 refine zv .mv 1 ?_
 refine zn (ar (bj ?_))
 refine aX 1 0 (hH.blk 2 rfl) rfl rfl rfl (by kernel_rfl) (Cod.size _ _) (by kernel_rfl) ?_
 have hb:¬ isB l:=fun hb=>hg5 (jo hb).1
 have hv:opR l k.2 ct=(fun _=>0,2):=by unfold opR;rw[if_neg hb]
 exact ⟨by rw[hv];rfl,HH.toBelow hH⟩
 refine pxV (v:=(.slice A n c)) (fun _ _ hF=>bo rfl (hF.ev 4 rfl)) rfl (gOn 0 rfl rfl rfl (by decide)) (kA rfl) (by decide) ?_
 have hi6:35<n:=by omega
 obtain ⟨b7,off8,rfl,hL9,hb10,hR11⟩:=hR.blk (by decide) (Off.nil _ _) (by omega)
 have:=hR.cap
 have hj14:35<l.length:=by first | exact hi6 | (simp only[List.length_drop];omega) | (simp only[List.length_drop,List.length_take];omega) | omega
 obtain ⟨x12,hx13⟩:=ck l 35 hj14
 have hb15:=UInt8.toNat_lt x12
 refine pxV (v:=(.pointer (some ⟨b7,off8+35*1,none⟩))) (fun _ _ hF=>ig (i:=35) (e:=5) (sz:=1) rfl (by kernel_rfl) (by kernel_rfl) (hF.ev 0 rfl) rfl rfl hi6) rfl (gOn 1 rfl rfl rfl (by decide)) (kM [false,true,true,true,true,true] rfl rfl) (by decide) ?_
 refine pxS (v:=(.int .u8 x12.toNat)) (fun w=>HoldsL af w b7 off8 l) (hH.holdsL hL9 hb10 hR11) (fun _ _ hF hS=>my (C:=af) (y:=x12) rfl (hF.ev 0 rfl) (by kernel_rfl) (hS 35 _ hx13) rfl) rfl (gOn 1 rfl rfl rfl (by decide)) (kM [false,true,true,true,true,true] rfl rfl) (by decide) ?_
 refine pxV (v:=(.bool (decide (x12.toNat≠25)))) (fun _ _ hF=>ic rfl (hF.ev 0 rfl) rfl (dc (by omega))) rfl (gOn 1 rfl rfl rfl (by decide)) (kM [false,true,true,true,true,true] rfl rfl) (by decide) ?_
 refine zv (v:=(.bool (decide (x12.toNat≠25)))) (fun _ _ hF=>cv rfl (hF.ev 1 rfl) (hF.ev 0 rfl)) 3 ?_
 refine zv .mv 1 ?_
 refine eI 0 rfl (l1:=[(27,(.bool true)),(6,(.pointer (some ⟨g3,0,none⟩))),(5,(.pointer (some ⟨g2,0,none⟩))),(4,(.pointer (some ⟨g1,0,none⟩))),(0,(.slice (some ⟨b7,off8,none⟩) n c))]) (l2:=[(27,(.bool false)),(6,(.pointer (some ⟨g3,0,none⟩))),(5,(.pointer (some ⟨g2,0,none⟩))),(4,(.pointer (some ⟨g1,0,none⟩))),(0,(.slice (some ⟨b7,off8,none⟩) n c))]) rfl rfl (fun hg16 => ?_) (fun hg16 => ?_)
 refine pxU rfl (cW 0 rfl rfl rfl (by decide)) (kA rfl) (by decide) ?_
 refine pxU rfl (cW 0 rfl rfl rfl (by decide)) (kA rfl) (by decide) ?_
 refine pxU rfl (cW 0 rfl rfl rfl (by decide)) (kA rfl) (by decide) ?_
 refine pxU rfl (cW 0 rfl rfl rfl (by decide)) (kA rfl) (by decide) ?_
 refine zv (v:=(.bool true)) (fun _ _ hF=>cB rfl (hF.ev 0 rfl) rfl) 1 ?_
 refine zn (zT ?_)
 refine zr (zv (v:=((ac 32).val (fun _=>0))) (fun _ _ hF=>aE (cells:=(ac 32).enc (fun _=>0)) (vals:=[]) rfl EvP.nil (by kernel_rfl) _) 29 ?_)
 refine zW 2 hH rfl (fun _=>0) ?_
 clear hH
 intro w hH
 refine zv .mv 1 ?_
 refine zn (ar (bj ?_))
 refine aX 1 0 (hH.blk 2 rfl) rfl rfl rfl (by kernel_rfl) (Cod.size _ _) (by kernel_rfl) ?_
 have hb:¬ isB l:=fun hb=>hg16 (by have:=(jo hb).2.1;rw[hx13]at this;rw[Option.some.inj this];rfl)
 have hv:opR l k.2 ct=(fun _=>0,2):=by unfold opR;rw[if_neg hb]
 exact ⟨by rw[hv];rfl,HH.toBelow hH⟩
 refine pxV (v:=(.slice (some ⟨b7,off8,none⟩) n c)) (fun _ _ hF=>bo rfl (hF.ev 4 rfl)) rfl (gOn 0 rfl rfl rfl (by decide)) (kA rfl) (by decide) ?_
 have hi17:68<n:=by omega
 have hj20:68<l.length:=by first | exact hi17 | (simp only[List.length_drop];omega) | (simp only[List.length_drop,List.length_take];omega) | omega
 obtain ⟨x18,hx19⟩:=ck l 68 hj20
 have hb21:=UInt8.toNat_lt x18
 refine pxV (v:=(.pointer (some ⟨b7,off8+68*1,none⟩))) (fun _ _ hF=>ig (i:=68) (e:=5) (sz:=1) rfl (by kernel_rfl) (by kernel_rfl) (hF.ev 0 rfl) rfl rfl hi17) rfl (gOn 1 rfl rfl rfl (by decide)) (kM [false,true,true,true,true,true] rfl rfl) (by decide) ?_
 refine pxS (v:=(.int .u8 x18.toNat)) (fun w=>HoldsL af w b7 off8 l) (hH.holdsL hL9 hb10 hR11) (fun _ _ hF hS=>my (C:=af) (y:=x18) rfl (hF.ev 0 rfl) (by kernel_rfl) (hS 68 _ hx19) rfl) rfl (gOn 1 rfl rfl rfl (by decide)) (kM [false,true,true,true,true,true] rfl rfl) (by decide) ?_
 refine pxV (v:=(.bool (decide (x18.toNat≠40)))) (fun _ _ hF=>ic rfl (hF.ev 0 rfl) rfl (dc (by omega))) rfl (gOn 1 rfl rfl rfl (by decide)) (kM [false,true,true,true,true,true] rfl rfl) (by decide) ?_
 refine zv (v:=(.bool (decide (x18.toNat≠40)))) (fun _ _ hF=>cv rfl (hF.ev 1 rfl) (hF.ev 0 rfl)) 3 ?_
 refine zn ?_
 refine zP (fun hc22 => ?_) (fun hc22 => ?_)
 refine zr (zv (v:=((ac 32).val (fun _=>0))) (fun _ _ hF=>aE (cells:=(ac 32).enc (fun _=>0)) (vals:=[]) rfl EvP.nil (by kernel_rfl) _) 29 ?_)
 refine zW 2 hH rfl (fun _=>0) ?_
 clear hH
 intro w hH
 refine zv .mv 1 ?_
 refine zn (ar (bj ?_))
 refine aX 1 0 (hH.blk 2 rfl) rfl rfl rfl (by kernel_rfl) (Cod.size _ _) (by kernel_rfl) ?_
 have hb:¬ isB l:=fun hb=>hc22 (by have:=(jo hb).2.2;rw[hx19]at this;rw[Option.some.inj this];rfl)
 have hv:opR l k.2 ct=(fun _=>0,2):=by unfold opR;rw[if_neg hb]
 exact ⟨by rw[hv];rfl,HH.toBelow hH⟩
 refine aA (ag (aj (zx ?_)))
 replace hH:=hH.drew
 refine rv 0 .mv 1 ?_
 refine rv 1 (v:=(.slice (et (some ⟨b7,off8,none⟩) c 3 1) (35-3) (c-3))) (fun _ _ hF=>jQ (k:=3) (h:=35) (e:=5) (sz:=1) rfl (by kernel_rfl) (by kernel_rfl) (hF.ev 0 rfl) rfl rfl rfl rfl (by omega) (by omega)) 1 ?_
 refine rld 2 (S:=fun w=>Vu af w (et (some ⟨b7,off8,none⟩) c 3 1) (35-3) (c-3) ((l.take 35).drop 3)) ((hH.vu hR (by decide) (Off.nil _ _)).cut (k:=3) (m:=35) (by omega) (by omega)) (v:=(.string (i5 ((l.take 35).drop 3)))) (fun _ _ hF hS=>nG (e:=5) rfl (by kernel_rfl) (by kernel_rfl) (by kernel_rfl) (hF.ev 0 rfl) hS) 1 ?_
 refine rv 3 (.fld 65) 4 ?_
 have hi23:1<2:=by omega
 refine rv 4 (.ia 32 2 1 (hi:=hi23)) 1 ?_
 refine rv 5 (v:=(.slice (some ⟨g2,65+1*32,none⟩) 32 32)) (fun _ _ hF=>aV (n:=32) (e:=5) (sz:=1) rfl (by kernel_rfl) (by kernel_rfl) (hF.ev 0 rfl)) 1 ?_
 refine rld 6 (S:=fun w=>Vu af w (some ⟨g2,65+1*32,none⟩) 32 32 (lst 32 (fun q9=>ct.2.2.2 (32*1+q9)))) (dx (Holds.row ((((ae (hH.blk 1 rfl)).snd).snd).snd) 1 32 (by omega))) (v:=(.string (i5 (lst 32 (fun q9=>ct.2.2.2 (32*1+q9)))))) (fun _ _ hF hS=>nG (e:=5) rfl (by kernel_rfl) (by kernel_rfl) (by kernel_rfl) (hF.ev 0 rfl) hS) 1 ?_
 refine rv 7 (v:=(.bool (decide (¬ lst 32 (cutF l 3)=lst 32 (pr1 ct))))) (fun _ _ hF=>ya (l:=((l.take 35).drop 3)) (m:=(lst 32 (fun q9=>ct.2.2.2 (32*1+q9)))) rfl (hF.ev 1 rfl) (hF.ev 0 rfl) (by rw[show (l.take 35).drop 3=lst 32 (cutF l 3) from vq (k:=3) (n:=32) (by omega)];exact Iff.rfl)) 3 ?_
 refine rn ?_
 refine zP (fun hc24 => ?_) (fun hc24 => ?_)
 refine zr (zv (v:=((ac 32).val (fun _=>0))) (fun _ _ hF=>aE (cells:=(ac 32).enc (fun _=>0)) (vals:=[]) rfl EvP.nil (by kernel_rfl) _) 13 ?_)
 refine zW 2 hH rfl (fun _=>0) ?_
 clear hH
 intro w hH
 refine zv .mv 1 ?_
 refine zn (ar (bj ?_))
 refine aX 1 0 (hH.blk 2 rfl) rfl rfl rfl (by kernel_rfl) (Cod.size _ _) (by kernel_rfl) ?_
 have hb:isB l:=nj (by omega) (Decidable.not_not.1 hg5) hx13 (Decidable.not_not.1 hg16) hx19 (Decidable.not_not.1 hc22)
 have hv:opR l k.2 ct=(fun _=>0,3):=by unfold opR;rw[if_pos hb,if_neg hc24]
 exact ⟨by rw[hv];rfl,HH.toBelow hH⟩
 refine aA (ag (zr (zv .mv 1 ?_)))
 refine zv (v:=(.slice (some ⟨b7,off8+36*1,none⟩) (68-36) (c-36))) (fun _ _ hF=>mA (k:=36) (h:=68) (e:=5) (sz:=1) rfl (by kernel_rfl) (by kernel_rfl) (hF.ev 0 rfl) rfl rfl rfl rfl (by omega) (by omega) (by omega)) 1 ?_
 refine zv (v:=(.pointer (some ⟨b7,off8+36*1,none⟩))) (fun _ _ hF=>bS (m:=32) (e:=5) rfl (by kernel_rfl) (hF.ev 0 rfl) (by omega)) 1 ?_
 refine zs (S:=fun w=>HoldsL af w b7 off8 l) (hH.holdsL hL9 hb10 hR11) (.ld (ac 32) (cutF ((l.take 68).drop 36) 0) (fun _ hS=>((hS.cut 36 68).arr 0 32 (by first | omega | (rw[ap];omega) | (simp only[List.length_drop,List.length_take];omega) | (simp only[List.length_drop,List.length_take,ap];omega))))) 1 ?_
 refine zA hH (ac 32) (fun _=>0) 0 ?_
 clear hH
 intro g25 w hH
 refine zW 3 hH rfl (cutF ((l.take 68).drop 36) 0) ?_
 clear hH
 intro w hH
 refine zn ?_
 have he26:(ac 32).enc (cutF l 36)=(ac 32).enc (cutF ((l.take 68).drop 36) 0):=aB (fun j hj=>(xG (n:=32) (by omega) hj).symm)
 replace hH:HH w0 [] [[bl g1 24 (cKy.enc k)],[bl g2 36 (cCe.enc ct)],[bl g3 22 ((ac 32).enc (fun _=>0))],[bl g25 22 ((ac 32).enc (cutF l 36))]] w:=by rw[he26];exact hH
 refine zr (zv (.fld 32) 2 ?_)
 refine zs (hH.q 0 rfl) (.ld (ac 32) k.2 (fun _ hS=>(ae hS).snd)) 1 ?_
 refine zs (hH.q 3 rfl) (.l0 (ac 32) (cutF l 36)) 0 ?_
 refine zc Tryz.func20 (mt k.2 (cutF l 36)) trivial hH 3 ?_
 clear hH
 intro w hH
 refine zv .mv 1 ?_
 refine zv .ext 0 ?_
 refine zv .ext 2 ?_
 refine zA hH (ac 32) (fun _=>0) 0 ?_
 clear hH
 intro g27 w hH
 refine zW 4 hH rfl (xMulB k.2 (cutF l 36)) ?_
 clear hH
 intro w hH
 refine zv .mv 6 ?_
 refine zn (aj (zr (zv .mv 0 ?_)))
 refine zv (.ne (shE (xMulB k.2 (cutF l 36))≠0)) 1 ?_
 refine zn ?_
 refine zP (fun hc28 => ?_) (fun hc28 => ?_)
 refine zr (zv (v:=((ac 32).val (fun _=>0))) (fun _ _ hF=>aE (cells:=(ac 32).enc (fun _=>0)) (vals:=[]) rfl EvP.nil (by kernel_rfl) _) 109 ?_)
 refine zv .mv 2 ?_
 refine zW 2 hH rfl (fun _=>0) ?_
 clear hH
 intro w hH
 refine zv .mv 3 ?_
 refine zn (ar (bj ?_))
 refine aX 1 0 (hH.blk 2 rfl) rfl rfl rfl (by kernel_rfl) (Cod.size _ _) (by kernel_rfl) ?_
 have hb:isB l:=nj (by omega) (Decidable.not_not.1 hg5) hx13 (Decidable.not_not.1 hg16) hx19 (Decidable.not_not.1 hc22)
 have hv:opR l k.2 ct=(fun _=>0,2):=by unfold opR;rw[if_pos hb,if_pos (Decidable.not_not.1 hc24),if_neg hc28]
 rw[yC hc28]
 exact ⟨by rw[hv];rfl,HH.toBelow hH⟩
 refine aA (ag ?_)
 have hdl:(l.drop 69).length=n-69:=by rw[List.length_drop];omega
 rcases Decidable.em (unE (kekL (cutF l 36) (xPub k.2) (xMulB k.2 (cutF l 36))) (l.drop 69)=0) with hu | hu
 refine zx ?_
 replace hH:=hH.drew
 refine rld 0 (hH.q 3 rfl) (.l0 (ac 32) (cutF l 36)) 9 ?_
 refine rv 1 (.fld 32) 16 ?_
 refine rld 2 (hH.q 0 rfl) (.ld (ac 32) k.2 (fun _ hS=>(ae hS).snd)) 1 ?_
 refine rld 4 (hH.q 4 rfl) (.l0 (ac 32) (xMulB k.2 (cutF l 36))) 8 ?_
 refine rv 6 .mv 32 ?_
 refine rv 7 (v:=(.slice (some ⟨b7,off8+69*1,none⟩) (n-69) (c-69))) (fun _ _ hF=>eu (k:=69) (e:=5) (sz:=1) rfl (by kernel_rfl) (by kernel_rfl) (hF.ev 0 rfl) rfl rfl (by omega) (by omega)) 1 ?_
 refine ao 3 (rpc 3 Tryz.func21 (jn k.2) trivial hH 4 (.keep (pgo [] (.keep (.nil _ [])))) ?_)
 clear hH
 intro w hH
 refine ⟨am (hH.blk 4 rfl) (am (hH.blk 3 rfl) an),?_⟩
 refine ao 5 ?_
 refine rm 5 hH (.call Tryz.func23 ((pc (cutF l 36) (xPub k.2) (xMulB k.2 (cutF l 36))))) trivial 13 (pgo [] (pgo [] (.nil _ []))) ?_
 clear hH
 rintro v33 E29 w hO30 hH
 obtain ⟨A31,c32,rfl⟩:=hO30.slice
 refine ⟨an,ao 8 ?_⟩
 refine rm 8 hH (.call Tryz.func30 (pW A31 ((kekL (cutF l 36) (xPub k.2) (xMulB k.2 (cutF l 36))).length) c32 (kekL (cutF l 36) (xPub k.2) (xMulB k.2 (cutF l 36))) rfl (.inl (eL _ _ _)) (some ⟨b7,off8+69*1,none⟩) (n-69) (c-69) (l.drop 69) hdl (by omega) (by omega) hu)) (⟨(hO30.vuAt (hH.has 5 rfl)),(bu (sz:=1) (b:=b7) (off:=off8) (c:=c) (k:=69) (by omega)▸((hH.vu hR (by decide) (Off.nil _ _)).from (k:=69) (by omega)))⟩) 3 (.nil _ []) ?_
 clear hH
 rintro _ _ w ⟨g35,cap36,cur37,o38,rfl,rfl,hB39,hol,hod⟩ hH
 refine ⟨an,rv 9 .mv 1 ?_⟩
 refine rv 10 .ext 0 ?_
 refine rv 11 .ext 2 ?_
 refine rv 12 .mv 2 ?_
 refine rv 13 .mv 6 ?_
 refine rn ?_
 refine aj (zr (zv .mv 0 ?_))
 refine zv (v:=(.bool false)) (fun _ _ hF=>ic rfl (hF.ev 0 rfl) rfl (by decide)) 1 ?_
 refine zn (zF ?_)
 refine aA (ag (zr (zv .mv 7 ?_)))
 refine zv (v:=(.pointer (some ⟨g35,0+8*1,none⟩))) (fun _ _ hF=>bS (m:=32) (e:=5) rfl (by kernel_rfl) (hF.ev 0 rfl) (by omega)) 1 ?_
 refine zs (hH.q 6 rfl) (.ld (ac 32) (cutF o38 8) (fun _ hS=>((hB39.holdsL hS).arr 8 32 (by first | omega | (rw[ap];omega) | (simp only[List.length_drop,List.length_take];omega) | (simp only[List.length_drop,List.length_take,ap];omega))))) 1 ?_
 refine zW 2 hH rfl (cutF o38 8) ?_
 clear hH
 intro w hH
 refine zv .mv 1 ?_
 refine zn (ar (aX 1 0 (hH.blk 2 rfl) rfl rfl rfl (by kernel_rfl) (Cod.size _ _) (by kernel_rfl) ?_))
 have hb:isB l:=nj (by omega) (Decidable.not_not.1 hg5) hx13 (Decidable.not_not.1 hg16) hx19 (Decidable.not_not.1 hc22)
 have hv:opR l k.2 ct=(cutF o38 8,0):=by unfold opR;rw[if_pos hb,if_pos (Decidable.not_not.1 hc24),if_pos (Decidable.not_not.1 hc28),if_pos hu,← hod,vr]
 exact ⟨by rw[hv];rfl,HH.toBelow hH⟩
 refine zx ?_
 replace hH:=hH.drew
 refine rld 0 (hH.q 3 rfl) (.l0 (ac 32) (cutF l 36)) 9 ?_
 refine rv 1 (.fld 32) 16 ?_
 refine rld 2 (hH.q 0 rfl) (.ld (ac 32) k.2 (fun _ hS=>(ae hS).snd)) 1 ?_
 refine rld 4 (hH.q 4 rfl) (.l0 (ac 32) (xMulB k.2 (cutF l 36))) 8 ?_
 refine rv 6 .mv 32 ?_
 refine rv 7 (v:=(.slice (some ⟨b7,off8+69*1,none⟩) (n-69) (c-69))) (fun _ _ hF=>eu (k:=69) (e:=5) (sz:=1) rfl (by kernel_rfl) (by kernel_rfl) (hF.ev 0 rfl) rfl rfl (by omega) (by omega)) 1 ?_
 refine ao 3 (rpc 3 Tryz.func21 (jn k.2) trivial hH 4 (.keep (pgo [] (.keep (.nil _ [])))) ?_)
 clear hH
 intro w hH
 refine ⟨am (hH.blk 4 rfl) (am (hH.blk 3 rfl) an),?_⟩
 refine ao 5 ?_
 refine rm 5 hH (.call Tryz.func23 ((pc (cutF l 36) (xPub k.2) (xMulB k.2 (cutF l 36))))) trivial 13 (pgo [] (pgo [] (.nil _ []))) ?_
 clear hH
 rintro v44 E40 w hO41 hH
 obtain ⟨A42,c43,rfl⟩:=hO41.slice
 refine ⟨an,ao 8 ?_⟩
 refine rm 8 hH (.call Tryz.func30 (oL A42 ((kekL (cutF l 36) (xPub k.2) (xMulB k.2 (cutF l 36))).length) c43 (kekL (cutF l 36) (xPub k.2) (xMulB k.2 (cutF l 36))) rfl (.inl (eL _ _ _)) (some ⟨b7,off8+69*1,none⟩) (n-69) (c-69) (l.drop 69) hdl (by omega) (by omega) hu)) (⟨(hO41.vuAt (hH.has 5 rfl)),(bu (sz:=1) (b:=b7) (off:=off8) (c:=c) (k:=69) (by omega)▸((hH.vu hR (by decide) (Off.nil _ _)).from (k:=69) (by omega)))⟩) 3 (.nil _ []) ?_
 clear hH
 rintro _ _ w ⟨rfl,rfl⟩ hH
 refine ⟨an,rv 9 .mv 1 ?_⟩
 refine rv 10 .ext 0 ?_
 refine rv 11 .ext 2 ?_
 refine rv 12 .mv 2 ?_
 refine rv 13 .mv 6 ?_
 refine rn ?_
 refine aj (zr (zv .mv 0 ?_))
 refine zv (v:=(.bool true)) (fun _ _ hF=>ic rfl (hF.ev 0 rfl) rfl (by decide)) 1 ?_
 refine zn (zT ?_)
 refine zr (zv (v:=((ac 32).val (fun _=>0))) (fun _ _ hF=>aE (cells:=(ac 32).enc (fun _=>0)) (vals:=[]) rfl EvP.nil (by kernel_rfl) _) 5 ?_)
 refine zv .mv 2 ?_
 refine zW 2 hH rfl (fun _=>0) ?_
 clear hH
 intro w hH
 refine zv .mv 3 ?_
 refine zn (ar (bj ?_))
 refine aX 1 0 (hH.blk 2 rfl) rfl rfl rfl (by kernel_rfl) (Cod.size _ _) (by kernel_rfl) ?_
 have hb:isB l:=nj (by omega) (Decidable.not_not.1 hg5) hx13 (Decidable.not_not.1 hg16) hx19 (Decidable.not_not.1 hc22)
 have hv:opR l k.2 ct=(fun _=>0,5):=by unfold opR;rw[if_pos hb,if_pos (Decidable.not_not.1 hc24),if_pos (Decidable.not_not.1 hc28),if_neg hu]
 exact ⟨by rw[hv];rfl,HH.toBelow hH⟩
theorem jp{Q:UInt8→Prop}(h:∀ n:Fin 256,Q (UInt8.ofNat n.val))(x:UInt8):Q x:=by
 have:=h ⟨x.toNat,x.toNat_lt⟩
 rwa [UInt8.ofNat_toNat]at this
theorem AA(b:Nat→UInt8)(j:Nat)(hj:j<256):(b (j/8)).toNat/2^(j%8)%2=lv b 32/2^j%2:=by
 have h:=n0 b 32 (j/8) (by omega)
 rw[← h,dX]
 have e:(2:Nat)^j=256^(j/8)*2^(j%8):=by
  rw[show (256:Nat)=2^8 from rfl,← Nat.pow_mul,← Nat.pow_add]
  congr 1;omega
 rw[e,← Nat.div_div_eq_div_mul]
 generalize lv b 32/256^(j/8)=v
 have hr:j%8<8:=Nat.mod_lt _ (by decide)
 generalize j%8=r at *
 have e2:(256:Nat)=2^r*(2*2^(7-r)):=by
  rw[show (256:Nat)=2^8 from rfl,← Nat.pow_succ',← Nat.pow_add]
  congr 1;omega
 rw[e2,Nat.mod_mul_right_div_self,Nat.mod_mul_right_mod]
theorem xI(b:Nat→UInt8)(j:Nat)(hj:j<256):(bitB b j).toNat=lv b 32/2^j%2:=by
 rw[← AA b j hj]
 unfold bitB
 rw[UInt8.toNat_and,show (1:UInt8).toNat=1 from rfl,Nat.and_one_is_mod,qs]
theorem Cg:toF 121665=aF:=by decide +kernel
theorem yE(a:Nat×Nat):tP (dD a.1 a.2)=jL aF (tP a).1 (tP a).2:=by
 unfold tP dD jL
 simp only[fi,mV,mW,Cg]
theorem yF(x:Nat)(a b:Nat×Nat):tP (dA x a.1 a.2 b.1 b.2)=jM (toF x) (tP a).1 (tP a).2 (tP b).1 (tP b).2:=by
 unfold tP dA jM
 simp only[fi,mV,mW]
theorem rO(n:Nat→UInt8)(x:Nat):∀ i,i≤255→(tP (dLad n x i).1,tP (dLad n x i).2)=ladTo aF (toF x) 255 (lv n 32) i
 | 0,_=>by
  show (tP (1,0),tP (x,1))=((1,0),(toF x,1))
  unfold tP
  rw[pE,qX]
 | i+1,hi=>by
  have ih:=rO n x i (by omega)
  have hb:=xI n (254-i) (by omega)
  show (tP (fT x (bitB n (254-i)) (dLad n x i)).1,tP (fT x (bitB n (254-i)) (dLad n x i)).2)=di aF (toF x) (lv n 32/2^(255-(i+1))%2 == 1) (ladTo aF (toF x) 255 (lv n 32) i)
  rw[← ih,show 255-(i+1)=254-i by omega,← hb]
  generalize bitB n (254-i)=t
  generalize dLad n x i=S
  unfold fT di
  by_cases h:t.toNat=1
  ·rw[if_pos h,if_pos (by simpa using h)]
   exact Prod.ext (yF x S.2 S.1) (yE S.2)
  ·rw[if_neg h,if_neg (by simpa using h)]
   exact Prod.ext (yE S.1) (yF x S.1 S.2)
def kX(s:Nat→UInt8):Nat:=lv (dNm s) 32
def mX(u:Nat→UInt8):Fin pF:=nF (dPt u)
theorem vt(s u:Nat→UInt8):eQ s u=bF (xmul (kX s) (mX u)):=by
 have h:=rO (dNm s) (lv (dPt u) 32) 255 (Nat.le_refl _)
 unfold eQ xmul eN kX mX nF
 generalize dLad (dNm s) (lv (dPt u) 32) 255=D at h ⊢
 generalize ladTo aF (toF (lv (dPt u) 32)) 255 (lv (dNm s) 32) 255=E at h ⊢
 subst h
 rw[← kP,fi,qU]
 rfl
theorem oN(b:Nat→UInt8):∀ m,lv b (m+1)%8=(b 0).toNat%8
 | 0=>by show (lv b 0+(b 0).toNat*256^0)%8=_;simp[lv]
 | m+1=>by
  show (lv b (m+1)+(b (m+1)).toNat*256^(m+1))%8=_
  have h:(b (m+1)).toNat*256^(m+1)=8*((b (m+1)).toNat*256^m*32):=by rw[Nat.pow_succ];generalize 256^m=x;generalize (b (m+1)).toNat=y;rw[← Nat.mul_assoc,Nat.mul_comm 8,Nat.mul_assoc _ 32 8]
  rw[h,Nat.add_mul_mod_self_left,oN b m]
theorem Ci(s:Nat→UInt8):(dNm s 0).toNat%8=0:=by
 show (s 0&&&248).toNat%8=0
 exact jp (Q:=fun x=>(x&&&248).toNat%8=0) (by decide +kernel) (s 0)
theorem AB(s:Nat→UInt8):64≤(dNm s 31).toNat∧(dNm s 31).toNat<128:=by
 show 64≤((s 31&&&127)|||64).toNat∧((s 31&&&127)|||64).toNat<128
 exact jp (Q:=fun x=>64≤((x&&&127)|||64).toNat∧((x&&&127)|||64).toNat<128) (by decide +kernel) (s 31)
theorem oO(s:Nat→UInt8):∃ k,kX s=8*k∧0<k∧8*k<2^255:=by
 have h8:kX s%8=0:=by unfold kX;rw[oN];exact Ci s
 have e:kX s=lv (dNm s) 31+(dNm s 31).toNat*256^31:=rfl
 have hl:=gJ (dNm s) 31
 have ht:=AB s
 have hp:(256:Nat)^31=2^248:=by decide
 rw[hp]at e hl
 have h2:(2:Nat)^255=128*2^248:=by decide
 have hpos:0<(2:Nat)^248:=Nat.pow_pos (by decide)
 refine ⟨kX s/8,by omega,?_,?_⟩
 ·have h3:64*2^248≤(dNm s 31).toNat*2^248:=Nat.mul_le_mul_right _ ht.1
  have h4:(8:Nat)≤64*2^248:=by decide
  omega
 ·have h3:((dNm s 31).toNat+1)*2^248≤128*2^248:=Nat.mul_le_mul_right _ (by omega)
  rw[Nat.add_mul,Nat.one_mul]at h3
  omega
theorem tf(s t:Nat→UInt8):xmul (kX s) (xmul (kX t) nineF)≠0:=by
 obtain ⟨k,h1,h2,h3⟩:=oO s
 obtain ⟨l,h4,h5,h6⟩:=oO t
 rw[h1,h4]
 exact pl _ _ (by omega) (by omega) (lm k l h3 h6 h2 h5)
theorem Cj(x:Fin pF):mX (bF x)=x:=by
 unfold mX
 have h:∀ i,i<32→dPt (bF x) i=bF x i:=fun i hi=>by
  unfold dPt stF
  split
  ·rename_i e;subst e
   have hx:=x.isLt
   have hb:(bF x 31).toNat<128:=by
    show (aZ x.val 31).toNat<128
    rw[dX]
    have:x.val/256^31<128:=by
     refine (Nat.div_lt_iff_lt_mul (Nat.pow_pos (by decide))).2 (Nat.lt_trans hx (by decide))
    omega
   exact jp (Q:=fun x=>x.toNat<128→x&&&127=x) (by decide +kernel) (bF x 31) hb
  ·rfl
 rw[fC h,mc]
theorem xJ:mX fB=nineF:=by decide +kernel
theorem AC(s:Nat→UInt8):xPub s=bF (xmul (kX s) nineF):=by rw[ra,vt,xJ]
theorem xK(s t:Nat→UInt8):shE (xMulB s (xPub t))=0:=by
 rw[kV,vt,AC,Cj]
 have h:=tf s t
 generalize xmul (kX s) (xmul (kX t) nineF)=x at h
 unfold shE
 rw[if_neg fun h0=>h ?_]
 have h1:nF (bF x)=nF (fun _=>0):=fC fun i hi=>by
  have:=congrArg (fun l=>l[i]?) h0
  simp only[bB hi]at this
  exact Option.some.inj this
 rw[mc,qW]at h1
 exact h1
theorem rP(d s:Bt)(ct:Ct)(h:ct.2.2.1=xPub s):skE d ct=0:=by unfold skE;rw[h];exact xK d s
theorem rQ(S:Bt)(ct:Ct)(d:Bt)(h:skE d ct=0):(skL S ct d).length=109:=by
 unfold skL
 rw[if_pos h,tb,rH]
def dr1:Bt:=fun i=>if i=0 then 1 else 0
theorem AD  : Pure Tryz.prog 6 #[] (fun w=>w.heap[4]?=some (.cells ((cQs 80).enc K64) 159 (0,0))∧w.heap[1]?=some (.cells ((cQs 8).enc H64) 141 (0,0))∧w.heap[3]?=some (.cells ((cWs 64).enc K32) 119 (0,0))∧w.heap[2]?=some (.cells ((cWs 8).enc H32) 118 (0,0))∧w.heap[0]?=some (.cells ((ac 256).enc ah) 103 (0,0))) (.bool true):=by
 refine pU Tryz.func6 Tryz.ntmps6 ?_
 intro w0 hH hR
 refine zr (zv .mv 0 ?_)
 refine zn (zr (zv (v:=((ac 32).val (fun _=>0))) (fun _ _ hF=>aE (cells:=(ac 32).enc (fun _=>0)) (vals:=[]) rfl EvP.nil (by kernel_rfl) _) 1 ?_))
 refine zv (v:=(cKy.val (fun _=>0,fun _=>0))) (fun _ _ hF=>aE (cells:=cKy.enc (fun _=>0,fun _=>0)) (vals:=[]) rfl EvP.nil (by kernel_rfl) _) 0 ?_
 refine zc Tryz.func8 (w7 (fun _=>0,fun _=>0) 0) (⟨(hH.oldBlk hR.1 (by simp)),(hH.oldBlk hR.2.1 (by simp)),(hH.oldBlk hR.2.2.1 (by simp)),(hH.oldBlk hR.2.2.2.1 (by simp))⟩) hH 1 ?_
 clear hH
 intro w hH
 refine zv (v:=((ac 32).val dr1)) (fun _ _ hF=>aE (cells:=(ac 32).enc dr1) (vals:=[(0,(.int .u8 1))]) rfl (EvP.cons (v:=(.int .u8 1)) rfl EvP.nil) (by kernel_rfl) _) 0 ?_
 refine zm hH (.call Tryz.func7 (Aw (fun _=>0) (bd sha 0 (iO (fun _=>0)) (xPub (fun _=>0))) dr1)) (⟨(hH.oldBlk hR.2.2.1 (by simp)),(hH.oldBlk hR.2.2.2.1 (by simp)),(hH.oldBlk hR.2.2.2.2 (by simp))⟩) 7 ?_
 clear hH
 rintro _ E1 w ⟨s5,rfl,hO2⟩ hH
 obtain ⟨A3,c4,rfl⟩:=hO2.slice
 refine zv .mv 1 ?_
 refine zv .ext 0 ?_
 refine zv .ext 2 ?_
 refine zv .mv 2 ?_
 refine zv .mv 2 ?_
 refine zn ?_
 have hsk:skE dr1 (bd sha 0 (iO (fun _=>0)) (xPub (fun _=>0)))=0:=rP _ _ _ rfl
 have hsl:=rQ (fun _=>0) (bd sha 0 (iO (fun _=>0)) (xPub (fun _=>0))) dr1 hsk
 refine zr (zv .mv 1 ?_)
 refine zv (v:=(.bool true)) (fun _ _ hF=>fN rfl (hF.ev 0 rfl) rfl (decide_eq_true (by rw[hsk];rfl))) 1 ?_
 refine zv .mv 1 ?_
 refine pxV (v:=(.slice A3 ((skL (fun _=>0) (bd sha 0 (iO (fun _=>0)) (xPub (fun _=>0))) dr1).length) c4)) (fun _ _ hF=>bo rfl (hF.ev 1 rfl)) rfl (gOn 0 rfl rfl rfl (by decide)) (kM [true,false] rfl rfl) (by decide) ?_
 refine pxV (v:=(.int .i64 ((((skL (fun _=>0) (bd sha 0 (iO (fun _=>0)) (xPub (fun _=>0))) dr1).length):Nat):Int))) (fun _ _ hF=>fj (e:=5) rfl (by kernel_rfl) (hF.ev 0 rfl)) rfl (gOn 1 rfl rfl rfl (by decide)) (kM [false,true] rfl rfl) (by decide) ?_
 refine pxV (v:=(.bool true)) (fun _ _ hF=>fN rfl (hF.ev 0 rfl) rfl (decide_eq_true (by rw[hsl];rfl))) rfl (gOn 1 rfl rfl rfl (by decide)) (kM [false,true] rfl rfl) (by decide) ?_
 refine zv (v:=(.bool true)) (fun _ _ hF=>cB rfl (hF.ev 1 rfl) (hF.ev 0 rfl)) 3 ?_
 refine zv .mv 1 ?_
 refine zn (ar (aW 0 rfl rfl ?_))
 exact zE hH
theorem lg{P:Program}{e:TypeId}(d n:Nat)(he:P.underlying e=some (.int .u64))(f g:Nat→Nat):∀ (l:List Nat) (w:World),(∀ i∈l,i<n)→(Op.eqItems (d+1) e 1 (sNt.row n f) (sNt.row n g) l).run P w=.ok (l.all fun i=>f i == g i) w
 | [],w,_=>by simp[Op.eqItems]
 | i::l,w,h=>by
  have hi:=h i (by simp)
  have h1:(sNt.row n f)[i]?=some (.int .u64 (f i:Int)):=iq sNt f hi
  have h2:(sNt.row n g)[i]?=some (.int .u64 (g i:Int)):=iq sNt g hi
  have ih:=lg d n he f g l w (fun j hj=>h j (by simp[hj]))
  have p1:(part e (sNt.row n f) (i*1)).run P w=.ok (.int .u64 (f i:Int)) w:=by simp[part,isAgg,run_underlying he,h1]
  have p2:(part e (sNt.row n g) (i*1)).run P w=.ok (.int .u64 (g i:Int)) w:=by simp[part,isAgg,run_underlying he,h2]
  have p3:(Op.equalIn (d+1) e (.int .u64 (f i:Int)) (.int .u64 (g i:Int))).run P w=.ok (f i == g i) w:=by
   have e2:((f i:Int) == (g i:Int))=(f i == g i):=by
    rw[Bool.eq_iff_iff]
    simp
    omega
   simp[Op.equalIn,run_underlying he,e2]
  simp only[Op.eqItems,Sem.run_bind,p1,p2,p3,Result.andThen_ok,List.all_cons]
  cases f i == g i
  ·simp
  ·simpa using ih
theorem vv{P:Program}{a:Act}{o:Oper}{x y:Operand}{t t2 e:TypeId}{n:Nat}{f g:Nat→Nat}{w:World}{p:Prop}[Decidable p](ho:o.op=.binOp .eql t x y t2)(hu:P.underlying t=some (.array n e))(he:P.underlying e=some (.int .u64))(hs:(P.info? e).map (·.size)=some 1)(hx:a.eval x=(cNs n).val f)(hy:a.eval y=(cNs n).val g)(hq:P.eqGuardType P.depth t=false)(hb:(∀ i,i<n→f i=g i)↔p):(execOp a.eval o).run P w=.ok (.value (.bool (decide p))) w:=by
 obtain ⟨i,hi,hsz⟩:=Option.map_eq_some_iff.1 hs
 have h:=run_equalIn_array (P:=P) (w:=w) 9999 (sNt.row n f) (sNt.row n g) hu hi
 have hc:P.cellsOf e=1:=by simp[Program.cellsOf,hi,hsz]
 rw[hc,lg 9998 n he f g _ w (fun j hj=>List.mem_range.1 hj)]at h
 have hd:((List.range n).all fun i=>f i == g i)=decide p:=by
  rw[Bool.eq_iff_iff,List.all_eq_true,decide_eq_true_iff,← hb]
  simp
 rw[hd]at h
 have h2:(binOp .eql t (.agg (sNt.row n f)) (.agg (sNt.row n g))).run P w=.ok (.bool (decide p)) w:=by
  have h3:(Op.equal t (.agg (sNt.row n f)) (.agg (sNt.row n g))).run P w=.ok (decide p) w:=h
  simp only[binOp,Sem.run_bind,h3,Result.andThen_ok,Sem.run_pure]
 unfold execOp
 simp only[ho,hx,hy]
 simp[Scal.vec,eqGuard,h2,hq]
theorem rR{a b:Nat}(ha:a<2^256)(hb:b<2^256):(∀ i,i<4→wd a i=wd b i)↔a=b:=by
 refine ⟨fun h => ?_,fun h _ _=>by rw[h]⟩
 have e3:a/2^(64*(3+1))=b/2^(64*(3+1)):=by rw[Nat.div_eq_of_lt ha,Nat.div_eq_of_lt hb]
 have e2:=oo e3 (h 3 (by decide))
 have e1:=oo (m:=2) e2 (h 2 (by decide))
 have e0:=oo (m:=1) e1 (h 1 (by decide))
 have:=oo (m:=0) e0 (h 0 (by decide))
 simpa using this
def dN:Nat:=37095705934669439343138083508754565189542113879843219016388785533085940283555
def sqN:Nat:=19681161376707505956807079304988542015446066515923890162744021073123829784752
theorem fD:dN<2^256:=by decide
theorem vw:sqN<2^256:=by decide
def rtE:Nat:=7237005577332262213973186563042994240829374041602535252466099000494570602494
def rRt(a:Nat):Nat:=if tm (cG a rtE 256) (cG a rtE 256)%pN=a%pN then cG a rtE 256 else tm (cG a rtE 256) sqN
def rOk(a:Nat):Prop:=tm (rRt a) (rRt a)%pN=a%pN
instance (a:Nat):Decidable (rOk a):=by unfold rOk;infer_instance
theorem AE  : Pure Tryz.prog 126 #[] (fun _=>True) (rN dN):=by
 refine pU Tryz.func126 Tryz.ntmps126 ?_
 intro w0 hH hR
 refine zr (zA hH (cNs 4) (fun _=>0) 0 ?_)
 clear hH
 intro g1 w hH
 refine zn (zr (zv (v:=((cNs 4).val (wd dN))) (fun _ _ hF=>aE (cells:=(cNs 4).enc (wd dN)) (vals:=[(0,(.int .u64 8496970652267935907)),(1,(.int .u64 31536524315187371)),(2,(.int .u64 10144147576115030168)),(3,(.int .u64 5909686906226998899))]) rfl (EvP.cons (v:=(.int .u64 8496970652267935907)) rfl (EvP.cons (v:=(.int .u64 31536524315187371)) rfl (EvP.cons (v:=(.int .u64 10144147576115030168)) rfl (EvP.cons (v:=(.int .u64 5909686906226998899)) rfl EvP.nil)))) (by kernel_rfl) _) 0 ?_))
 refine zW 0 hH rfl (wd dN) ?_
 clear hH
 intro w hH
 refine zn (ar (aI 1 (hH.blk 0 rfl) rfl rfl (by kernel_rfl) (Cod.size _ _) (by kernel_rfl) ?_))
 exact zE hH
theorem Dh  : Pure Tryz.prog 155 #[] (fun _=>True) (rN sqN):=by
 refine pU Tryz.func155 Tryz.ntmps155 ?_
 intro w0 hH hR
 refine zr (zA hH (cNs 4) (fun _=>0) 0 ?_)
 clear hH
 intro g1 w hH
 refine zn (zr (zv (v:=((cNs 4).val (wd sqN))) (fun _ _ hF=>aE (cells:=(cNs 4).enc (wd sqN)) (vals:=[(0,(.int .u64 14190309331451158704)),(1,(.int .u64 3405592160176694392)),(2,(.int .u64 3120150775007532967)),(3,(.int .u64 3135389899092516619))]) rfl (EvP.cons (v:=(.int .u64 14190309331451158704)) rfl (EvP.cons (v:=(.int .u64 3405592160176694392)) rfl (EvP.cons (v:=(.int .u64 3120150775007532967)) rfl (EvP.cons (v:=(.int .u64 3135389899092516619)) rfl EvP.nil)))) (by kernel_rfl) _) 0 ?_))
 refine zW 0 hH rfl (wd sqN) ?_
 clear hH
 intro w hH
 refine zn (ar (aI 1 (hH.blk 0 rfl) rfl rfl (by kernel_rfl) (Cod.size _ _) (by kernel_rfl) ?_))
 exact zE hH
theorem rS(a b:Nat)(ha:a<2^256)(hb:b<2^256):Pure Tryz.prog 154 #[((cNs 4).val (wd a)),((cNs 4).val (wd b))] (fun _=>True) (.bool (decide (a%pN=b%pN))):=by
 refine pU Tryz.func154 Tryz.ntmps154 ?_
 intro w0 hH hR
 refine zr (zB hH (cNs 4) (wd a) 1 ?_)
 clear hH
 intro g1 w hH
 refine zB hH (cNs 4) (wd b) 2 ?_
 clear hH
 intro g2 w hH
 refine zv .mv 0 ?_
 refine zn (zx ?_)
 replace hH:=hH.drew
 refine rld 0 (hH.q 0 rfl) (.l0 (cNs 4) (wd a)) 4 ?_
 refine rld 2 (hH.q 1 rfl) (.l0 (cNs 4) (wd b)) 4 ?_
 refine ao 1 (rpc 1 Tryz.func119 (er a ha) trivial hH 2 (.keep (pgo [] (.nil _ []))) ?_)
 clear hH
 intro w hH
 refine ⟨am (hH.blk 1 rfl) an,?_⟩
 refine ao 3 (rpc 3 Tryz.func119 (er b hb) trivial hH 2 (pgo [] (.nil _ [])) ?_)
 clear hH
 intro w hH
 refine ⟨an,rv 4 (v:=(.bool (decide (a%pN=b%pN)))) (fun _ _ hF=>vv (n:=4) (e:=72) (f:=(wd (a%pN))) (g:=(wd (b%pN))) rfl (by kernel_rfl) (by kernel_rfl) (by kernel_rfl) (hF.ev 1 rfl) (hF.ev 0 rfl) (by kernel_rfl) (rR (Nat.lt_trans (Nat.mod_lt _ (by decide)) fR) (Nat.lt_trans (Nat.mod_lt _ (by decide)) fR))) 3 ?_⟩
 refine rv 5 .mv 3 ?_
 refine rn ?_
 refine ar (aW 0 rfl rfl ?_)
 exact zE hH
theorem AF(b:Nat→UInt8):Pure Tryz.prog 124 #[((ac 32).val b)] (fun _=>True) (.bool (decide (lv b 32<pN))):=by
 refine pU Tryz.func124 Tryz.ntmps124 ?_
 intro w0 hH hR
 refine zr (zB hH (ac 32) b 1 ?_)
 clear hH
 intro g1 w hH
 refine zv .mv 0 ?_
 refine zn (zr (zs (hH.q 0 rfl) (.l0 (ac 32) b) 3 ?_))
 refine zc Tryz.func71 (mS b) trivial hH 1 ?_
 clear hH
 intro w hH
 refine zm hH (.call Tryz.func118 (ux.does)) trivial 0 ?_
 clear hH
 rintro _ _ w ⟨rfl,rfl⟩ hH
 replace hH:HH w0 [] [[bl g1 22 ((ac 32).enc b)]] w:=hH.unpad
 refine zc Tryz.func153 (ot (lv b 32) pN (bI _) fR) trivial hH 3 ?_
 clear hH
 intro w hH
 refine zv .mv 1 ?_
 refine zn (ar (aW 0 rfl rfl ?_))
 exact zE hH
theorem xL(a:Nat)(ha:a<2^256):Pure Tryz.prog 125 #[((cNs 4).val (wd a))] (fun _=>True) (.tuple #[rN (rRt a%pN),.bool (decide (rOk a))]):=by
 refine pU Tryz.func125 Tryz.ntmps125 ?_
 intro w0 hH hR
 refine zr (zB hH (cNs 4) (wd a) 1 ?_)
 clear hH
 intro g1 w hH
 refine zA hH (cNs 4) (fun _=>0) 0 ?_
 clear hH
 intro g2 w hH
 refine zv .mv 0 ?_
 refine zn (zr (zs (hH.q 0 rfl) (.l0 (cNs 4) (wd a)) 1 ?_))
 refine zv (v:=((cNs 4).val (wd rtE))) (fun _ _ hF=>aE (cells:=(cNs 4).enc (wd rtE)) (vals:=[(0,(.int .u64 18446744073709551614)),(1,(.int .u64 18446744073709551615)),(2,(.int .u64 18446744073709551615)),(3,(.int .u64 1152921504606846975))]) rfl (EvP.cons (v:=(.int .u64 18446744073709551614)) rfl (EvP.cons (v:=(.int .u64 18446744073709551615)) rfl (EvP.cons (v:=(.int .u64 18446744073709551615)) rfl (EvP.cons (v:=(.int .u64 1152921504606846975)) rfl EvP.nil)))) (by kernel_rfl) _) 0 ?_
 refine zc Tryz.func121 (oy a rtE ha) trivial hH 3 ?_
 clear hH
 intro w hH
 refine zA hH (cNs 4) (fun _=>0) 0 ?_
 clear hH
 intro g3 w hH
 refine zW 2 hH rfl (wd (cG a rtE 256)) ?_
 clear hH
 intro w hH
 refine zn ?_
 refine gZ (σ:=Nat) (fun x=>[(4,(.pointer (some ⟨g3,0,none⟩))),(2,(.pointer (some ⟨g2,0,none⟩))),(1,(.pointer (some ⟨g1,0,none⟩)))]) (fun x w=>HH w0 [] [[bl g1 97 ((cNs 4).enc (wd a))],[bl g2 97 ((cNs 4).enc (fun _=>0))],[bl g3 97 ((cNs 4).enc (wd x))]] w∧(x=rRt a)∧(x<2^256)) ?_ ?_
 obtain ⟨x,hx,lx⟩:∃ x,x=cG a rtE 256∧x<2^256:=⟨_,rfl,fH ha _⟩
 replace hH:HH w0 [] [[bl g1 97 ((cNs 4).enc (wd a))],[bl g2 97 ((cNs 4).enc (fun _=>0))],[bl g3 97 ((cNs 4).enc (wd x))]] w:=by rw[hx];exact hH
 refine zx ?_
 replace hH:=hH.drew
 refine rld 0 (hH.q 2 rfl) (.l0 (cNs 4) (wd x)) 2 ?_
 refine rld 1 (hH.q 2 rfl) (.l0 (cNs 4) (wd x)) 0 ?_
 refine rld 3 (hH.q 0 rfl) (.l0 (cNs 4) (wd a)) 0 ?_
 refine ao 2 (rpc 2 Tryz.func75 (ba x x lx lx) trivial hH 6 (.keep (pgo [] (pgo [] (.nil _ [])))) ?_)
 clear hH
 intro w hH
 refine ⟨am (hH.blk 0 rfl) an,?_⟩
 refine ao 4 (rpc 4 Tryz.func154 (rS (tm x x) a (aY lx lx) ha) trivial hH 3 (pgo [] (.nil _ [])) ?_)
 clear hH
 intro w hH
 refine ⟨an,rv 5 (v:=(.bool (decide (¬ (tm x x%pN=a%pN))))) (fun _ _ hF=>ej rfl (hF.ev 0 rfl) decide_not.symm) 1 ?_⟩
 refine rn ?_
 refine zP (fun hc4 => ?_) (fun hc4 => ?_)
 refine br mixedOrders (by kernel_rfl) ?_
 replace hH:=hH.drew
 refine rld 0 (hH.q 2 rfl) (.l0 (cNs 4) (wd x)) 1 ?_
 refine ao 1 (rpc 1 Tryz.func155 (Dh) trivial hH 0 (.keep (.nil _ [])) ?_)
 clear hH
 intro w hH
 refine ⟨am (hH.blk 2 rfl) an,?_⟩
 refine ao 2 (rpc 2 Tryz.func75 (ba x sqN lx vw) trivial hH 3 (pgo [] (.nil _ [])) ?_)
 clear hH
 intro w hH
 refine ⟨an,ao 3 ?_⟩
 refine re0 3 2 hH rfl (.sw (cNs 4) (wd x) (wd (tm x sqN))) trivial (.nil _ []) ?_
 clear hH
 rintro _ _ w rfl hH
 refine ⟨an,bQ (by kernel_rfl) ?_⟩
 exact dw (tm x sqN) ⟨hH,(by unfold rRt;rw[if_neg (by rw[← hx];exact hc4),hx]),(aY lx vw)⟩ (bU [1,2,3] rfl)
 refine aA ?_
 exact dw x ⟨hH,(by unfold rRt;rw[if_pos (by rw[← hx];exact Decidable.not_not.1 hc4),hx]),lx⟩ (bU [1,2,3] rfl)
 clear hH
 rintro y w ⟨hH,hy,ly⟩
 change CX _ _ _ _ [(4,(.pointer (some ⟨g3,0,none⟩))),(2,(.pointer (some ⟨g2,0,none⟩))),(1,(.pointer (some ⟨g1,0,none⟩)))] _
 replace hH:HH w0 [] [[bl g1 97 ((cNs 4).enc (wd a))],[bl g2 97 ((cNs 4).enc (fun _=>0))],[bl g3 97 ((cNs 4).enc (wd y))]] w:=hH
 replace hy:y=rRt a:=hy
 replace ly:y<2^256:=ly
 refine zx ?_
 replace hH:=hH.drew
 refine rld 0 (hH.q 2 rfl) (.l0 (cNs 4) (wd y)) 0 ?_
 refine rld 2 (hH.q 2 rfl) (.l0 (cNs 4) (wd y)) 0 ?_
 refine rld 3 (hH.q 2 rfl) (.l0 (cNs 4) (wd y)) 4 ?_
 refine rld 5 (hH.q 0 rfl) (.l0 (cNs 4) (wd a)) 16 ?_
 refine ao 1 (rpc 1 Tryz.func119 (er y ly) trivial hH 8 (.keep (.keep (.keep (pgo [] (.nil _ []))))) ?_)
 clear hH
 intro w hH
 refine ⟨am (hH.blk 0 rfl) (am (hH.blk 2 rfl) (am (hH.blk 2 rfl) an)),?_⟩
 refine ao 4 (rpc 4 Tryz.func75 (ba y y ly ly) trivial hH 12 (.keep (pgo [] (pgo [] (.nil _ [])))) ?_)
 clear hH
 intro w hH
 refine ⟨am (hH.blk 0 rfl) an,?_⟩
 refine ao 6 (rpc 6 Tryz.func154 (rS (tm y y) a (aY ly ly) ha) trivial hH 5 (pgo [] (.nil _ [])) ?_)
 clear hH
 intro w hH
 refine ⟨an,ao 7 ?_⟩
 refine re0 7 1 hH rfl (.sw (cNs 4) (fun _=>0) (wd (y%pN))) trivial (.nil _ []) ?_
 clear hH
 rintro _ _ w rfl hH
 refine ⟨an,rv 8 .mv 3 ?_⟩
 refine rn ?_
 refine ar (aX 1 0 (hH.blk 1 rfl) rfl rfl rfl (by kernel_rfl) (Cod.size _ _) (by kernel_rfl) ?_)
 subst hy;exact zE hH
abbrev P4:=Nat×Nat×Nat×Nat
def PL(a:P4):Prop:=a.1<2^256∧a.2.1<2^256∧a.2.2.1<2^256∧a.2.2.2<2^256
abbrev cPt:=bn (cNs 4) (bn (cNs 4) (bn (cNs 4) (cNs 4)))
def Di(a b c d:Nat):P4:=(tm (nS b a) (nS d c),tm (nA d c) (nA b a),tm (nS d c) (nA d c),tm (nS b a) (nA b a))
def pSm(p q:P4):P4:=Di (tm (nS p.2.1 p.1) (nS q.2.1 q.1)) (tm (nA p.2.1 p.1) (nA q.2.1 q.1)) (tm (tm p.2.2.2 q.2.2.2) (nA dN dN)) (tm (nA p.2.2.1 p.2.2.1) q.2.2.1)
theorem np{p q:P4}(hp:PL p)(hq:PL q):PL (pSm p q):=by
 have ha:tm (nS p.2.1 p.1) (nS q.2.1 q.1)<2^256:=aY (cO hp.2.1) (cO hq.2.1)
 have hb:tm (nA p.2.1 p.1) (nA q.2.1 q.1)<2^256:=aY (cn hp.2.1 hp.1) (cn hq.2.1 hq.1)
 have hc:tm (tm p.2.2.2 q.2.2.2) (nA dN dN)<2^256:=aY (aY hp.2.2.2 hq.2.2.2) (cn fD fD)
 have hd:tm (nA p.2.2.1 p.2.2.1) q.2.2.1<2^256:=aY (cn hp.2.2.1 hp.2.2.1) hq.2.2.1
 exact ⟨aY (cO hb) (cO hd),aY (cn hd hc) (cn hb ha),aY (cO hd) (cn hd hc),aY (cO hb) (cn hb ha)⟩
def pNt:P4:=(0,1,1,0)
theorem AG:PL pNt:=⟨by decide,by decide,by decide,by decide⟩
def pOf(n:Nat→UInt8)(p:P4):Nat→P4
 | 0=>pNt
 | k+1=>if (bitB n (255-k)).toNat=1 then pSm (pSm (pOf n p k) (pOf n p k)) p else pSm (pOf n p k) (pOf n p k)
theorem jq{n:Nat→UInt8}{p:P4}(hp:PL p):∀ k,PL (pOf n p k)
 | 0=>AG
 | k+1=>by
  have h:=jq (n:=n) hp k
  unfold pOf
  split
  ·exact np (np h h) hp
  ·exact np h h
theorem oP{n:Nat→UInt8}{p:P4}{k:Nat}(hk:k<256):pOf n p (256-k)=if (bitB n k).toNat=1 then pSm (pSm (pOf n p (256-(k+1))) (pOf n p (256-(k+1)))) p else pSm (pOf n p (256-(k+1))) (pOf n p (256-(k+1))):=by
 have e1:256-k=(256-(k+1))+1:=by omega
 have e2:255-(256-(k+1))=k:=by omega
 rw[e1]
 show (if (bitB n (255-(256-(k+1)))).toNat=1 then _ else _)=_
 rw[e2]
def pEn(p:P4):Nat→UInt8:=stF (aZ (tm p.2.1 (riv p.2.2.1)%pN)) 31 (aZ (tm p.2.1 (riv p.2.2.1)%pN) 31|||sl8 (UInt8.ofNat (wd (tm p.1 (riv p.2.2.1)%pN) 0%2)) 7)
theorem AH  : Pure Tryz.prog 127 #[] (fun _=>True) (cPt.val (wd pNt.1,wd pNt.2.1,wd pNt.2.2.1,wd pNt.2.2.2)):=by
 refine pU Tryz.func127 Tryz.ntmps127 ?_
 intro w0 hH hR
 refine zr (zA hH cPt (fun _=>0,fun _=>0,fun _=>0,fun _=>0) 0 ?_)
 clear hH
 intro g1 w hH
 refine zn (zr (zc Tryz.func72 (cm 0 (by decide)) trivial hH 0 ?_))
 clear hH
 intro w hH
 refine zc Tryz.func72 (cm 1 (by decide)) trivial hH 0 ?_
 clear hH
 intro w hH
 refine zc Tryz.func72 (cm 1 (by decide)) trivial hH 0 ?_
 clear hH
 intro w hH
 refine zc Tryz.func72 (cm 0 (by decide)) trivial hH 0 ?_
 clear hH
 intro w hH
 refine zv (v:=(cPt.val (wd 0,wd 1,wd 1,wd 0))) (fun _ _ hF=>aE (cells:=cPt.enc (wd 0,wd 1,wd 1,wd 0)) rfl (EvP.cons (v:=((cNs 4).val (wd 0))) (hF.ev 3 rfl) (EvP.cons (v:=((cNs 4).val (wd 1))) (hF.ev 2 rfl) (EvP.cons (v:=((cNs 4).val (wd 1))) (hF.ev 1 rfl) (EvP.cons (v:=((cNs 4).val (wd 0))) (hF.ev 0 rfl) EvP.nil)))) (gl (x:=(wd 0,wd 1,wd 1,wd 0)) (by kernel_rfl) rfl rfl rfl rfl) _) 15 ?_
 refine zW 0 hH rfl (wd 0,wd 1,wd 1,wd 0) ?_
 clear hH
 intro w hH
 refine zn (ar (aI 1 (hH.blk 0 rfl) rfl rfl (by kernel_rfl) (Cod.size _ _) (by kernel_rfl) ?_))
 exact zE hH
theorem vz(p q:P4)(hp:PL p)(hq:PL q):Pure Tryz.prog 128 #[(cPt.val (wd p.1,wd p.2.1,wd p.2.2.1,wd p.2.2.2)),(cPt.val (wd q.1,wd q.2.1,wd q.2.2.1,wd q.2.2.2))] (fun _=>True) (cPt.val (wd (pSm p q).1,wd (pSm p q).2.1,wd (pSm p q).2.2.1,wd (pSm p q).2.2.2)):=by
 refine pU Tryz.func128 Tryz.ntmps128 ?_
 intro w0 hH hR
 refine zr (zB hH cPt (wd p.1,wd p.2.1,wd p.2.2.1,wd p.2.2.2) 1 ?_)
 clear hH
 intro g1 w hH
 refine zB hH cPt (wd q.1,wd q.2.1,wd q.2.2.1,wd q.2.2.2) 2 ?_
 clear hH
 intro g2 w hH
 refine zA hH cPt (fun _=>0,fun _=>0,fun _=>0,fun _=>0) 0 ?_
 clear hH
 intro g3 w hH
 refine zn (zx ?_)
 replace hH:=hH.drew
 refine de 0 [pv 0 13 [] [] fun G=>(.pointer (some ⟨g1,4,none⟩)),ldv 1 14 [0] [] [1000] fun G=>((cNs 4).val (wd p.2.1)),pv 2 15 [] [] fun G=>(.pointer (some ⟨g1,0,none⟩)),ldv 3 16 [2] [] [1000] fun G=>((cNs 4).val (wd p.1)),pv 4 17 [1,3] [] fun G=>((cNs 4).val (wd (nS p.2.1 p.1))),pv 5 18 [] [] fun G=>(.pointer (some ⟨g2,4,none⟩)),ldv 6 19 [5] [] [1001] fun G=>((cNs 4).val (wd q.2.1)),pv 7 20 [] [] fun G=>(.pointer (some ⟨g2,0,none⟩)),ldv 8 21 [7] [] [1001] fun G=>((cNs 4).val (wd q.1)),pv 9 22 [6,8] [] fun G=>((cNs 4).val (wd (nS q.2.1 q.1))),pv 10 23 [4,9] [] fun G=>((cNs 4).val (wd (tm (nS p.2.1 p.1) (nS q.2.1 q.1)))),alv 11 5 [] [] fun G g=>[bl g 97 ((cNs 4).enc (fun _=>0))],stv 12 [10,11] [11] 11 fun G=>[bl (G 11).g 97 ((cNs 4).enc (wd (tm (nS p.2.1 p.1) (nS q.2.1 q.1))))]] (fun G=>[(5,(.pointer (some ⟨(G 11).g,0,none⟩))),(4,(.pointer (some ⟨g3,0,none⟩))),(3,(.pointer (some ⟨g2,0,none⟩))),(2,(.pointer (some ⟨g1,0,none⟩)))]) (fun G=>[[bl g1 113 (cPt.enc (wd p.1,wd p.2.1,wd p.2.2.1,wd p.2.2.2))],[bl g2 113 (cPt.enc (wd q.1,wd q.2.1,wd q.2.2.1,wd q.2.2.2))],[bl g3 113 (cPt.enc (fun _=>0,fun _=>0,fun _=>0,fun _=>0))],[bl (G 11).g 97 ((cNs 4).enc (wd (tm (nS p.2.1 p.1) (nS q.2.1 q.1))))]]) hH (.c (.v fun G=>(.fld 4)) <| .c (.ld (fun G _ _ hH=>(hH.q 0 rfl)) fun G=>(.ld (cNs 4) (wd p.2.1) (fun _ hS=>((ae hS).snd).fst))) <| .c (.v fun G=>(.fld 0)) <| .c (.ld (fun G _ _ hH=>(hH.q 0 rfl)) fun G=>(.ld (cNs 4) (wd p.1) (fun _ hS=>(ae hS).fst))) <| .c (Sp.c Tryz.func74 (fun G=>(dg p.2.1 p.1 hp.2.1 hp.1)) fun _=>trivial) <| .c (.v fun G=>(.fld 4)) <| .c (.ld (fun G _ _ hH=>(hH.q 0 rfl)) fun G=>(.ld (cNs 4) (wd q.2.1) (fun _ hS=>((ae hS).snd).fst))) <| .c (.v fun G=>(.fld 0)) <| .c (.ld (fun G _ _ hH=>(hH.q 0 rfl)) fun G=>(.ld (cNs 4) (wd q.1) (fun _ hS=>(ae hS).fst))) <| .c (Sp.c Tryz.func74 (fun G=>(dg q.2.1 q.1 hq.2.1 hq.1)) fun _=>trivial) <| .c (Sp.c Tryz.func75 (fun G=>(ba (nS p.2.1 p.1) (nS q.2.1 q.1) (cO hp.2.1) (cO hq.2.1))) fun _=>trivial) <| .c (.a (fun _ _ _ _=>trivial) (fun G=>(.al (cNs 4) (fun _=>0))) fun _ _ _ h=>h) <| .c (.tn (fun G=>(.sw (cNs 4) (fun _=>0) (wd (tm (nS p.2.1 p.1) (nS q.2.1 q.1))))) (fun _ _ _ _=>trivial) fun _ _ _ h=>h) <| .nil) ?_
 clear hH
 rintro G w-hH
 revert hH
 generalize (G 11).g=g4
 intro hH
 refine rn ?_
 obtain ⟨A,hA,lA⟩:∃ A,A=tm (nS p.2.1 p.1) (nS q.2.1 q.1)∧A<2^256:=⟨_,rfl,(aY (cO hp.2.1) (cO hq.2.1))⟩
 replace hH:HH w0 [] [[bl g1 113 (cPt.enc (wd p.1,wd p.2.1,wd p.2.2.1,wd p.2.2.2))],[bl g2 113 (cPt.enc (wd q.1,wd q.2.1,wd q.2.2.1,wd q.2.2.2))],[bl g3 113 (cPt.enc (fun _=>0,fun _=>0,fun _=>0,fun _=>0))],[bl g4 97 ((cNs 4).enc (wd A))]] w:=by rw[hA];exact hH
 refine zx ?_
 replace hH:=hH.drew
 refine de 0 [pv 0 24 [] [] fun G=>(.pointer (some ⟨g1,4,none⟩)),ldv 1 25 [0] [] [1000] fun G=>((cNs 4).val (wd p.2.1)),pv 2 26 [] [] fun G=>(.pointer (some ⟨g1,0,none⟩)),ldv 3 27 [2] [] [1000] fun G=>((cNs 4).val (wd p.1)),pv 4 28 [1,3] [] fun G=>((cNs 4).val (wd (nA p.2.1 p.1))),pv 5 29 [] [] fun G=>(.pointer (some ⟨g2,4,none⟩)),ldv 6 30 [5] [] [1001] fun G=>((cNs 4).val (wd q.2.1)),pv 7 31 [] [] fun G=>(.pointer (some ⟨g2,0,none⟩)),ldv 8 32 [7] [] [1001] fun G=>((cNs 4).val (wd q.1)),pv 9 33 [6,8] [] fun G=>((cNs 4).val (wd (nA q.2.1 q.1))),pv 10 34 [4,9] [] fun G=>((cNs 4).val (wd (tm (nA p.2.1 p.1) (nA q.2.1 q.1)))),alv 11 6 [] [] fun G g=>[bl g 97 ((cNs 4).enc (fun _=>0))],stv 12 [10,11] [11] 11 fun G=>[bl (G 11).g 97 ((cNs 4).enc (wd (tm (nA p.2.1 p.1) (nA q.2.1 q.1))))]] (fun G=>[(6,(.pointer (some ⟨(G 11).g,0,none⟩))),(5,(.pointer (some ⟨g4,0,none⟩))),(4,(.pointer (some ⟨g3,0,none⟩))),(3,(.pointer (some ⟨g2,0,none⟩))),(2,(.pointer (some ⟨g1,0,none⟩)))]) (fun G=>[[bl g1 113 (cPt.enc (wd p.1,wd p.2.1,wd p.2.2.1,wd p.2.2.2))],[bl g2 113 (cPt.enc (wd q.1,wd q.2.1,wd q.2.2.1,wd q.2.2.2))],[bl g3 113 (cPt.enc (fun _=>0,fun _=>0,fun _=>0,fun _=>0))],[bl g4 97 ((cNs 4).enc (wd A))],[bl (G 11).g 97 ((cNs 4).enc (wd (tm (nA p.2.1 p.1) (nA q.2.1 q.1))))]]) hH (.c (.v fun G=>(.fld 4)) <| .c (.ld (fun G _ _ hH=>(hH.q 0 rfl)) fun G=>(.ld (cNs 4) (wd p.2.1) (fun _ hS=>((ae hS).snd).fst))) <| .c (.v fun G=>(.fld 0)) <| .c (.ld (fun G _ _ hH=>(hH.q 0 rfl)) fun G=>(.ld (cNs 4) (wd p.1) (fun _ hS=>(ae hS).fst))) <| .c (Sp.c Tryz.func73 (fun G=>(dt p.2.1 p.1 hp.2.1 hp.1)) fun _=>trivial) <| .c (.v fun G=>(.fld 4)) <| .c (.ld (fun G _ _ hH=>(hH.q 0 rfl)) fun G=>(.ld (cNs 4) (wd q.2.1) (fun _ hS=>((ae hS).snd).fst))) <| .c (.v fun G=>(.fld 0)) <| .c (.ld (fun G _ _ hH=>(hH.q 0 rfl)) fun G=>(.ld (cNs 4) (wd q.1) (fun _ hS=>(ae hS).fst))) <| .c (Sp.c Tryz.func73 (fun G=>(dt q.2.1 q.1 hq.2.1 hq.1)) fun _=>trivial) <| .c (Sp.c Tryz.func75 (fun G=>(ba (nA p.2.1 p.1) (nA q.2.1 q.1) (cn hp.2.1 hp.1) (cn hq.2.1 hq.1))) fun _=>trivial) <| .c (.a (fun _ _ _ _=>trivial) (fun G=>(.al (cNs 4) (fun _=>0))) fun _ _ _ h=>h) <| .c (.tn (fun G=>(.sw (cNs 4) (fun _=>0) (wd (tm (nA p.2.1 p.1) (nA q.2.1 q.1))))) (fun _ _ _ _=>trivial) fun _ _ _ h=>h) <| .nil) ?_
 clear hH
 rintro G w-hH
 revert hH
 generalize (G 11).g=g5
 intro hH
 refine rn ?_
 obtain ⟨B,hB,lB⟩:∃ B,B=tm (nA p.2.1 p.1) (nA q.2.1 q.1)∧B<2^256:=⟨_,rfl,(aY (cn hp.2.1 hp.1) (cn hq.2.1 hq.1))⟩
 replace hH:HH w0 [] [[bl g1 113 (cPt.enc (wd p.1,wd p.2.1,wd p.2.2.1,wd p.2.2.2))],[bl g2 113 (cPt.enc (wd q.1,wd q.2.1,wd q.2.2.1,wd q.2.2.2))],[bl g3 113 (cPt.enc (fun _=>0,fun _=>0,fun _=>0,fun _=>0))],[bl g4 97 ((cNs 4).enc (wd A))],[bl g5 97 ((cNs 4).enc (wd B))]] w:=by rw[hB];exact hH
 refine zr (zv (.fld 12) 0 ?_)
 refine zs (hH.q 0 rfl) (.ld (cNs 4) (wd p.2.2.2) (fun _ hS=>(((ae hS).snd).snd).snd)) 1 ?_
 refine zv (.fld 12) 0 ?_
 refine zs (hH.q 1 rfl) (.ld (cNs 4) (wd q.2.2.2) (fun _ hS=>(((ae hS).snd).snd).snd)) 1 ?_
 refine zc Tryz.func75 (ba p.2.2.2 q.2.2.2 hp.2.2.2 hq.2.2.2) trivial hH 3 ?_
 clear hH
 intro w hH
 refine zc Tryz.func126 (AE) trivial hH 0 ?_
 clear hH
 intro w hH
 refine zc Tryz.func126 (AE) trivial hH 0 ?_
 clear hH
 intro w hH
 refine zc Tryz.func73 (dt dN dN fD fD) trivial hH 3 ?_
 clear hH
 intro w hH
 refine zc Tryz.func75 (ba (tm p.2.2.2 q.2.2.2) (nA dN dN) (aY hp.2.2.2 hq.2.2.2) (cn fD fD)) trivial hH 3 ?_
 clear hH
 intro w hH
 refine zA hH (cNs 4) (fun _=>0) 0 ?_
 clear hH
 intro g6 w hH
 refine zW 5 hH rfl (wd (tm (tm p.2.2.2 q.2.2.2) (nA dN dN))) ?_
 clear hH
 intro w hH
 refine zn ?_
 obtain ⟨C,hC,lC⟩:∃ C,C=tm (tm p.2.2.2 q.2.2.2) (nA dN dN)∧C<2^256:=⟨_,rfl,(aY (aY hp.2.2.2 hq.2.2.2) (cn fD fD))⟩
 replace hH:HH w0 [] [[bl g1 113 (cPt.enc (wd p.1,wd p.2.1,wd p.2.2.1,wd p.2.2.2))],[bl g2 113 (cPt.enc (wd q.1,wd q.2.1,wd q.2.2.1,wd q.2.2.2))],[bl g3 113 (cPt.enc (fun _=>0,fun _=>0,fun _=>0,fun _=>0))],[bl g4 97 ((cNs 4).enc (wd A))],[bl g5 97 ((cNs 4).enc (wd B))],[bl g6 97 ((cNs 4).enc (wd C))]] w:=by rw[hC];exact hH
 refine zx ?_
 replace hH:=hH.drew
 refine de 0 [pv 0 44 [] [] fun G=>(.pointer (some ⟨g1,8,none⟩)),ldv 1 45 [0] [] [1000] fun G=>((cNs 4).val (wd p.2.2.1)),pv 2 46 [] [] fun G=>(.pointer (some ⟨g1,8,none⟩)),ldv 3 47 [2] [] [1000] fun G=>((cNs 4).val (wd p.2.2.1)),pv 4 48 [1,3] [] fun G=>((cNs 4).val (wd (nA p.2.2.1 p.2.2.1))),pv 5 49 [] [] fun G=>(.pointer (some ⟨g2,8,none⟩)),ldv 6 50 [5] [] [1001] fun G=>((cNs 4).val (wd q.2.2.1)),pv 7 51 [4,6] [] fun G=>((cNs 4).val (wd (tm (nA p.2.2.1 p.2.2.1) q.2.2.1))),alv 8 8 [] [] fun G g=>[bl g 97 ((cNs 4).enc (fun _=>0))],stv 9 [7,8] [8] 8 fun G=>[bl (G 8).g 97 ((cNs 4).enc (wd (tm (nA p.2.2.1 p.2.2.1) q.2.2.1)))]] (fun G=>[(8,(.pointer (some ⟨(G 8).g,0,none⟩))),(7,(.pointer (some ⟨g6,0,none⟩))),(6,(.pointer (some ⟨g5,0,none⟩))),(5,(.pointer (some ⟨g4,0,none⟩))),(4,(.pointer (some ⟨g3,0,none⟩)))]) (fun G=>[[bl g1 113 (cPt.enc (wd p.1,wd p.2.1,wd p.2.2.1,wd p.2.2.2))],[bl g2 113 (cPt.enc (wd q.1,wd q.2.1,wd q.2.2.1,wd q.2.2.2))],[bl g3 113 (cPt.enc (fun _=>0,fun _=>0,fun _=>0,fun _=>0))],[bl g4 97 ((cNs 4).enc (wd A))],[bl g5 97 ((cNs 4).enc (wd B))],[bl g6 97 ((cNs 4).enc (wd C))],[bl (G 8).g 97 ((cNs 4).enc (wd (tm (nA p.2.2.1 p.2.2.1) q.2.2.1)))]]) hH (.c (.v fun G=>(.fld 8)) <| .c (.ld (fun G _ _ hH=>(hH.q 0 rfl)) fun G=>(.ld (cNs 4) (wd p.2.2.1) (fun _ hS=>(((ae hS).snd).snd).fst))) <| .c (.v fun G=>(.fld 8)) <| .c (.ld (fun G _ _ hH=>(hH.q 0 rfl)) fun G=>(.ld (cNs 4) (wd p.2.2.1) (fun _ hS=>(((ae hS).snd).snd).fst))) <| .c (Sp.c Tryz.func73 (fun G=>(dt p.2.2.1 p.2.2.1 hp.2.2.1 hp.2.2.1)) fun _=>trivial) <| .c (.v fun G=>(.fld 8)) <| .c (.ld (fun G _ _ hH=>(hH.q 0 rfl)) fun G=>(.ld (cNs 4) (wd q.2.2.1) (fun _ hS=>(((ae hS).snd).snd).fst))) <| .c (Sp.c Tryz.func75 (fun G=>(ba (nA p.2.2.1 p.2.2.1) q.2.2.1 (cn hp.2.2.1 hp.2.2.1) hq.2.2.1)) fun _=>trivial) <| .c (.a (fun _ _ _ _=>trivial) (fun G=>(.al (cNs 4) (fun _=>0))) fun _ _ _ h=>h) <| .c (.tn (fun G=>(.sw (cNs 4) (fun _=>0) (wd (tm (nA p.2.2.1 p.2.2.1) q.2.2.1)))) (fun _ _ _ _=>trivial) fun _ _ _ h=>h) <| .nil) ?_
 clear hH
 rintro G w-hH
 revert hH
 generalize (G 8).g=g7
 intro hH
 refine rn ?_
 obtain ⟨D,hD,lD⟩:∃ D,D=tm (nA p.2.2.1 p.2.2.1) q.2.2.1∧D<2^256:=⟨_,rfl,(aY (cn hp.2.2.1 hp.2.2.1) hq.2.2.1)⟩
 replace hH:HH w0 [] [[bl g1 113 (cPt.enc (wd p.1,wd p.2.1,wd p.2.2.1,wd p.2.2.2))],[bl g2 113 (cPt.enc (wd q.1,wd q.2.1,wd q.2.2.1,wd q.2.2.2))],[bl g3 113 (cPt.enc (fun _=>0,fun _=>0,fun _=>0,fun _=>0))],[bl g4 97 ((cNs 4).enc (wd A))],[bl g5 97 ((cNs 4).enc (wd B))],[bl g6 97 ((cNs 4).enc (wd C))],[bl g7 97 ((cNs 4).enc (wd D))]] w:=by rw[hD];exact hH
 refine zx ?_
 replace hH:=hH.drew
 refine de 0 [ldv 0 52 [] [] [1004] fun G=>((cNs 4).val (wd B)),ldv 1 53 [] [] [1003] fun G=>((cNs 4).val (wd A)),pv 2 54 [0,1] [] fun G=>((cNs 4).val (wd (nS B A))),ldv 3 55 [] [] [1006] fun G=>((cNs 4).val (wd D)),ldv 4 56 [] [] [1005] fun G=>((cNs 4).val (wd C)),pv 5 57 [3,4] [] fun G=>((cNs 4).val (wd (nS D C))),ldv 6 58 [] [] [1006] fun G=>((cNs 4).val (wd D)),ldv 7 59 [] [] [1005] fun G=>((cNs 4).val (wd C)),pv 8 60 [6,7] [] fun G=>((cNs 4).val (wd (nA D C))),ldv 9 61 [] [] [1004] fun G=>((cNs 4).val (wd B)),ldv 10 62 [] [] [1003] fun G=>((cNs 4).val (wd A)),pv 11 63 [9,10] [] fun G=>((cNs 4).val (wd (nA B A))),alv 12 9 [] [] fun G g=>[bl g 97 ((cNs 4).enc (fun _=>0))],alv 13 10 [] [] fun G g=>[bl g 97 ((cNs 4).enc (fun _=>0))],alv 14 11 [] [] fun G g=>[bl g 97 ((cNs 4).enc (fun _=>0))],alv 15 12 [] [] fun G g=>[bl g 97 ((cNs 4).enc (fun _=>0))],stv 16 [2,12] [12] 12 fun G=>[bl (G 12).g 97 ((cNs 4).enc (wd (nS B A)))],stv 17 [5,13] [13] 13 fun G=>[bl (G 13).g 97 ((cNs 4).enc (wd (nS D C)))],stv 18 [8,14] [14] 14 fun G=>[bl (G 14).g 97 ((cNs 4).enc (wd (nA D C)))],stv 19 [11,15] [15] 15 fun G=>[bl (G 15).g 97 ((cNs 4).enc (wd (nA B A)))]] (fun G=>[(9,(.pointer (some ⟨(G 12).g,0,none⟩))),(10,(.pointer (some ⟨(G 13).g,0,none⟩))),(11,(.pointer (some ⟨(G 14).g,0,none⟩))),(12,(.pointer (some ⟨(G 15).g,0,none⟩))),(4,(.pointer (some ⟨g3,0,none⟩)))]) (fun G=>[[bl g1 113 (cPt.enc (wd p.1,wd p.2.1,wd p.2.2.1,wd p.2.2.2))],[bl g2 113 (cPt.enc (wd q.1,wd q.2.1,wd q.2.2.1,wd q.2.2.2))],[bl g3 113 (cPt.enc (fun _=>0,fun _=>0,fun _=>0,fun _=>0))],[bl g4 97 ((cNs 4).enc (wd A))],[bl g5 97 ((cNs 4).enc (wd B))],[bl g6 97 ((cNs 4).enc (wd C))],[bl g7 97 ((cNs 4).enc (wd D))],[bl (G 12).g 97 ((cNs 4).enc (wd (nS B A)))],[bl (G 13).g 97 ((cNs 4).enc (wd (nS D C)))],[bl (G 14).g 97 ((cNs 4).enc (wd (nA D C)))],[bl (G 15).g 97 ((cNs 4).enc (wd (nA B A)))]]) hH (.c (.ld (fun G _ _ hH=>(hH.q 0 rfl)) fun G=>(.ld (cNs 4) (wd B) (fun _=>ae))) <| .c (.ld (fun G _ _ hH=>(hH.q 0 rfl)) fun G=>(.ld (cNs 4) (wd A) (fun _=>ae))) <| .c (Sp.c Tryz.func74 (fun G=>(dg B A lB lA)) fun _=>trivial) <| .c (.ld (fun G _ _ hH=>(hH.q 0 rfl)) fun G=>(.ld (cNs 4) (wd D) (fun _=>ae))) <| .c (.ld (fun G _ _ hH=>(hH.q 0 rfl)) fun G=>(.ld (cNs 4) (wd C) (fun _=>ae))) <| .c (Sp.c Tryz.func74 (fun G=>(dg D C lD lC)) fun _=>trivial) <| .c (.ld (fun G _ _ hH=>(hH.q 0 rfl)) fun G=>(.ld (cNs 4) (wd D) (fun _=>ae))) <| .c (.ld (fun G _ _ hH=>(hH.q 0 rfl)) fun G=>(.ld (cNs 4) (wd C) (fun _=>ae))) <| .c (Sp.c Tryz.func73 (fun G=>(dt D C lD lC)) fun _=>trivial) <| .c (.ld (fun G _ _ hH=>(hH.q 0 rfl)) fun G=>(.ld (cNs 4) (wd B) (fun _=>ae))) <| .c (.ld (fun G _ _ hH=>(hH.q 0 rfl)) fun G=>(.ld (cNs 4) (wd A) (fun _=>ae))) <| .c (Sp.c Tryz.func73 (fun G=>(dt B A lB lA)) fun _=>trivial) <| .c (.a (fun _ _ _ _=>trivial) (fun G=>(.al (cNs 4) (fun _=>0))) fun _ _ _ h=>h) <| .c (.a (fun _ _ _ _=>trivial) (fun G=>(.al (cNs 4) (fun _=>0))) fun _ _ _ h=>h) <| .c (.a (fun _ _ _ _=>trivial) (fun G=>(.al (cNs 4) (fun _=>0))) fun _ _ _ h=>h) <| .c (.a (fun _ _ _ _=>trivial) (fun G=>(.al (cNs 4) (fun _=>0))) fun _ _ _ h=>h) <| .c (.tn (fun G=>(.sw (cNs 4) (fun _=>0) (wd (nS B A)))) (fun _ _ _ _=>trivial) fun _ _ _ h=>h) <| .c (.tn (fun G=>(.sw (cNs 4) (fun _=>0) (wd (nS D C)))) (fun _ _ _ _=>trivial) fun _ _ _ h=>h) <| .c (.tn (fun G=>(.sw (cNs 4) (fun _=>0) (wd (nA D C)))) (fun _ _ _ _=>trivial) fun _ _ _ h=>h) <| .c (.tn (fun G=>(.sw (cNs 4) (fun _=>0) (wd (nA B A)))) (fun _ _ _ _=>trivial) fun _ _ _ h=>h) <| .nil) ?_
 clear hH
 rintro G w-hH
 revert hH
 generalize (G 12).g=g8
 generalize (G 13).g=g9
 generalize (G 14).g=g10
 generalize (G 15).g=g11
 intro hH
 refine rn ?_
 obtain ⟨E,hE,lE⟩:∃ E,E=nS B A∧E<2^256:=⟨_,rfl,(cO lB)⟩
 replace hH:HH w0 [] [[bl g1 113 (cPt.enc (wd p.1,wd p.2.1,wd p.2.2.1,wd p.2.2.2))],[bl g2 113 (cPt.enc (wd q.1,wd q.2.1,wd q.2.2.1,wd q.2.2.2))],[bl g3 113 (cPt.enc (fun _=>0,fun _=>0,fun _=>0,fun _=>0))],[bl g4 97 ((cNs 4).enc (wd A))],[bl g5 97 ((cNs 4).enc (wd B))],[bl g6 97 ((cNs 4).enc (wd C))],[bl g7 97 ((cNs 4).enc (wd D))],[bl g8 97 ((cNs 4).enc (wd E))],[bl g9 97 ((cNs 4).enc (wd (nS D C)))],[bl g10 97 ((cNs 4).enc (wd (nA D C)))],[bl g11 97 ((cNs 4).enc (wd (nA B A)))]] w:=by rw[hE];exact hH
 obtain ⟨G,hG,lG⟩:∃ G,G=nS D C∧G<2^256:=⟨_,rfl,(cO lD)⟩
 replace hH:HH w0 [] [[bl g1 113 (cPt.enc (wd p.1,wd p.2.1,wd p.2.2.1,wd p.2.2.2))],[bl g2 113 (cPt.enc (wd q.1,wd q.2.1,wd q.2.2.1,wd q.2.2.2))],[bl g3 113 (cPt.enc (fun _=>0,fun _=>0,fun _=>0,fun _=>0))],[bl g4 97 ((cNs 4).enc (wd A))],[bl g5 97 ((cNs 4).enc (wd B))],[bl g6 97 ((cNs 4).enc (wd C))],[bl g7 97 ((cNs 4).enc (wd D))],[bl g8 97 ((cNs 4).enc (wd E))],[bl g9 97 ((cNs 4).enc (wd G))],[bl g10 97 ((cNs 4).enc (wd (nA D C)))],[bl g11 97 ((cNs 4).enc (wd (nA B A)))]] w:=by rw[hG];exact hH
 obtain ⟨K,hK,lK⟩:∃ K,K=nA D C∧K<2^256:=⟨_,rfl,(cn lD lC)⟩
 replace hH:HH w0 [] [[bl g1 113 (cPt.enc (wd p.1,wd p.2.1,wd p.2.2.1,wd p.2.2.2))],[bl g2 113 (cPt.enc (wd q.1,wd q.2.1,wd q.2.2.1,wd q.2.2.2))],[bl g3 113 (cPt.enc (fun _=>0,fun _=>0,fun _=>0,fun _=>0))],[bl g4 97 ((cNs 4).enc (wd A))],[bl g5 97 ((cNs 4).enc (wd B))],[bl g6 97 ((cNs 4).enc (wd C))],[bl g7 97 ((cNs 4).enc (wd D))],[bl g8 97 ((cNs 4).enc (wd E))],[bl g9 97 ((cNs 4).enc (wd G))],[bl g10 97 ((cNs 4).enc (wd K))],[bl g11 97 ((cNs 4).enc (wd (nA B A)))]] w:=by rw[hK];exact hH
 obtain ⟨I,hI,lI⟩:∃ I,I=nA B A∧I<2^256:=⟨_,rfl,(cn lB lA)⟩
 replace hH:HH w0 [] [[bl g1 113 (cPt.enc (wd p.1,wd p.2.1,wd p.2.2.1,wd p.2.2.2))],[bl g2 113 (cPt.enc (wd q.1,wd q.2.1,wd q.2.2.1,wd q.2.2.2))],[bl g3 113 (cPt.enc (fun _=>0,fun _=>0,fun _=>0,fun _=>0))],[bl g4 97 ((cNs 4).enc (wd A))],[bl g5 97 ((cNs 4).enc (wd B))],[bl g6 97 ((cNs 4).enc (wd C))],[bl g7 97 ((cNs 4).enc (wd D))],[bl g8 97 ((cNs 4).enc (wd E))],[bl g9 97 ((cNs 4).enc (wd G))],[bl g10 97 ((cNs 4).enc (wd K))],[bl g11 97 ((cNs 4).enc (wd I))]] w:=by rw[hI];exact hH
 refine zx ?_
 replace hH:=hH.drew
 refine rld 0 (hH.q 7 rfl) (.l0 (cNs 4) (wd E)) 0 ?_
 refine rld 1 (hH.q 8 rfl) (.l0 (cNs 4) (wd G)) 0 ?_
 refine rld 3 (hH.q 9 rfl) (.l0 (cNs 4) (wd K)) 0 ?_
 refine rld 4 (hH.q 10 rfl) (.l0 (cNs 4) (wd I)) 0 ?_
 refine rld 6 (hH.q 8 rfl) (.l0 (cNs 4) (wd G)) 32 ?_
 refine rld 7 (hH.q 9 rfl) (.l0 (cNs 4) (wd K)) 64 ?_
 refine rld 9 (hH.q 7 rfl) (.l0 (cNs 4) (wd E)) 64 ?_
 refine rld 10 (hH.q 10 rfl) (.l0 (cNs 4) (wd I)) 128 ?_
 refine ao 2 (rpc 2 Tryz.func75 (ba E G lE lG) trivial hH 192 (.keep (.keep (.keep (.keep (.keep (.keep (pgo [] (pgo [] (.nil _ []))))))))) ?_)
 clear hH
 intro w hH
 refine ⟨am (hH.blk 10 rfl) (am (hH.blk 7 rfl) (am (hH.blk 9 rfl) (am (hH.blk 8 rfl) (am (hH.blk 10 rfl) (am (hH.blk 9 rfl) an))))),?_⟩
 refine ao 5 (rpc 5 Tryz.func75 (ba K I lK lI) trivial hH 96 (.keep (.keep (.keep (.keep (pgo [] (pgo [] (.nil _ []))))))) ?_)
 clear hH
 intro w hH
 refine ⟨am (hH.blk 10 rfl) (am (hH.blk 7 rfl) (am (hH.blk 9 rfl) (am (hH.blk 8 rfl) an))),?_⟩
 refine ao 8 (rpc 8 Tryz.func75 (ba G K lG lK) trivial hH 48 (.keep (.keep (pgo [] (pgo [] (.nil _ []))))) ?_)
 clear hH
 intro w hH
 refine ⟨am (hH.blk 10 rfl) (am (hH.blk 7 rfl) an),?_⟩
 refine ao 11 (rpc 11 Tryz.func75 (ba E I lE lI) trivial hH 24 (pgo [] (pgo [] (.nil _ []))) ?_)
 clear hH
 intro w hH
 refine ⟨an,rv 12 (v:=(cPt.val (wd (tm E G),wd (tm K I),wd (tm G K),wd (tm E I)))) (fun _ _ hF=>aE (cells:=cPt.enc (wd (tm E G),wd (tm K I),wd (tm G K),wd (tm E I))) rfl (EvP.cons (v:=((cNs 4).val (wd (tm E G)))) (hF.ev 3 rfl) (EvP.cons (v:=((cNs 4).val (wd (tm K I)))) (hF.ev 2 rfl) (EvP.cons (v:=((cNs 4).val (wd (tm G K)))) (hF.ev 1 rfl) (EvP.cons (v:=((cNs 4).val (wd (tm E I)))) (hF.ev 0 rfl) EvP.nil)))) (gl (x:=(wd (tm E G),wd (tm K I),wd (tm G K),wd (tm E I))) (by kernel_rfl) rfl rfl rfl rfl) _) 15 ?_⟩
 refine ao 13 ?_
 refine re0 13 2 hH rfl (.sw cPt (fun _=>0,fun _=>0,fun _=>0,fun _=>0) (wd (tm E G),wd (tm K I),wd (tm G K),wd (tm E I))) trivial (.nil _ []) ?_
 clear hH
 rintro _ _ w rfl hH
 refine ⟨an,rn ?_⟩
 refine ar (aI 1 (hH.blk 2 rfl) rfl rfl (by kernel_rfl) (Cod.size _ _) (by kernel_rfl) ?_)
 subst hE hG hK hI hA hB hC hD
 exact zE hH
theorem vA(n:Nat→UInt8)(p:P4)(hp:PL p):Pure Tryz.prog 86 #[((ac 32).val n),(cPt.val (wd p.1,wd p.2.1,wd p.2.2.1,wd p.2.2.2))] (fun _=>True) (cPt.val (wd (pOf n p 256).1,wd (pOf n p 256).2.1,wd (pOf n p 256).2.2.1,wd (pOf n p 256).2.2.2)):=by
 refine pU Tryz.func86 Tryz.ntmps86 ?_
 intro w0 hH hR
 refine zr (zB hH (ac 32) n 1 ?_)
 clear hH
 intro g1 w hH
 refine zB hH cPt (wd p.1,wd p.2.1,wd p.2.2.1,wd p.2.2.2) 2 ?_
 clear hH
 intro g2 w hH
 refine zA hH cPt (fun _=>0,fun _=>0,fun _=>0,fun _=>0) 0 ?_
 clear hH
 intro g3 w hH
 refine zn (zr (zc Tryz.func127 (AH) trivial hH 0 ?_))
 clear hH
 intro w hH
 refine zA hH cPt (fun _=>0,fun _=>0,fun _=>0,fun _=>0) 0 ?_
 clear hH
 intro g4 w hH
 refine zW 3 hH rfl (wd pNt.1,wd pNt.2.1,wd pNt.2.2.1,wd pNt.2.2.2) ?_
 clear hH
 intro w hH
 refine zn (aj ?_)
 replace hH:HH w0 [] [[bl g1 22 ((ac 32).enc n)],[bl g2 113 (cPt.enc (wd p.1,wd p.2.1,wd p.2.2.1,wd p.2.2.2))],[bl g3 113 (cPt.enc (fun _=>0,fun _=>0,fun _=>0,fun _=>0))],[bl g4 113 (cPt.enc (wd (pOf n p (256-256)).1,wd (pOf n p (256-256)).2.1,wd (pOf n p (256-256)).2.2.1,wd (pOf n p (256-256)).2.2.2))]] w:=by exact hH
 refine zr (zv .mv 2 ?_)
 refine zn (ai (zL1 (fun (j:Nat)=>[(6,(.int .i64 ((j:Int)-1))),(5,(.pointer (some ⟨g4,0,none⟩))),(4,(.pointer (some ⟨g3,0,none⟩))),(3,(.pointer (some ⟨g2,0,none⟩))),(2,(.pointer (some ⟨g1,0,none⟩)))]) (fun j w=>HH w0 [] [[bl g1 22 ((ac 32).enc n)],[bl g2 113 (cPt.enc (wd p.1,wd p.2.1,wd p.2.2.1,wd p.2.2.2))],[bl g3 113 (cPt.enc (fun _=>0,fun _=>0,fun _=>0,fun _=>0))],[bl g4 113 (cPt.enc (wd (pOf n p (256-j)).1,wd (pOf n p (256-j)).2.1,wd (pOf n p (256-j)).2.2.1,wd (pOf n p (256-j)).2.2.2))]] w∧(j≤256)) (fun j=>j) 256 ⟨hH,(Nat.le_refl _)⟩ ?_))
 clear hH
 rintro j w ⟨hH,hj⟩
 refine aj (zr (zv .mv 0 ?_))
 refine zv (v:=(.bool (decide (((j:Int)-1) ≥ 0)))) (fun _ _ hF=>fL rfl (hF.ev 0 rfl) rfl rfl) 1 ?_
 refine zn ?_
 refine zP (fun hc5 => ?_) (fun hc5 => ?_)
 refine aA (ag (aj (ai ?_)))
 obtain ⟨k,rfl⟩:∃ k,j=k+1:=⟨j-1,by omega⟩
 rw[show ((k+1:Nat):Int)-1=(k:Int) by omega]
 replace hH:HH w0 [] [[bl g1 22 ((ac 32).enc n)],[bl g2 113 (cPt.enc (wd p.1,wd p.2.1,wd p.2.2.1,wd p.2.2.2))],[bl g3 113 (cPt.enc (fun _=>0,fun _=>0,fun _=>0,fun _=>0))],[bl g4 113 (cPt.enc (wd (pOf n p (256-(k+1))).1,wd (pOf n p (256-(k+1))).2.1,wd (pOf n p (256-(k+1))).2.2.1,wd (pOf n p (256-(k+1))).2.2.2))]] w:=by exact hH
 refine zr (zs (hH.q 3 rfl) (.l0 cPt (wd (pOf n p (256-(k+1))).1,wd (pOf n p (256-(k+1))).2.1,wd (pOf n p (256-(k+1))).2.2.1,wd (pOf n p (256-(k+1))).2.2.2)) 1 ?_)
 refine zs (hH.q 3 rfl) (.l0 cPt (wd (pOf n p (256-(k+1))).1,wd (pOf n p (256-(k+1))).2.1,wd (pOf n p (256-(k+1))).2.2.1,wd (pOf n p (256-(k+1))).2.2.2)) 0 ?_
 refine zc Tryz.func128 (vz (pOf n p (256-(k+1))) (pOf n p (256-(k+1))) (jq hp _) (jq hp _)) trivial hH 3 ?_
 clear hH
 intro w hH
 refine zW 3 hH rfl (wd (pSm (pOf n p (256-(k+1))) (pOf n p (256-(k+1)))).1,wd (pSm (pOf n p (256-(k+1))) (pOf n p (256-(k+1)))).2.1,wd (pSm (pOf n p (256-(k+1))) (pOf n p (256-(k+1)))).2.2.1,wd (pSm (pOf n p (256-(k+1))) (pOf n p (256-(k+1)))).2.2.2) ?_
 clear hH
 intro w hH
 refine zn (zr (zv .mv 1 ?_))
 refine zv (v:=(.int .i64 (((k/8):Nat):Int))) (fun _ _ hF=>cM (z:=((k/8:Nat):Int)) rfl (hF.ev 0 rfl) rfl (by omega) (wI dO (by omega) (by omega))) 1 ?_
 have hi6:k/8<32:=by omega
 refine zv (.ia 1 32 (k/8) (hi:=hi6)) 1 ?_
 refine zs (hH.q 0 rfl) (.ld af (n (k/8)) (fun _ hS=>((ae hS).elt hi6))) 1 ?_
 refine zv .mv 0 ?_
 refine zv (v:=(.int .i64 (((k%8):Nat):Int))) (fun _ _ hF=>bm (z:=((k%8:Nat):Int)) rfl (hF.ev 0 rfl) rfl (by omega) bW) 1 ?_
 refine zv (.cu .u64) 1 ?_
 refine zv (.rb (k%8) (u:=(n (k/8)))) 3 ?_
 refine zv (.ab ((sr8 (n (k/8)) (k%8))&&&(1:UInt8)) (u:=(sr8 (n (k/8)) (k%8))) (v:=(1:UInt8))) 1 ?_
 refine zv (.eq (((sr8 (n (k/8)) (k%8))&&&(1:UInt8)).toNat=1)) 1 ?_
 refine zn ?_
 refine zP (fun hc7 => ?_) (fun hc7 => ?_)
 refine aC (zs (hH.q 3 rfl) (.l0 cPt (wd (pSm (pOf n p (256-(k+1))) (pOf n p (256-(k+1)))).1,wd (pSm (pOf n p (256-(k+1))) (pOf n p (256-(k+1)))).2.1,wd (pSm (pOf n p (256-(k+1))) (pOf n p (256-(k+1)))).2.2.1,wd (pSm (pOf n p (256-(k+1))) (pOf n p (256-(k+1)))).2.2.2)) 1 ?_)
 refine zs (hH.q 1 rfl) (.l0 cPt (wd p.1,wd p.2.1,wd p.2.2.1,wd p.2.2.2)) 0 ?_
 refine zc Tryz.func128 (vz (pSm (pOf n p (256-(k+1))) (pOf n p (256-(k+1)))) p (np (jq hp _) (jq hp _)) hp) trivial hH 3 ?_
 clear hH
 intro w hH
 refine zW 3 hH rfl (wd (pSm (pSm (pOf n p (256-(k+1))) (pOf n p (256-(k+1)))) p).1,wd (pSm (pSm (pOf n p (256-(k+1))) (pOf n p (256-(k+1)))) p).2.1,wd (pSm (pSm (pOf n p (256-(k+1))) (pOf n p (256-(k+1)))) p).2.2.1,wd (pSm (pSm (pOf n p (256-(k+1))) (pOf n p (256-(k+1)))) p).2.2.2) ?_
 clear hH
 intro w hH
 refine aD (aN (ag ?_))
 replace hH:HH w0 [] [[bl g1 22 ((ac 32).enc n)],[bl g2 113 (cPt.enc (wd p.1,wd p.2.1,wd p.2.2.1,wd p.2.2.2))],[bl g3 113 (cPt.enc (fun _=>0,fun _=>0,fun _=>0,fun _=>0))],[bl g4 113 (cPt.enc (wd (pOf n p (256-k)).1,wd (pOf n p (256-k)).2.1,wd (pOf n p (256-k)).2.2.1,wd (pOf n p (256-k)).2.2.2))]] w:=by rw[oP (by omega),if_pos (show (bitB n k).toNat=1 from hc7)];exact hH
 refine aC (zv .mv 3 ?_)
 refine zv (.sub ((k:Int)-1)) 1 ?_
 refine zv .mv 1 ?_
 refine aD ?_
 exact zR1 k ⟨hH,(by omega)⟩ (by omega)
 refine aA (aN (ag ?_))
 replace hH:HH w0 [] [[bl g1 22 ((ac 32).enc n)],[bl g2 113 (cPt.enc (wd p.1,wd p.2.1,wd p.2.2.1,wd p.2.2.2))],[bl g3 113 (cPt.enc (fun _=>0,fun _=>0,fun _=>0,fun _=>0))],[bl g4 113 (cPt.enc (wd (pOf n p (256-k)).1,wd (pOf n p (256-k)).2.1,wd (pOf n p (256-k)).2.2.1,wd (pOf n p (256-k)).2.2.2))]] w:=by rw[oP (by omega),if_neg (show ¬ (bitB n k).toNat=1 from hc7)];exact hH
 refine aC (zv .mv 3 ?_)
 refine zv (.sub ((k:Int)-1)) 1 ?_
 refine zv .mv 1 ?_
 refine aD ?_
 exact zR1 k ⟨hH,(by omega)⟩ (by omega)
 refine aJ (ak (ak (aR (ag ?_))))
 obtain rfl:j=0:=by omega
 replace hH:HH w0 [] [[bl g1 22 ((ac 32).enc n)],[bl g2 113 (cPt.enc (wd p.1,wd p.2.1,wd p.2.2.1,wd p.2.2.2))],[bl g3 113 (cPt.enc (fun _=>0,fun _=>0,fun _=>0,fun _=>0))],[bl g4 113 (cPt.enc (wd (pOf n p 256).1,wd (pOf n p 256).2.1,wd (pOf n p 256).2.2.1,wd (pOf n p 256).2.2.2))]] w:=by exact hH
 refine zr (zs (hH.q 3 rfl) (.l0 cPt (wd (pOf n p 256).1,wd (pOf n p 256).2.1,wd (pOf n p 256).2.2.1,wd (pOf n p 256).2.2.2)) 55 ?_)
 refine zW 2 hH rfl (wd (pOf n p 256).1,wd (pOf n p 256).2.1,wd (pOf n p 256).2.2.1,wd (pOf n p 256).2.2.2) ?_
 clear hH
 intro w hH
 refine zn (ar (aI 1 (hH.blk 2 rfl) rfl rfl (by kernel_rfl) (Cod.size _ _) (by kernel_rfl) ?_))
 exact zE hH
theorem AJ(p:P4)(hp:PL p):Pure Tryz.prog 85 #[(cPt.val (wd p.1,wd p.2.1,wd p.2.2.1,wd p.2.2.2))] (fun _=>True) ((ac 32).val (pEn p)):=by
 refine pU Tryz.func85 Tryz.ntmps85 ?_
 intro w0 hH hR
 refine zr (zB hH cPt (wd p.1,wd p.2.1,wd p.2.2.1,wd p.2.2.2) 1 ?_)
 clear hH
 intro g1 w hH
 refine zA hH (ac 32) (fun _=>0) 0 ?_
 clear hH
 intro g2 w hH
 refine zn (zr (zv (.fld 8) 0 ?_))
 refine zs (hH.q 0 rfl) (.ld (cNs 4) (wd p.2.2.1) (fun _ hS=>(((ae hS).snd).snd).fst)) 1 ?_
 refine zc Tryz.func77 (gY p.2.2.1 hp.2.2.1) trivial hH 1 ?_
 clear hH
 intro w hH
 refine zA hH (cNs 4) (fun _=>0) 0 ?_
 clear hH
 intro g3 w hH
 refine zW 2 hH rfl (wd (riv p.2.2.1)) ?_
 clear hH
 intro w hH
 refine zn ?_
 obtain ⟨z,hz,lz⟩:∃ z,z=riv p.2.2.1∧z<2^256:=⟨_,rfl,(kO hp.2.2.1)⟩
 replace hH:HH w0 [] [[bl g1 113 (cPt.enc (wd p.1,wd p.2.1,wd p.2.2.1,wd p.2.2.2))],[bl g2 22 ((ac 32).enc (fun _=>0))],[bl g3 97 ((cNs 4).enc (wd z))]] w:=by rw[hz];exact hH
 refine zx ?_
 replace hH:=hH.drew
 refine de 0 [pv 0 9 [] [] fun G=>(.pointer (some ⟨g1,0,none⟩)),ldv 1 10 [0] [] [1000] fun G=>((cNs 4).val (wd p.1)),ldv 2 11 [] [] [1002] fun G=>((cNs 4).val (wd z)),pv 3 12 [1,2] [] fun G=>((cNs 4).val (wd (tm p.1 z))),pv 4 13 [3] [] fun G=>((cNs 4).val (wd ((tm p.1 z)%pN))),pv 5 14 [] [] fun G=>(.pointer (some ⟨g1,4,none⟩)),ldv 6 15 [5] [] [1000] fun G=>((cNs 4).val (wd p.2.1)),ldv 7 16 [] [] [1002] fun G=>((cNs 4).val (wd z)),pv 8 17 [6,7] [] fun G=>((cNs 4).val (wd (tm p.2.1 z))),pv 9 18 [8] [] fun G=>((ac 32).val (aZ (tm p.2.1 z%pN))),alv 10 4 [] [] fun G g=>[bl g 97 ((cNs 4).enc (fun _=>0))],alv 11 5 [] [] fun G g=>[bl g 22 ((ac 32).enc (fun _=>0))],stv 12 [4,10] [10] 10 fun G=>[bl (G 10).g 97 ((cNs 4).enc (wd ((tm p.1 z)%pN)))],stv 13 [9,11] [11] 11 fun G=>[bl (G 11).g 22 ((ac 32).enc (aZ (tm p.2.1 z%pN)))]] (fun G=>[(4,(.pointer (some ⟨(G 10).g,0,none⟩))),(5,(.pointer (some ⟨(G 11).g,0,none⟩))),(2,(.pointer (some ⟨g2,0,none⟩)))]) (fun G=>[[bl g1 113 (cPt.enc (wd p.1,wd p.2.1,wd p.2.2.1,wd p.2.2.2))],[bl g2 22 ((ac 32).enc (fun _=>0))],[bl g3 97 ((cNs 4).enc (wd z))],[bl (G 10).g 97 ((cNs 4).enc (wd ((tm p.1 z)%pN)))],[bl (G 11).g 22 ((ac 32).enc (aZ (tm p.2.1 z%pN)))]]) hH (.c (.v fun G=>(.fld 0)) <| .c (.ld (fun G _ _ hH=>(hH.q 0 rfl)) fun G=>(.ld (cNs 4) (wd p.1) (fun _ hS=>(ae hS).fst))) <| .c (.ld (fun G _ _ hH=>(hH.q 0 rfl)) fun G=>(.ld (cNs 4) (wd z) (fun _=>ae))) <| .c (Sp.c Tryz.func75 (fun G=>(ba p.1 z hp.1 lz)) fun _=>trivial) <| .c (Sp.c Tryz.func119 (fun G=>(er (tm p.1 z) (aY hp.1 lz))) fun _=>trivial) <| .c (.v fun G=>(.fld 4)) <| .c (.ld (fun G _ _ hH=>(hH.q 0 rfl)) fun G=>(.ld (cNs 4) (wd p.2.1) (fun _ hS=>((ae hS).snd).fst))) <| .c (.ld (fun G _ _ hH=>(hH.q 0 rfl)) fun G=>(.ld (cNs 4) (wd z) (fun _=>ae))) <| .c (Sp.c Tryz.func75 (fun G=>(ba p.2.1 z hp.2.1 lz)) fun _=>trivial) <| .c (Sp.c Tryz.func76 (fun G=>(ov (tm p.2.1 z) (aY hp.2.1 lz))) fun _=>trivial) <| .c (.a (fun _ _ _ _=>trivial) (fun G=>(.al (cNs 4) (fun _=>0))) fun _ _ _ h=>h) <| .c (.a (fun _ _ _ _=>trivial) (fun G=>(.al (ac 32) (fun _=>0))) fun _ _ _ h=>h) <| .c (.tn (fun G=>(.sw (cNs 4) (fun _=>0) (wd ((tm p.1 z)%pN)))) (fun _ _ _ _=>trivial) fun _ _ _ h=>h) <| .c (.tn (fun G=>(.sw (ac 32) (fun _=>0) (aZ (tm p.2.1 z%pN)))) (fun _ _ _ _=>trivial) fun _ _ _ h=>h) <| .nil) ?_
 clear hH
 rintro G w-hH
 revert hH
 generalize (G 10).g=g4
 generalize (G 11).g=g5
 intro hH
 refine rn ?_
 obtain ⟨x,hx,lx⟩:∃ x,x=(tm p.1 z)%pN∧x<2^256:=⟨_,rfl,(Nat.lt_trans (Nat.mod_lt _ (by decide)) fR)⟩
 replace hH:HH w0 [] [[bl g1 113 (cPt.enc (wd p.1,wd p.2.1,wd p.2.2.1,wd p.2.2.2))],[bl g2 22 ((ac 32).enc (fun _=>0))],[bl g3 97 ((cNs 4).enc (wd z))],[bl g4 97 ((cNs 4).enc (wd x))],[bl g5 22 ((ac 32).enc (aZ (tm p.2.1 z%pN)))]] w:=by rw[hx];exact hH
 obtain ⟨y,hy⟩:∃ y,y=(aZ (tm p.2.1 z%pN)):=⟨_,rfl⟩
 replace hH:HH w0 [] [[bl g1 113 (cPt.enc (wd p.1,wd p.2.1,wd p.2.2.1,wd p.2.2.2))],[bl g2 22 ((ac 32).enc (fun _=>0))],[bl g3 97 ((cNs 4).enc (wd z))],[bl g4 97 ((cNs 4).enc (wd x))],[bl g5 22 ((ac 32).enc y)]] w:=by rw[hy];exact hH
 refine zr ?_
 have hi6:31<32:=by omega
 refine zv (.ia 1 32 31 (hi:=hi6)) 0 ?_
 refine zs (hH.q 4 rfl) (.ld af (y 31) (fun _ hS=>((ae hS).elt hi6))) 1 ?_
 have hi7:0<4:=by omega
 refine zv (.ia 1 4 0 (hi:=hi7)) 2 ?_
 refine zs (hH.q 3 rfl) (.ld sNt.cod ((wd x) 0) (fun _ hS=>((ae hS).eltV hi7))) 1 ?_
 refine zv (v:=(.int .u64 (((((wd x) 0)%2):Nat):Int))) (fun _ _ hF=>bm (z:=((((wd x) 0)%2:Nat):Int)) rfl (hF.ev 0 rfl) rfl (by omega) bW) 1 ?_
 refine zv .cb 1 ?_
 refine zv (.lb 7 (u:=(UInt8.ofNat (((wd x) 0)%2)))) 1 ?_
 refine zv (.ob ((y 31)|||(sl8 (UInt8.ofNat (((wd x) 0)%2)) 7)) (u:=(y 31)) (v:=(sl8 (UInt8.ofNat (((wd x) 0)%2)) 7))) 3 ?_
 have hi8:31<32:=by omega
 refine zv (.ia 1 32 31 (hi:=hi8)) 0 ?_
 refine ze0 4 hH rfl (.st af ((y 31)|||(sl8 (UInt8.ofNat (((wd x) 0)%2)) 7)) (aU (S:=sBy) (C:=(ac 32)) rfl hi8) (aQ y ((y 31)|||(sl8 (UInt8.ofNat (((wd x) 0)%2)) 7)) hi8)) trivial ?_
 clear hH
 rintro _ _ w rfl hH
 refine zn (zr (zs (hH.q 4 rfl) (.l0 (ac 32) (stF y 31 ((y 31)|||(sl8 (UInt8.ofNat (((wd x) 0)%2)) 7)))) 7 ?_))
 refine zW 1 hH rfl (stF y 31 ((y 31)|||(sl8 (UInt8.ofNat (((wd x) 0)%2)) 7))) ?_
 clear hH
 intro w hH
 refine zn (ar (aI 1 (hH.blk 1 rfl) rfl rfl (by kernel_rfl) (Cod.size _ _) (by kernel_rfl) ?_))
 subst hx hy hz
 exact zE hH
def hZ:Nat→UInt8:=fun _=>102
def gE:Nat→UInt8:=stF hZ 0 88
theorem AK  : Pure Tryz.prog 84 #[] (fun _=>True) ((ac 32).val gE):=by
 refine pU Tryz.func84 Tryz.ntmps84 ?_
 intro w0 hH hR
 refine zr (zA hH (ac 32) (fun _=>0) 0 ?_)
 clear hH
 intro g1 w hH
 refine zn (zr (zA hH (ac 32) (fun _=>0) 0 ?_))
 clear hH
 intro g2 w hH
 refine zn (aj (zr (zv .mv 0 ?_)))
 refine zn (ai ?_)
 have he3:(ac 32).enc (upF 0 hZ (fun _=>0))=(ac 32).enc (fun _=>0):=aB (fun j _=>by rw[bw])
 replace hH:HH w0 [] [[bl g1 22 ((ac 32).enc (fun _=>0))],[bl g2 22 ((ac 32).enc (upF 0 hZ (fun _=>0)))]] w:=by rw[he3];exact hH
 refine zL1 (fun (i:Nat)=>[(3,(.int .i64 i)),(1,(.pointer (some ⟨g2,0,none⟩))),(0,(.pointer (some ⟨g1,0,none⟩)))]) (fun i w=>HH w0 [] [[bl g1 22 ((ac 32).enc (fun _=>0))],[bl g2 22 ((ac 32).enc (upF i hZ (fun _=>0)))]] w∧(i≤32)) (fun i=>32-i) 0 ⟨hH,(Nat.zero_le _)⟩ ?_
 clear hH
 rintro i w ⟨hH,hi⟩
 refine zr (zv (.lt (i<32)) 0 ?_)
 refine zn (aj ?_)
 refine zP (fun hc4 => ?_) (fun hc4 => ?_)
 refine aA (ag (aj (ai (zr (zv .mv 1 ?_)))))
 refine zv .mv 1 ?_
 refine zn (aC (zv .mv 1 ?_))
 have hi5:i<32:=by omega
 refine zv (.ia 1 32 i (hi:=hi5)) 1 ?_
 refine ze0 1 hH rfl (.st af 102 (aU (S:=sBy) (C:=(ac 32)) rfl hi5) (aQ (upF i hZ (fun _=>0)) 102 hi5)) trivial ?_
 clear hH
 rintro _ _ w rfl hH
 refine aD (aN (ag (aC (zv (.add ((i+1:Nat):Int)) 3 ?_))))
 refine zv .mv 1 ?_
 refine aD ?_
 have he6:(ac 32).enc (upF (i+1) hZ (fun _=>0))=(ac 32).enc (stF (upF i hZ (fun _=>0)) i 102):=aB (fun j _=>(congrFun (bi i hZ (fun _=>0) (rfl)) j).symm)
 replace hH:HH w0 [] [[bl g1 22 ((ac 32).enc (fun _=>0))],[bl g2 22 ((ac 32).enc (upF (i+1) hZ (fun _=>0)))]] w:=by rw[he6];exact hH
 exact zR1 (i+1) ⟨hH,(by omega)⟩ (by omega)
 refine aJ (ak (ak (aR (ag ?_))))
 obtain rfl:i=32:=by omega
 have he7:(ac 32).enc hZ=(ac 32).enc (upF 32 hZ (fun _=>0)):=aB (fun j hj=>(bz _ _ hj).symm)
 replace hH:HH w0 [] [[bl g1 22 ((ac 32).enc (fun _=>0))],[bl g2 22 ((ac 32).enc hZ)]] w:=by rw[he7];exact hH
 refine zr ?_
 have hi8:0<32:=by omega
 refine zv (.ia 1 32 0 (hi:=hi8)) 3 ?_
 refine ze0 1 hH rfl (.st af 88 (aU (S:=sBy) (C:=(ac 32)) rfl hi8) (aQ hZ 88 hi8)) trivial ?_
 clear hH
 rintro _ _ w rfl hH
 refine zn (zr (zs (hH.q 1 rfl) (.l0 (ac 32) (stF hZ 0 88)) 3 ?_))
 refine zW 0 hH rfl (stF hZ 0 88) ?_
 clear hH
 intro w hH
 refine zn (ar (aI 1 (hH.blk 0 rfl) rfl rfl (by kernel_rfl) (Cod.size _ _) (by kernel_rfl) ?_))
 exact zE hH
theorem xM{l:List UInt8}{z:Nat}(h:l.length+1+z+16=128*bT l.length):mzL l (z+8)++be8 (l.length*8) 8=pdN l:=by
 apply List.ext_getElem?
 intro k
 have h1:=qn l (z+8)
 have h2:=qo (l.length*8) 8
 by_cases hk:k<128*bT l.length
 ·unfold pdN
  rw[bB hk]
  unfold gI
  by_cases a1:k<l.length
  ·rw[if_pos a1,List.getElem?_append_left (by omega)]
   unfold mzL
   show (l++_)[k]?=some (l.getD k 0)
   rw[List.getElem?_append_left a1,List.getD_eq_getElem?_getD,List.getElem?_eq_getElem a1];rfl
  ·rw[if_neg a1]
   by_cases a2:k<l.length+1+(z+8)
   ·rw[List.getElem?_append_left (by omega)]
    unfold mzL
    rw[List.getElem?_append_right (by omega)]
    by_cases a3:k=l.length
    ·rw[if_pos a3,a3,Nat.sub_self];rfl
    ·rw[if_neg a3,if_pos (by omega),show k-l.length=(k-l.length-1)+1 by omega,List.getElem?_cons_succ,List.getElem?_replicate,if_pos (by omega)]
   ·rw[if_neg (by omega),if_neg (by omega),List.getElem?_append_right (by omega),h1]
    unfold be8
    rw[bB (by omega)]
    congr 2
    rw[Nat.mul_comm 8 l.length,show (256:Nat)=2^8 from rfl,← Nat.pow_mul]
    congr 2
    omega
 ·rw[List.getElem?_eq_none (by rw[List.length_append];omega),List.getElem?_eq_none (by rw[qr];omega)]
theorem ei(x:UInt64)(n:Nat)(h0:0<n)(h64:n<64):Pure Tryz.prog 123 #[(.int .u64 x.toNat),(.int .u64 n)] (fun _=>True) (.int .u64 ((((cK x n).toNat):Nat):Int)):=by
 refine pU Tryz.func123 Tryz.ntmps123 ?_
 intro w0 hH hR
 refine zr (zv .mv 0 ?_)
 refine zn (zr (zv .mv 1 ?_))
 refine zv .mv 0 ?_
 refine zv (.rq n) 3 ?_
 refine zv .mv 2 ?_
 refine zv .mv 4 ?_
 refine zv (v:=(.int .u64 (((64-n):Nat):Int))) (fun _ _ hF=>f8 (m:=64) (j:=n) (z:=(64-n)) rfl rfl rfl (hF.ev 0 rfl) (by show n≤18446744073709551616;omega) (by show (64+(18446744073709551616-n))%18446744073709551616=_;omega)) 1 ?_
 refine zv (.lq (64-n)) 3 ?_
 refine zv (.oq (cK x n)) 3 ?_
 refine zv .mv 1 ?_
 refine zn (ar (aW 0 rfl rfl ?_))
 exact zE hH
theorem Ck  : Pure Tryz.prog 122 #[] (fun _=>True) ((cQs 80).val K64):=by
 refine pU Tryz.func122 Tryz.ntmps122 ?_
 intro w0 hH hR
 refine zr (zA hH (cQs 80) (fun _=>0) 0 ?_)
 clear hH
 intro g1 w hH
 refine zn (zr (zv (v:=((cQs 80).val K64)) (fun _ _ hF=>aE (cells:=(cQs 80).enc K64) (vals:=[(0,(.int .u64 4794697086780616226)),(1,(.int .u64 8158064640168781261)),(2,(.int .u64 13096744586834688815)),(3,(.int .u64 16840607885511220156)),(4,(.int .u64 4131703408338449720)),(5,(.int .u64 6480981068601479193)),(6,(.int .u64 10538285296894168987)),(7,(.int .u64 12329834152419229976)),(8,(.int .u64 15566598209576043074)),(9,(.int .u64 1334009975649890238)),(10,(.int .u64 2608012711638119052)),(11,(.int .u64 6128411473006802146)),(12,(.int .u64 8268148722764581231)),(13,(.int .u64 9286055187155687089)),(14,(.int .u64 11230858885718282805)),(15,(.int .u64 13951009754708518548)),(16,(.int .u64 16472876342353939154)),(17,(.int .u64 17275323862435702243)),(18,(.int .u64 1135362057144423861)),(19,(.int .u64 2597628984639134821)),(20,(.int .u64 3308224258029322869)),(21,(.int .u64 5365058923640841347)),(22,(.int .u64 6679025012923562964)),(23,(.int .u64 8573033837759648693)),(24,(.int .u64 10970295158949994411)),(25,(.int .u64 12119686244451234320)),(26,(.int .u64 12683024718118986047)),(27,(.int .u64 13788192230050041572)),(28,(.int .u64 14330467153632333762)),(29,(.int .u64 15395433587784984357)),(30,(.int .u64 489312712824947311)),(31,(.int .u64 1452737877330783856)),(32,(.int .u64 2861767655752347644)),(33,(.int .u64 3322285676063803686)),(34,(.int .u64 5560940570517711597)),(35,(.int .u64 5996557281743188959)),(36,(.int .u64 7280758554555802590)),(37,(.int .u64 8532644243296465576)),(38,(.int .u64 9350256976987008742)),(39,(.int .u64 10552545826968843579)),(40,(.int .u64 11727347734174303076)),(41,(.int .u64 12113106623233404929)),(42,(.int .u64 14000437183269869457)),(43,(.int .u64 14369950271660146224)),(44,(.int .u64 15101387698204529176)),(45,(.int .u64 15463397548674623760)),(46,(.int .u64 17586052441742319658)),(47,(.int .u64 1182934255886127544)),(48,(.int .u64 1847814050463011016)),(49,(.int .u64 2177327727835720531)),(50,(.int .u64 2830643537854262169)),(51,(.int .u64 3796741975233480872)),(52,(.int .u64 4115178125766777443)),(53,(.int .u64 5681478168544905931)),(54,(.int .u64 6601373596472566643)),(55,(.int .u64 7507060721942968483)),(56,(.int .u64 8399075790359081724)),(57,(.int .u64 8693463985226723168)),(58,(.int .u64 9568029438360202098)),(59,(.int .u64 10144078919501101548)),(60,(.int .u64 10430055236837252648)),(61,(.int .u64 11840083180663258601)),(62,(.int .u64 13761210420658862357)),(63,(.int .u64 14299343276471374635)),(64,(.int .u64 14566680578165727644)),(65,(.int .u64 15097957966210449927)),(66,(.int .u64 16922976911328602910)),(67,(.int .u64 17689382322260857208)),(68,(.int .u64 500013540394364858)),(69,(.int .u64 748580250866718886)),(70,(.int .u64 1242879168328830382)),(71,(.int .u64 1977374033974150939)),(72,(.int .u64 2944078676154940804)),(73,(.int .u64 3659926193048069267)),(74,(.int .u64 4368137639120453308)),(75,(.int .u64 4836135668995329356)),(76,(.int .u64 5532061633213252278)),(77,(.int .u64 6448918945643986474)),(78,(.int .u64 6902733635092675308)),(79,(.int .u64 7801388544844847127))]) rfl (EvP.cons (v:=(.int .u64 4794697086780616226)) rfl (EvP.cons (v:=(.int .u64 8158064640168781261)) rfl (EvP.cons (v:=(.int .u64 13096744586834688815)) rfl (EvP.cons (v:=(.int .u64 16840607885511220156)) rfl (EvP.cons (v:=(.int .u64 4131703408338449720)) rfl (EvP.cons (v:=(.int .u64 6480981068601479193)) rfl (EvP.cons (v:=(.int .u64 10538285296894168987)) rfl (EvP.cons (v:=(.int .u64 12329834152419229976)) rfl (EvP.cons (v:=(.int .u64 15566598209576043074)) rfl (EvP.cons (v:=(.int .u64 1334009975649890238)) rfl (EvP.cons (v:=(.int .u64 2608012711638119052)) rfl (EvP.cons (v:=(.int .u64 6128411473006802146)) rfl (EvP.cons (v:=(.int .u64 8268148722764581231)) rfl (EvP.cons (v:=(.int .u64 9286055187155687089)) rfl (EvP.cons (v:=(.int .u64 11230858885718282805)) rfl (EvP.cons (v:=(.int .u64 13951009754708518548)) rfl (EvP.cons (v:=(.int .u64 16472876342353939154)) rfl (EvP.cons (v:=(.int .u64 17275323862435702243)) rfl (EvP.cons (v:=(.int .u64 1135362057144423861)) rfl (EvP.cons (v:=(.int .u64 2597628984639134821)) rfl (EvP.cons (v:=(.int .u64 3308224258029322869)) rfl (EvP.cons (v:=(.int .u64 5365058923640841347)) rfl (EvP.cons (v:=(.int .u64 6679025012923562964)) rfl (EvP.cons (v:=(.int .u64 8573033837759648693)) rfl (EvP.cons (v:=(.int .u64 10970295158949994411)) rfl (EvP.cons (v:=(.int .u64 12119686244451234320)) rfl (EvP.cons (v:=(.int .u64 12683024718118986047)) rfl (EvP.cons (v:=(.int .u64 13788192230050041572)) rfl (EvP.cons (v:=(.int .u64 14330467153632333762)) rfl (EvP.cons (v:=(.int .u64 15395433587784984357)) rfl (EvP.cons (v:=(.int .u64 489312712824947311)) rfl (EvP.cons (v:=(.int .u64 1452737877330783856)) rfl (EvP.cons (v:=(.int .u64 2861767655752347644)) rfl (EvP.cons (v:=(.int .u64 3322285676063803686)) rfl (EvP.cons (v:=(.int .u64 5560940570517711597)) rfl (EvP.cons (v:=(.int .u64 5996557281743188959)) rfl (EvP.cons (v:=(.int .u64 7280758554555802590)) rfl (EvP.cons (v:=(.int .u64 8532644243296465576)) rfl (EvP.cons (v:=(.int .u64 9350256976987008742)) rfl (EvP.cons (v:=(.int .u64 10552545826968843579)) rfl (EvP.cons (v:=(.int .u64 11727347734174303076)) rfl (EvP.cons (v:=(.int .u64 12113106623233404929)) rfl (EvP.cons (v:=(.int .u64 14000437183269869457)) rfl (EvP.cons (v:=(.int .u64 14369950271660146224)) rfl (EvP.cons (v:=(.int .u64 15101387698204529176)) rfl (EvP.cons (v:=(.int .u64 15463397548674623760)) rfl (EvP.cons (v:=(.int .u64 17586052441742319658)) rfl (EvP.cons (v:=(.int .u64 1182934255886127544)) rfl (EvP.cons (v:=(.int .u64 1847814050463011016)) rfl (EvP.cons (v:=(.int .u64 2177327727835720531)) rfl (EvP.cons (v:=(.int .u64 2830643537854262169)) rfl (EvP.cons (v:=(.int .u64 3796741975233480872)) rfl (EvP.cons (v:=(.int .u64 4115178125766777443)) rfl (EvP.cons (v:=(.int .u64 5681478168544905931)) rfl (EvP.cons (v:=(.int .u64 6601373596472566643)) rfl (EvP.cons (v:=(.int .u64 7507060721942968483)) rfl (EvP.cons (v:=(.int .u64 8399075790359081724)) rfl (EvP.cons (v:=(.int .u64 8693463985226723168)) rfl (EvP.cons (v:=(.int .u64 9568029438360202098)) rfl (EvP.cons (v:=(.int .u64 10144078919501101548)) rfl (EvP.cons (v:=(.int .u64 10430055236837252648)) rfl (EvP.cons (v:=(.int .u64 11840083180663258601)) rfl (EvP.cons (v:=(.int .u64 13761210420658862357)) rfl (EvP.cons (v:=(.int .u64 14299343276471374635)) rfl (EvP.cons (v:=(.int .u64 14566680578165727644)) rfl (EvP.cons (v:=(.int .u64 15097957966210449927)) rfl (EvP.cons (v:=(.int .u64 16922976911328602910)) rfl (EvP.cons (v:=(.int .u64 17689382322260857208)) rfl (EvP.cons (v:=(.int .u64 500013540394364858)) rfl (EvP.cons (v:=(.int .u64 748580250866718886)) rfl (EvP.cons (v:=(.int .u64 1242879168328830382)) rfl (EvP.cons (v:=(.int .u64 1977374033974150939)) rfl (EvP.cons (v:=(.int .u64 2944078676154940804)) rfl (EvP.cons (v:=(.int .u64 3659926193048069267)) rfl (EvP.cons (v:=(.int .u64 4368137639120453308)) rfl (EvP.cons (v:=(.int .u64 4836135668995329356)) rfl (EvP.cons (v:=(.int .u64 5532061633213252278)) rfl (EvP.cons (v:=(.int .u64 6448918945643986474)) rfl (EvP.cons (v:=(.int .u64 6902733635092675308)) rfl (EvP.cons (v:=(.int .u64 7801388544844847127)) rfl EvP.nil)))))))))))))))))))))))))))))))))))))))))))))))))))))))))))))))))))))))))))))))) (by kernel_rfl) _) 0 ?_))
 refine zW 0 hH rfl K64 ?_
 clear hH
 intro w hH
 refine zn (ar (aI 1 (hH.blk 0 rfl) rfl rfl (by kernel_rfl) (Cod.size _ _) (by kernel_rfl) ?_))
 exact zE hH
def mzB(l:List UInt8)(z n k:Nat):List UInt8:=mzL l (z+min k 8)++be8 n (k-8)
theorem xN{l:List UInt8}{z n k:Nat}(h:k<8):mzB l z n k++[0]=mzB l z n (k+1):=by
 unfold mzB
 rw[show k-8=0 by omega,show k+1-8=0 by omega,show min k 8=k by omega,show min (k+1) 8=k+1 by omega]
 show mzL l (z+k)++[]++[0]=mzL l (z+(k+1))++[]
 rw[List.append_nil,List.append_nil,kp];rfl
theorem xO{l:List UInt8}{z n k:Nat}(h:8≤k):mzB l z n k++[UInt8.ofNat (n/2^(8*(15-k)))]=mzB l z n (k+1):=by
 unfold mzB
 rw[show min k 8=8 by omega,show min (k+1) 8=8 by omega,show k+1-8=(k-8)+1 by omega,List.append_assoc]
 unfold be8
 rw[iu,show 7-(k-8)=15-k by omega]
theorem xP(A:Option Addr)(n c:Nat)(l:List UInt8)(hb:n≤140737488350000):Does Tryz.prog 88 #[(.slice A n c),(.int .i64 128),(.int .i64 16)] [] (fun w=>Vu af w A n c l) (fun v E'=>OwnT af 5 v (pdN l) E'):=by
 refine dU Tryz.func88 Tryz.ntmps88 ?_
 intro w0 hH hR
 replace hH:HH w0 [] [] w0:=hH.only [false]
 have hn:=hR.len
 have hnb:=mH n
 refine zr (zv .mv 0 ?_)
 refine zn (zr (zm hH (fun _ hF=>j8 (e:=5) rfl (by kernel_rfl) (by kernel_rfl)) trivial 1 ?_))
 clear hH
 rintro _ _ w ⟨g1,rfl,rfl⟩ hH
 refine zv .mv 0 ?_
 refine ze 0 hH rfl (fun _ hF=>cf (C:=af) (l:=[]) (m:=l) (e:=5) (z:=(.int .u8 0)) (by_:=1) rfl (by kernel_rfl) (by kernel_rfl) rfl (ltb rfl) (hF.ev 1 rfl) ((Bk.lit0 (C:=af)).own 5 g1 rfl) (hF.ev 0 rfl) hn (fun h=>⟨by have:=hR.nil h;have:=hR.cap;omega,hR.nil h⟩) (by rw[List.length_nil];unfold maxLen;omega) (by rw[List.length_nil];omega)) (hH.vu hR (by decide) (Off.nil _ _)) 3 ?_
 clear hH
 rintro v4 E5 w ⟨hO6,_⟩ hH
 replace hO6:OwnT af 5 v4 l E5:=hO6
 obtain ⟨A2,c3,rfl⟩:=hO6.slice
 refine zv .mv 1 ?_
 refine zn (zr (zv .mv 1 ?_))
 refine zm hH (fun _ hF=>cx (e:=5) (sz:=1) (z:=(.int .u8 0)) (by_:=1) (cs:=af.enc 128) rfl (by kernel_rfl) (by kernel_rfl) rfl (af.len 128) (ltb rfl) (leb rfl) rfl) trivial 0 ?_
 clear hH
 rintro _ _ w ⟨g7,rfl,rfl⟩ hH
 refine ze 0 hH rfl (fun _ hF=>cf (C:=af) (l:=l) (m:=[128]) (e:=5) (z:=(.int .u8 0)) (by_:=1) rfl (by kernel_rfl) (by kernel_rfl) rfl (ltb rfl) (hF.ev 1 rfl) hO6 (hF.ev 0 rfl) rfl (fun h=>by cases h) (by unfold maxLen;omega) (by omega)) ((Bk.lit1 (C:=af) 128).vu (n:=1) (hH.blk 1 rfl) rfl) 3 ?_
 clear hH
 rintro v10 E11 w ⟨hO12,_⟩ hH
 replace hO12:OwnT af 5 v10 (l++[128]) E11:=hO12
 obtain ⟨A8,c9,rfl⟩:=hO12.slice
 refine zv .mv 1 ?_
 refine zn (aj (ai ?_))
 replace hH:HH w0 [] [E11] w:=hH.only [true]
 refine zL5 (fun (_:Nat) (A1:Option Addr) (c1:Nat) (L:List UInt8) (_:Hl)=>[(7,(.slice A1 L.length c1)),(2,(.int .i64 16)),(1,(.int .i64 128)),(0,(.slice A n c))]) (fun z A1 c1 L E1 w=>HH w0 [] [E1] w∧(OwnT af 5 (.slice A1 L.length c1) L E1)∧(L=mzL l z)∧(L.length=n+1+z)∧(n+1+z+16≤128*bT n)) (fun z _ _ _ _=>128*bT n-(n+1+z)) 0 A8 c9 (l++[128]) E11 ⟨hH,hO12,(by simp[mzL]),(by rw[List.length_append,hn];rfl),(by omega)⟩ ?_
 clear hH
 rintro z A1 c1 L E1 w ⟨hH,hO,hL,hlen,hz⟩
 refine aj (zr (zv .mv 0 ?_))
 refine zv .len 1 ?_
 refine zv .mv 0 ?_
 refine zv (.add (((L.length+16):Nat):Int)) 3 ?_
 refine zv .mv 0 ?_
 refine zv (v:=(.int .i64 ((((L.length+16)%128):Nat):Int))) (fun _ _ hF=>bm (z:=(((L.length+16)%128:Nat):Int)) rfl (hF.ev 1 rfl) (hF.ev 0 rfl) (by omega) bW) 3 ?_
 refine zv (.ne ((L.length+16)%128≠0)) 1 ?_
 refine zn ?_
 refine zP (fun hc13 => ?_) (fun hc13 => ?_)
 refine aA (ag (ai (aC (zv .mv 3 ?_))))
 refine zm hH (fun _ hF=>cx (e:=5) (sz:=1) (z:=(.int .u8 0)) (by_:=1) (cs:=af.enc 0) rfl (by kernel_rfl) (by kernel_rfl) rfl (af.len 0) (ltb rfl) (leb rfl) rfl) trivial 0 ?_
 clear hH
 rintro _ _ w ⟨g14,rfl,rfl⟩ hH
 refine ze 0 hH rfl (fun _ hF=>cf (C:=af) (l:=L) (m:=[0]) (e:=5) (z:=(.int .u8 0)) (by_:=1) rfl (by kernel_rfl) (by kernel_rfl) rfl (ltb rfl) (hF.ev 1 rfl) hO (hF.ev 0 rfl) rfl (fun h=>by cases h) (by unfold maxLen;omega) (by omega)) ((Bk.lit1 (C:=af) 0).vu (n:=1) (hH.blk 1 rfl) rfl) 3 ?_
 clear hH
 rintro v17 E18 w ⟨hO19,_⟩ hH
 replace hO19:OwnT af 5 v17 (L++[0]) E18:=hO19
 obtain ⟨A15,c16,rfl⟩:=hO19.slice
 refine zv .mv 1 ?_
 refine aD (aN ?_)
 replace hH:HH w0 [] [E18] w:=hH.only [true,false]
 exact zR5 (z+1) A15 c16 (L++[0]) E18 ⟨hH,hO19,(by rw[hL,kp]),(by rw[List.length_append,hlen];show n+1+z+1=_;omega),(show n+1+(z+1)+16≤128*bT n from by omega)⟩ (by omega)
 refine aJ (ak (ak (aR (ag ?_))))
 have hze:n+1+z+16=128*bT n:=by omega
 refine zr (zv .mv 25 ?_)
 refine zv .len 1 ?_
 refine zv (.cu .u64) 1 ?_
 refine zv (v:=(.int .u64 (((n*8):Nat):Int))) (fun _ _ hF=>i9 (m:=n) (j:=8) (z:=(n*8)) rfl rfl (hF.ev 0 rfl) rfl (Nat.mod_eq_of_lt (by show _<18446744073709551616;omega))) 1 ?_
 refine zv .mv 1 ?_
 refine zn (aj (zr (zv .mv 4 ?_)))
 refine zv (v:=(.int .i64 15)) (fun _ _ hF=>ju rfl (hF.ev 0 rfl) rfl (by decide)) 1 ?_
 refine zv .mv 1 ?_
 refine zn (ai (zL5 (fun (k:Nat) (A1:Option Addr) (c1:Nat) (L:List UInt8) (_:Hl)=>[(9,(.int .i64 (15-((k:Nat):Int)))),(8,(.int .u64 (((n*8):Nat):Int))),(7,(.slice A1 L.length c1))]) (fun k A1 c1 L E1 w=>HH w0 [] [E1] w∧(OwnT af 5 (.slice A1 L.length c1) L E1)∧(L=mzB l z (n*8) k)∧(L.length=n+1+z+k)∧(k≤16)) (fun k _ _ _ _=>16-k) 0 A1 c1 L E1 ⟨hH,hO,(by rw[hL];simp[mzB,be8,lst]),hlen,(Nat.zero_le _)⟩ ?_))
 clear hH
 rintro k A1 c1 L E1 w ⟨hH,hO,hL2,hlen2,hk⟩
 refine aj (zr (zv .mv 0 ?_))
 refine zv (v:=(.bool (decide ((15-((k:Nat):Int)) ≥ 0)))) (fun _ _ hF=>fL rfl (hF.ev 0 rfl) rfl rfl) 1 ?_
 refine zn ?_
 refine zP (fun hc20 => ?_) (fun hc20 => ?_)
 refine aA (ag (aj (ai (zr (zv .mv 1 ?_)))))
 refine zv (v:=(.bool (decide ((15-((k:Nat):Int)) ≥ 8)))) (fun _ _ hF=>fL rfl (hF.ev 0 rfl) rfl rfl) 1 ?_
 refine zn ?_
 refine zP (fun hc21 => ?_) (fun hc21 => ?_)
 refine aC (zv .mv 9 ?_)
 refine zm hH (fun _ hF=>cx (e:=5) (sz:=1) (z:=(.int .u8 0)) (by_:=1) (cs:=af.enc 0) rfl (by kernel_rfl) (by kernel_rfl) rfl (af.len 0) (ltb rfl) (leb rfl) rfl) trivial 0 ?_
 clear hH
 rintro _ _ w ⟨g22,rfl,rfl⟩ hH
 refine ze 0 hH rfl (fun _ hF=>cf (C:=af) (l:=L) (m:=[0]) (e:=5) (z:=(.int .u8 0)) (by_:=1) rfl (by kernel_rfl) (by kernel_rfl) rfl (ltb rfl) (hF.ev 1 rfl) hO (hF.ev 0 rfl) rfl (fun h=>by cases h) (by unfold maxLen;omega) (by omega)) ((Bk.lit1 (C:=af) 0).vu (n:=1) (hH.blk 1 rfl) rfl) 3 ?_
 clear hH
 rintro v25 E26 w ⟨hO27,_⟩ hH
 replace hO27:OwnT af 5 v25 (L++[0]) E26:=hO27
 obtain ⟨A23,c24,rfl⟩:=hO27.slice
 refine zv .mv 1 ?_
 refine aD (aN (ag (aC (zv .mv 2 ?_))))
 refine zv (.sub (15-((k+1:Nat):Int))) 1 ?_
 refine zv .mv 1 ?_
 refine aD ?_
 replace hH:HH w0 [] [E26] w:=hH.only [true,false]
 exact zR5 (k+1) A23 c24 (L++[0]) E26 ⟨hH,hO27,(by rw[hL2];exact xN (show k<8 by omega)),(by rw[List.length_append,hlen2];show n+1+z+k+1=_;omega),(by omega)⟩ (by omega)
 refine aC (zv .mv 9 ?_)
 refine zv .mv 0 ?_
 refine zv .mv 0 ?_
 refine zv (.mul (((8*(15-k)):Nat):Int)) 1 ?_
 refine zv (.cu .u64) 1 ?_
 refine zv (v:=(.int .u64 ((((n*8)/2^(8*(15-k))):Nat):Int))) (fun _ _ hF=>du (n:=8*(15-k)) (z:=((n*8)/2^(8*(15-k)))) rfl (hF.ev 1 rfl) (hF.ev 0 rfl) (by show _≤64;omega) (rfl)) 3 ?_
 refine zv .cb 1 ?_
 refine zm hH (fun _ hF=>cx (e:=5) (sz:=1) (z:=(.int .u8 0)) (by_:=1) (cs:=af.enc (UInt8.ofNat ((n*8)/2^(8*(15-k))))) rfl (by kernel_rfl) (by kernel_rfl) (hF.ev 0 rfl) (af.len (UInt8.ofNat ((n*8)/2^(8*(15-k))))) (ltb rfl) (leb rfl) rfl) trivial 1 ?_
 clear hH
 rintro _ _ w ⟨g28,rfl,rfl⟩ hH
 refine ze 0 hH rfl (fun _ hF=>cf (C:=af) (l:=L) (m:=[(UInt8.ofNat ((n*8)/2^(8*(15-k))))]) (e:=5) (z:=(.int .u8 0)) (by_:=1) rfl (by kernel_rfl) (by kernel_rfl) rfl (ltb rfl) (hF.ev 1 rfl) hO (hF.ev 0 rfl) rfl (fun h=>by cases h) (by unfold maxLen;omega) (by omega)) ((Bk.lit1 (C:=af) (UInt8.ofNat ((n*8)/2^(8*(15-k))))).vu (n:=1) (hH.blk 1 rfl) rfl) 3 ?_
 clear hH
 rintro v31 E32 w ⟨hO33,_⟩ hH
 replace hO33:OwnT af 5 v31 (L++[(UInt8.ofNat ((n*8)/2^(8*(15-k))))]) E32:=hO33
 obtain ⟨A29,c30,rfl⟩:=hO33.slice
 refine zv .mv 1 ?_
 refine aD (aN (ag (aC (zv .mv 2 ?_))))
 refine zv (.sub (15-((k+1:Nat):Int))) 1 ?_
 refine zv .mv 1 ?_
 refine aD ?_
 replace hH:HH w0 [] [E32] w:=hH.only [true,false]
 exact zR5 (k+1) A29 c30 (L++[(UInt8.ofNat ((n*8)/2^(8*(15-k))))]) E32 ⟨hH,hO33,(by rw[hL2];exact xO (show 8≤k by omega)),(by rw[List.length_append,hlen2];show n+1+z+k+1=_;omega),(by omega)⟩ (by omega)
 refine aJ (ak (ak (aR (ag (zr (zv .mv 15 ?_))))))
 refine zv .mv 1 ?_
 refine zn (ar (aW 0 rfl rfl ?_))
 obtain rfl:k=16:=by omega
 subst hn
 replace hL2:L=mzL l (z+8)++be8 (l.length*8) 8:=hL2
 rw[xM hze]at hL2
 subst hL2
 exact ⟨_,_,rfl,hO,hH.out1 [true] rfl⟩
theorem xQ(A:Option Addr)(n c:Nat)(l:List UInt8)(hb:n≤140737488350000):Pure Tryz.prog 82 #[(.slice A n c)] (fun w=>Vu af w A n c l) ((ac 64).val (bN l)):=by
 refine pU Tryz.func82 Tryz.ntmps82 ?_
 intro w0 hH hR
 have hn:=hR.len
 have hnb:=mH n
 obtain ⟨F,hF⟩:∃ F,F=gI n fun j=>l.getD j 0:=⟨_,rfl⟩
 have hM:∀ j,j<128*bT n→(pdN l)[j]?=some (F j):=fun j hj=>by rw[hF];subst hn;exact bB hj
 refine zr (zA hH (ac 64) (fun _=>0) 0 ?_)
 clear hH
 intro g1 w hH
 refine zn (zr (zv (v:=((cQs 8).val H64)) (fun _ _ hF=>aE (cells:=(cQs 8).enc H64) (vals:=[(0,(.int .u64 7640891576956012808)),(1,(.int .u64 13503953896175478587)),(2,(.int .u64 4354685564936845355)),(3,(.int .u64 11912009170470909681)),(4,(.int .u64 5840696475078001361)),(5,(.int .u64 11170449401992604703)),(6,(.int .u64 2270897969802886507)),(7,(.int .u64 6620516959819538809))]) rfl (EvP.cons (v:=(.int .u64 7640891576956012808)) rfl (EvP.cons (v:=(.int .u64 13503953896175478587)) rfl (EvP.cons (v:=(.int .u64 4354685564936845355)) rfl (EvP.cons (v:=(.int .u64 11912009170470909681)) rfl (EvP.cons (v:=(.int .u64 5840696475078001361)) rfl (EvP.cons (v:=(.int .u64 11170449401992604703)) rfl (EvP.cons (v:=(.int .u64 2270897969802886507)) rfl (EvP.cons (v:=(.int .u64 6620516959819538809)) rfl EvP.nil)))))))) (by kernel_rfl) _) 0 ?_))
 refine zA hH (cQs 8) (fun _=>0) 0 ?_
 clear hH
 intro g2 w hH
 refine zW 1 hH rfl H64 ?_
 clear hH
 intro w hH
 refine zn (zr (zc Tryz.func122 (Ck ) trivial hH 2 ?_))
 clear hH
 intro w hH
 refine zA hH (cQs 80) (fun _=>0) 0 ?_
 clear hH
 intro g3 w hH
 refine zW 2 hH rfl K64 ?_
 clear hH
 intro w hH
 refine zn (zr (zv .mv 18 ?_))
 refine zm hH (.call Tryz.func88 ((xP A n c l hb))) (hH.vu hR (by decide) (Off.nil _ _)) 1 ?_
 clear hH
 rintro v8 E4 w hO5 hH
 obtain ⟨A6,c7,rfl⟩:=hO5.slice
 refine zv .mv 1 ?_
 refine zn (aj ?_)
 have hlM:=qr l
 rw[hn]at hlM
 obtain ⟨g10,cap11,cur12,hv14,rfl,hB13⟩:=hO5.open (by omega)
 obtain ⟨rfl,rfl⟩:A6=some ⟨g10,0,none⟩∧c7=cap11:=by injection hv14 with h1 h2 h3;exact ⟨h1,h3⟩
 have:=hB13.le
 have he15:(cQs 8).enc (aK F 0)=(cQs 8).enc H64:=aP (fun _ _=>rfl)
 replace hH:HH w0 [] [[bl g1 93 ((ac 64).enc (fun _=>0))],[bl g2 141 ((cQs 8).enc (aK F 0))],[bl g3 159 ((cQs 80).enc K64)],[bl g10 5 cur12]] w:=by rw[he15];exact hH
 refine zr (zv .mv 0 ?_)
 refine zn (ai (zL1 (fun (i:Nat)=>[(6,(.int .i64 (((128*i):Nat):Int))),(5,(.slice (some ⟨g10,0,none⟩) ((pdN l).length) c7)),(4,(.pointer (some ⟨g3,0,none⟩))),(3,(.pointer (some ⟨g2,0,none⟩))),(2,(.pointer (some ⟨g1,0,none⟩)))]) (fun i w=>HH w0 [] [[bl g1 93 ((ac 64).enc (fun _=>0))],[bl g2 141 ((cQs 8).enc (aK F i))],[bl g3 159 ((cQs 80).enc K64)],[bl g10 5 cur12]] w∧(i≤bT n)) (fun i=>bT n-i) 0 ⟨hH,(Nat.zero_le _)⟩ ?_))
 clear hH
 rintro i w ⟨hH,hi⟩
 refine aj (zr (zv .mv 0 ?_))
 refine zv .mv 0 ?_
 refine zv .len 1 ?_
 refine zv (.lt (128*i<(pdN l).length)) 3 ?_
 refine zn ?_
 refine zP (fun hc16 => ?_) (fun hc16 => ?_)
 refine aA (ag (aj (ai (zr (zA hH (cQs 80) (fun _=>0) 1 ?_)))))
 clear hH
 intro g17 w hH
 refine zn (aj ?_)
 have he18:(cQs 80).enc (aT (aH F i) (8*0))=(cQs 80).enc (fun _=>0):=aP (fun _ _=>by rw[lT])
 replace hH:HH w0 [] [[bl g1 93 ((ac 64).enc (fun _=>0))],[bl g2 141 ((cQs 8).enc (aK F i))],[bl g3 159 ((cQs 80).enc K64)],[bl g10 5 cur12],[bl g17 159 ((cQs 80).enc (aT (aH F i) (8*0)))]] w:=by rw[he18];exact hH
 refine zr (zv .mv 0 ?_)
 refine zn (ai (zL1 (fun (q:Nat)=>[(32,(.int .i64 q)),(7,(.pointer (some ⟨g17,0,none⟩))),(6,(.int .i64 (((128*i):Nat):Int))),(5,(.slice (some ⟨g10,0,none⟩) ((pdN l).length) c7)),(4,(.pointer (some ⟨g3,0,none⟩))),(3,(.pointer (some ⟨g2,0,none⟩))),(2,(.pointer (some ⟨g1,0,none⟩)))]) (fun q w=>HH w0 [] [[bl g1 93 ((ac 64).enc (fun _=>0))],[bl g2 141 ((cQs 8).enc (aK F i))],[bl g3 159 ((cQs 80).enc K64)],[bl g10 5 cur12],[bl g17 159 ((cQs 80).enc (aT (aH F i) (8*q)))]] w∧(q≤16)) (fun q=>16-q) 0 ⟨hH,(Nat.zero_le _)⟩ ?_))
 clear hH
 rintro q w ⟨hH,hq⟩
 refine zr (zv (.lt (q<16)) 0 ?_)
 refine zn (aj ?_)
 refine zP (fun hc19 => ?_) (fun hc19 => ?_)
 refine aA (ag (aj (ai (zr (zv .mv 1 ?_)))))
 refine zv .mv 1 ?_
 refine zn ?_
 have he20:(cQs 80).enc (aT (aH F i) (8*q+0))=(cQs 80).enc (aT (aH F i) (8*q)):=aP (fun _ _=>rfl)
 replace hH:HH w0 [] [[bl g1 93 ((ac 64).enc (fun _=>0))],[bl g2 141 ((cQs 8).enc (aK F i))],[bl g3 159 ((cQs 80).enc K64)],[bl g10 5 cur12],[bl g17 159 ((cQs 80).enc (aT (aH F i) (8*q+0)))]] w:=by rw[he20];exact hH
 refine zr (zv .mv 0 ?_)
 refine zn (ai (zL1 (fun (r:Nat)=>[(35,(.int .i64 r)),(32,(.int .i64 q)),(8,(.int .i64 q)),(7,(.pointer (some ⟨g17,0,none⟩))),(6,(.int .i64 (((128*i):Nat):Int))),(5,(.slice (some ⟨g10,0,none⟩) ((pdN l).length) c7)),(4,(.pointer (some ⟨g3,0,none⟩))),(3,(.pointer (some ⟨g2,0,none⟩))),(2,(.pointer (some ⟨g1,0,none⟩)))]) (fun r w=>HH w0 [] [[bl g1 93 ((ac 64).enc (fun _=>0))],[bl g2 141 ((cQs 8).enc (aK F i))],[bl g3 159 ((cQs 80).enc K64)],[bl g10 5 cur12],[bl g17 159 ((cQs 80).enc (aT (aH F i) (8*q+r)))]] w∧(r≤8)) (fun r=>8-r) 0 ⟨hH,(Nat.zero_le _)⟩ ?_))
 clear hH
 rintro r w ⟨hH,hr⟩
 refine zr (zv (.lt (r<8)) 0 ?_)
 refine zn (aj ?_)
 refine zP (fun hc21 => ?_) (fun hc21 => ?_)
 refine aA (ag (aj (ai (zr (zv .mv 1 ?_)))))
 refine zv .mv 1 ?_
 refine zn ?_
 have hx0:(pdN l)[128*i+8*q+r]?=some ((aH F i) (8*q+r)):=by rw[Nat.add_assoc];exact hM _ (by omega)
 refine br mixedOrders (by kernel_rfl) ?_
 replace hH:=hH.drew
 refine rv 0 .mv 0 ?_
 refine rv 1 .mv 0 ?_
 have hi22:q<80:=by omega
 refine rv 2 (.ia 1 80 q (hi:=hi22)) 1 ?_
 refine rld 3 (hH.q 4 rfl) (.ld cWq ((aT (aH F i) (8*q+r)) q) (fun _ hS=>((ae hS).eltV hi22))) 1 ?_
 refine rv 4 (.lq 8) 1 ?_
 refine rv 5 .mv 0 ?_
 refine rv 6 .mv 0 ?_
 refine rv 7 .mv 0 ?_
 refine rv 8 (.mul ((8*q:Nat):Int)) 1 ?_
 refine rv 9 (.add (((128*i+8*q):Nat):Int)) 3 ?_
 refine rv 10 .mv 16 ?_
 refine rv 11 (.add (((128*i+8*q+r):Nat):Int)) 3 ?_
 have hi23:128*i+8*q+r<(pdN l).length:=by omega
 have hj26:128*i+8*q+r<(pdN l).length:=by omega
 refine rv 12 (.ix 1 (128*i+8*q+r) (hi:=hi23)) 3 ?_
 refine rld 13 (hH.q 3 rfl) (.ld af ((aH F i) (8*q+r)) (fun _ hS=>((hB13.holdsL hS) (128*i+8*q+r) _ hx0))) 1 ?_
 refine rv 14 (v:=(.int .u64 ((((UInt64.ofNat ((aH F i) (8*q+r)).toNat).toNat):Nat):Int))) (fun _ _ hF=>qq (z:=UInt64.ofNat ((aH F i) (8*q+r)).toNat) rfl rfl (by kernel_rfl) (hF.ev 0 rfl) rfl) 1 ?_
 refine rv 15 (.oq (aT (aH F i) ((8*q+r)+1) q) (hz:=lS (aH F i) (8*q+r) q (by omega))) 3 ?_
 have hi27:q<80:=by omega
 refine rv 16 (.ia 1 80 q (hi:=hi27)) 2 ?_
 refine ao 17 ?_
 refine re0 17 4 hH rfl (.st cWq (aT (aH F i) ((8*q+r)+1) q) (aU (S:=sWq) (C:=(cQs 80)) rfl hi27) (bE (aT (aH F i) (8*q+r)) (aT (aH F i) ((8*q+r)+1) q) hi27)) trivial (pgo [] (pgo [] (.nil _ []))) ?_
 clear hH
 rintro _ _ w rfl hH
 refine ⟨an,bQ (by kernel_rfl) ?_⟩
 refine aN (ag (aC (zv (.add ((r+1:Nat):Int)) 7 ?_)))
 refine zv .mv 1 ?_
 refine aD ?_
 have he28:(cQs 80).enc (aT (aH F i) (8*q+(r+1)))=(cQs 80).enc (stF (aT (aH F i) (8*q+r)) q (aT (aH F i) ((8*q+r)+1) q)):=aP (fun j _=>(congrFun (nQ (aH F i) (8*q+r) q _ (by omega) rfl) j).symm)
 replace hH:HH w0 [] [[bl g1 93 ((ac 64).enc (fun _=>0))],[bl g2 141 ((cQs 8).enc (aK F i))],[bl g3 159 ((cQs 80).enc K64)],[bl g10 5 cur12],[bl g17 159 ((cQs 80).enc (aT (aH F i) (8*q+(r+1))))]] w:=by rw[he28];exact hH
 exact zR1 (r+1) ⟨hH,(by omega)⟩ (by omega)
 refine aJ (ak (ak (aR (aN (ag (aC (zv (.add ((q+1:Nat):Int)) 15 ?_)))))))
 refine zv .mv 1 ?_
 refine aD ?_
 obtain rfl:r=8:=by omega
 have he29:(cQs 80).enc (aT (aH F i) (8*(q+1)))=(cQs 80).enc (aT (aH F i) (8*q+8)):=aP (fun _ _=>by rw[show 8*(q+1)=8*q+8 by omega])
 replace hH:HH w0 [] [[bl g1 93 ((ac 64).enc (fun _=>0))],[bl g2 141 ((cQs 8).enc (aK F i))],[bl g3 159 ((cQs 80).enc K64)],[bl g10 5 cur12],[bl g17 159 ((cQs 80).enc (aT (aH F i) (8*(q+1))))]] w:=by rw[he29];exact hH
 exact zR1 (q+1) ⟨hH,(by omega)⟩ (by omega)
 refine aJ (ak (ak (aR (ag (aj ?_)))))
 obtain rfl:q=16:=by omega
 have he30:(cQs 80).enc (upF 16 (W64 (aH F i)) (aT (aH F i) 128))=(cQs 80).enc (aT (aH F i) (8*16)):=aP (fun _ _=>by rw[lU])
 replace hH:HH w0 [] [[bl g1 93 ((ac 64).enc (fun _=>0))],[bl g2 141 ((cQs 8).enc (aK F i))],[bl g3 159 ((cQs 80).enc K64)],[bl g10 5 cur12],[bl g17 159 ((cQs 80).enc (upF 16 (W64 (aH F i)) (aT (aH F i) 128)))]] w:=by rw[he30];exact hH
 refine zr (zv .mv 3 ?_)
 refine zn (ai (zL1 (fun (t:Nat)=>[(10,(.int .i64 t)),(7,(.pointer (some ⟨g17,0,none⟩))),(6,(.int .i64 (((128*i):Nat):Int))),(5,(.slice (some ⟨g10,0,none⟩) ((pdN l).length) c7)),(4,(.pointer (some ⟨g3,0,none⟩))),(3,(.pointer (some ⟨g2,0,none⟩))),(2,(.pointer (some ⟨g1,0,none⟩)))]) (fun t w=>HH w0 [] [[bl g1 93 ((ac 64).enc (fun _=>0))],[bl g2 141 ((cQs 8).enc (aK F i))],[bl g3 159 ((cQs 80).enc K64)],[bl g10 5 cur12],[bl g17 159 ((cQs 80).enc (upF t (W64 (aH F i)) (aT (aH F i) 128)))]] w∧(16≤t)∧(t≤80)) (fun t=>80-t) 16 ⟨hH,(Nat.le_refl _),(by decide)⟩ ?_))
 clear hH
 rintro t w ⟨hH,ht,ht2⟩
 refine aj (zr (zv .mv 0 ?_))
 refine zv (.lt (t<80)) 1 ?_
 refine zn ?_
 refine zP (fun hc31 => ?_) (fun hc31 => ?_)
 refine aA (ag (aj (ai (zx ?_))))
 replace hH:=hH.drew
 refine rv 0 .mv 1 ?_
 refine rv 1 (.sub (((t-2):Nat):Int)) 1 ?_
 have hi32:t-2<80:=by omega
 refine rv 2 (.ia 1 80 (t-2) (hi:=hi32)) 1 ?_
 refine rld 3 (hH.q 4 rfl) (.ld cWq ((upF t (W64 (aH F i)) (aT (aH F i) 128)) (t-2)) (fun _ hS=>((ae hS).eltV hi32))) 1 ?_
 refine rv 5 .mv 0 ?_
 refine rv 6 (.sub (((t-2):Nat):Int)) 1 ?_
 have hi33:t-2<80:=by omega
 refine rv 7 (.ia 1 80 (t-2) (hi:=hi33)) 1 ?_
 refine rld 8 (hH.q 4 rfl) (.ld cWq ((upF t (W64 (aH F i)) (aT (aH F i) 128)) (t-2)) (fun _ hS=>((ae hS).eltV hi33))) 1 ?_
 refine rv 11 .mv 0 ?_
 refine rv 12 (.sub (((t-2):Nat):Int)) 1 ?_
 have hi34:t-2<80:=by omega
 refine rv 13 (.ia 1 80 (t-2) (hi:=hi34)) 1 ?_
 refine rld 14 (hH.q 4 rfl) (.ld cWq ((upF t (W64 (aH F i)) (aT (aH F i) 128)) (t-2)) (fun _ hS=>((ae hS).eltV hi34))) 1 ?_
 refine rv 15 (.rq 6) 1 ?_
 refine ao 4 (rpc 4 Tryz.func123 (ei ((upF t (W64 (aH F i)) (aT (aH F i) 128)) (t-2)) 19 (ltb rfl) (ltb rfl)) trivial hH 4 (.keep (.keep (pgo [] (.nil _ [])))) ?_)
 clear hH
 intro w hH
 refine ⟨am (hH.blk 4 rfl) (am (hH.blk 4 rfl) an),?_⟩
 refine ao 9 (rpc 9 Tryz.func123 (ei ((upF t (W64 (aH F i)) (aT (aH F i) 128)) (t-2)) 61 (ltb rfl) (ltb rfl)) trivial hH 4 (.keep (pgo [] (.nil _ []))) ?_)
 clear hH
 intro w hH
 refine ⟨am (hH.blk 4 rfl) an,?_⟩
 refine rv 10 (.xq (cJ (cK ((upF t (W64 (aH F i)) (aT (aH F i) 128)) (t-2)) 19) (cK ((upF t (W64 (aH F i)) (aT (aH F i) 128)) (t-2)) 61))) 3 ?_
 refine rv 16 (.xq (cF (upF t (W64 (aH F i)) (aT (aH F i) 128) (t-2)))) 3 ?_
 refine rv 17 .mv 1 ?_
 refine rn ?_
 refine zx ?_
 replace hH:=hH.drew
 refine rv 0 .mv 0 ?_
 refine rv 1 (.sub (((t-15):Nat):Int)) 1 ?_
 have hi35:t-15<80:=by omega
 refine rv 2 (.ia 1 80 (t-15) (hi:=hi35)) 1 ?_
 refine rld 3 (hH.q 4 rfl) (.ld cWq ((upF t (W64 (aH F i)) (aT (aH F i) 128)) (t-15)) (fun _ hS=>((ae hS).eltV hi35))) 1 ?_
 refine rv 5 .mv 0 ?_
 refine rv 6 (.sub (((t-15):Nat):Int)) 1 ?_
 have hi36:t-15<80:=by omega
 refine rv 7 (.ia 1 80 (t-15) (hi:=hi36)) 1 ?_
 refine rld 8 (hH.q 4 rfl) (.ld cWq ((upF t (W64 (aH F i)) (aT (aH F i) 128)) (t-15)) (fun _ hS=>((ae hS).eltV hi36))) 1 ?_
 refine rv 11 .mv 0 ?_
 refine rv 12 (.sub (((t-15):Nat):Int)) 1 ?_
 have hi37:t-15<80:=by omega
 refine rv 13 (.ia 1 80 (t-15) (hi:=hi37)) 1 ?_
 refine rld 14 (hH.q 4 rfl) (.ld cWq ((upF t (W64 (aH F i)) (aT (aH F i) 128)) (t-15)) (fun _ hS=>((ae hS).eltV hi37))) 1 ?_
 refine rv 15 (.rq 7) 1 ?_
 refine ao 4 (rpc 4 Tryz.func123 (ei ((upF t (W64 (aH F i)) (aT (aH F i) 128)) (t-15)) 1 (ltb rfl) (ltb rfl)) trivial hH 4 (.keep (.keep (pgo [] (.nil _ [])))) ?_)
 clear hH
 intro w hH
 refine ⟨am (hH.blk 4 rfl) (am (hH.blk 4 rfl) an),?_⟩
 refine ao 9 (rpc 9 Tryz.func123 (ei ((upF t (W64 (aH F i)) (aT (aH F i) 128)) (t-15)) 8 (ltb rfl) (ltb rfl)) trivial hH 4 (.keep (pgo [] (.nil _ []))) ?_)
 clear hH
 intro w hH
 refine ⟨am (hH.blk 4 rfl) an,?_⟩
 refine rv 10 (.xq (cJ (cK ((upF t (W64 (aH F i)) (aT (aH F i) 128)) (t-15)) 1) (cK ((upF t (W64 (aH F i)) (aT (aH F i) 128)) (t-15)) 8))) 3 ?_
 refine rv 16 (.xq (db (upF t (W64 (aH F i)) (aT (aH F i) 128) (t-15)))) 3 ?_
 refine rv 17 .mv 1 ?_
 refine rn ?_
 refine br mixedOrders (by kernel_rfl) ?_
 replace hH:=hH.drew
 refine rv 0 .mv 0 ?_
 refine rv 1 .mv 4 ?_
 refine rv 2 .mv 0 ?_
 refine rv 3 (.sub (((t-7):Nat):Int)) 1 ?_
 have hi38:t-7<80:=by omega
 refine rv 4 (.ia 1 80 (t-7) (hi:=hi38)) 1 ?_
 refine rld 5 (hH.q 4 rfl) (.ld cWq ((upF t (W64 (aH F i)) (aT (aH F i) 128)) (t-7)) (fun _ hS=>((ae hS).eltV hi38))) 1 ?_
 refine rv 6 (.aq (bh (cF (upF t (W64 (aH F i)) (aT (aH F i) 128) (t-2))) ((upF t (W64 (aH F i)) (aT (aH F i) 128)) (t-7)))) 3 ?_
 refine rv 7 .mv 4 ?_
 refine rv 8 (.aq (bh (bh (cF (upF t (W64 (aH F i)) (aT (aH F i) 128) (t-2))) (upF t (W64 (aH F i)) (aT (aH F i) 128) (t-7))) (db (upF t (W64 (aH F i)) (aT (aH F i) 128) (t-15))))) 3 ?_
 refine rv 9 .mv 0 ?_
 refine rv 10 (.sub (((t-16):Nat):Int)) 1 ?_
 have hi39:t-16<80:=by omega
 refine rv 11 (.ia 1 80 (t-16) (hi:=hi39)) 1 ?_
 refine rld 12 (hH.q 4 rfl) (.ld cWq ((upF t (W64 (aH F i)) (aT (aH F i) 128)) (t-16)) (fun _ hS=>((ae hS).eltV hi39))) 1 ?_
 refine rv 13 (.aq (bh (bh (bh (cF (upF t (W64 (aH F i)) (aT (aH F i) 128) (t-2))) (upF t (W64 (aH F i)) (aT (aH F i) 128) (t-7))) (db (upF t (W64 (aH F i)) (aT (aH F i) 128) (t-15)))) ((upF t (W64 (aH F i)) (aT (aH F i) 128)) (t-16)))) 3 ?_
 have hi40:t<80:=by omega
 refine rv 14 (.ia 1 80 t (hi:=hi40)) 2 ?_
 refine ao 15 ?_
 refine re0 15 4 hH rfl (.st cWq (bh (bh (bh (cF (upF t (W64 (aH F i)) (aT (aH F i) 128) (t-2))) (upF t (W64 (aH F i)) (aT (aH F i) 128) (t-7))) (db (upF t (W64 (aH F i)) (aT (aH F i) 128) (t-15)))) ((upF t (W64 (aH F i)) (aT (aH F i) 128)) (t-16))) (aU (S:=sWq) (C:=(cQs 80)) rfl hi40) (bE (upF t (W64 (aH F i)) (aT (aH F i) 128)) (bh (bh (bh (cF (upF t (W64 (aH F i)) (aT (aH F i) 128) (t-2))) (upF t (W64 (aH F i)) (aT (aH F i) 128) (t-7))) (db (upF t (W64 (aH F i)) (aT (aH F i) 128) (t-15)))) ((upF t (W64 (aH F i)) (aT (aH F i) 128)) (t-16))) hi40)) trivial (pgo [] (pgo [] (.nil _ []))) ?_
 clear hH
 rintro _ _ w rfl hH
 refine ⟨an,bQ (by kernel_rfl) ?_⟩
 refine aN (ag (aC (zv .mv 7 ?_)))
 refine zv (.add ((t+1:Nat):Int)) 1 ?_
 refine zv .mv 1 ?_
 refine aD ?_
 have he41:(cQs 80).enc (upF (t+1) (W64 (aH F i)) (aT (aH F i) 128))=(cQs 80).enc (stF (upF t (W64 (aH F i)) (aT (aH F i) 128)) t (bh (bh (bh (cF (upF t (W64 (aH F i)) (aT (aH F i) 128) (t-2))) (upF t (W64 (aH F i)) (aT (aH F i) 128) (t-7))) (db (upF t (W64 (aH F i)) (aT (aH F i) 128) (t-15)))) ((upF t (W64 (aH F i)) (aT (aH F i) 128)) (t-16)))):=aP (fun j _=>(congrFun (bi t (W64 (aH F i)) (aT (aH F i) 128) (nR ht)) j).symm)
 replace hH:HH w0 [] [[bl g1 93 ((ac 64).enc (fun _=>0))],[bl g2 141 ((cQs 8).enc (aK F i))],[bl g3 159 ((cQs 80).enc K64)],[bl g10 5 cur12],[bl g17 159 ((cQs 80).enc (upF (t+1) (W64 (aH F i)) (aT (aH F i) 128)))]] w:=by rw[he41];exact hH
 exact zR1 (t+1) ⟨hH,(by omega),(by omega)⟩ (by omega)
 refine aJ (ak (ak (aR (ag ?_))))
 obtain rfl:t=80:=by omega
 have he42:(cQs 80).enc (W64 (aH F i))=(cQs 80).enc (upF 80 (W64 (aH F i)) (aT (aH F i) 128)):=aP (fun j hj=>(bz _ _ hj).symm)
 replace hH:HH w0 [] [[bl g1 93 ((ac 64).enc (fun _=>0))],[bl g2 141 ((cQs 8).enc (aK F i))],[bl g3 159 ((cQs 80).enc K64)],[bl g10 5 cur12],[bl g17 159 ((cQs 80).enc (W64 (aH F i)))]] w:=by rw[he42];exact hH
 refine zr (zs (hH.q 1 rfl) (.l0 (cQs 8) (aK F i)) 3 ?_)
 refine zA hH (cQs 8) (fun _=>0) 0 ?_
 clear hH
 intro g43 w hH
 refine zW 5 hH rfl (aK F i) ?_
 clear hH
 intro w hH
 refine zn (aj ?_)
 have he44:(cQs 8).enc (av (aH F i) (aK F i) 0)=(cQs 8).enc (aK F i):=aP (fun _ _=>rfl)
 replace hH:HH w0 [] [[bl g1 93 ((ac 64).enc (fun _=>0))],[bl g2 141 ((cQs 8).enc (aK F i))],[bl g3 159 ((cQs 80).enc K64)],[bl g10 5 cur12],[bl g17 159 ((cQs 80).enc (W64 (aH F i)))],[bl g43 141 ((cQs 8).enc (av (aH F i) (aK F i) 0))]] w:=by rw[he44];exact hH
 refine zr (zv .mv 2 ?_)
 refine zn (ai (zL1 (fun (q:Nat)=>[(111,(.int .i64 q)),(13,(.pointer (some ⟨g43,0,none⟩))),(7,(.pointer (some ⟨g17,0,none⟩))),(6,(.int .i64 (((128*i):Nat):Int))),(5,(.slice (some ⟨g10,0,none⟩) ((pdN l).length) c7)),(4,(.pointer (some ⟨g3,0,none⟩))),(3,(.pointer (some ⟨g2,0,none⟩))),(2,(.pointer (some ⟨g1,0,none⟩)))]) (fun q w=>HH w0 [] [[bl g1 93 ((ac 64).enc (fun _=>0))],[bl g2 141 ((cQs 8).enc (aK F i))],[bl g3 159 ((cQs 80).enc K64)],[bl g10 5 cur12],[bl g17 159 ((cQs 80).enc (W64 (aH F i)))],[bl g43 141 ((cQs 8).enc (av (aH F i) (aK F i) q))]] w∧(q≤80)) (fun q=>80-q) 0 ⟨hH,(Nat.zero_le _)⟩ ?_))
 clear hH
 rintro q w ⟨hH,hq⟩
 refine zr (zv (.lt (q<80)) 0 ?_)
 refine zn (aj ?_)
 refine zP (fun hc45 => ?_) (fun hc45 => ?_)
 refine aA (ag (aj (ai (zr (zv .mv 1 ?_)))))
 refine zv .mv 1 ?_
 refine zn (zx ?_)
 replace hH:=hH.drew
 have hi46:4<8:=by omega
 refine rv 0 (.ia 1 8 4 (hi:=hi46)) 0 ?_
 refine rld 1 (hH.q 5 rfl) (.ld cWq ((av (aH F i) (aK F i) q) 4) (fun _ hS=>((ae hS).eltV hi46))) 1 ?_
 have hi47:0<8:=by omega
 refine rv 2 (.ia 1 8 0 (hi:=hi47)) 0 ?_
 refine rld 3 (hH.q 5 rfl) (.ld cWq ((av (aH F i) (aK F i) q) 0) (fun _ hS=>((ae hS).eltV hi47))) 1 ?_
 refine rv 4 .mv 2 ?_
 refine rv 5 .mv 2 ?_
 refine rn ?_
 refine zx ?_
 replace hH:=hH.drew
 have hi48:7<8:=by omega
 refine rv 0 (.ia 1 8 7 (hi:=hi48)) 0 ?_
 refine rld 1 (hH.q 5 rfl) (.ld cWq ((av (aH F i) (aK F i) q) 7) (fun _ hS=>((ae hS).eltV hi48))) 1 ?_
 refine rv 2 .mv 0 ?_
 refine rv 4 .mv 0 ?_
 refine rv 7 .mv 0 ?_
 refine rv 11 .mv 0 ?_
 have hi49:5<8:=by omega
 refine rv 12 (.ia 1 8 5 (hi:=hi49)) 0 ?_
 refine rld 13 (hH.q 5 rfl) (.ld cWq ((av (aH F i) (aK F i) q) 5) (fun _ hS=>((ae hS).eltV hi49))) 1 ?_
 refine rv 14 (.nq (bL ((av (aH F i) (aK F i) q) 4) ((av (aH F i) (aK F i) q) 5))) 3 ?_
 refine rv 15 .mv 64 ?_
 refine rv 16 .cq 1 ?_
 have hi50:6<8:=by omega
 refine rv 17 (.ia 1 8 6 (hi:=hi50)) 0 ?_
 refine rld 18 (hH.q 5 rfl) (.ld cWq ((av (aH F i) (aK F i) q) 6) (fun _ hS=>((ae hS).eltV hi50))) 1 ?_
 refine rv 19 (.nq (bL (ez ((av (aH F i) (aK F i) q) 4)) ((av (aH F i) (aK F i) q) 6))) 3 ?_
 refine rv 20 (.xq (wa (av (aH F i) (aK F i) q 4) (av (aH F i) (aK F i) q 5) (av (aH F i) (aK F i) q 6))) 3 ?_
 refine rv 22 .mv 0 ?_
 have hi51:q<80:=by omega
 refine rv 23 (.ia 1 80 q (hi:=hi51)) 1 ?_
 refine rld 24 (hH.q 2 rfl) (.ld cWq (K64 q) (fun _ hS=>((ae hS).eltV hi51))) 1 ?_
 refine rv 26 .mv 128 ?_
 have hi52:q<80:=by omega
 refine rv 27 (.ia 1 80 q (hi:=hi52)) 1 ?_
 refine rld 28 (hH.q 4 rfl) (.ld cWq ((W64 (aH F i)) q) (fun _ hS=>((ae hS).eltV hi52))) 1 ?_
 refine ao 3 (rpc 3 Tryz.func123 (ei ((av (aH F i) (aK F i) q) 4) 14 (ltb rfl) (ltb rfl)) trivial hH 32 (.keep (.keep (.keep (.keep (.keep (.nil _ [])))))) ?_)
 clear hH
 intro w hH
 refine ⟨am (hH.blk 4 rfl) (am (hH.blk 2 rfl) (am (hH.blk 5 rfl) (am (hH.blk 5 rfl) (am (hH.blk 5 rfl) an)))),?_⟩
 refine ao 5 (rpc 5 Tryz.func123 (ei ((av (aH F i) (aK F i) q) 4) 18 (ltb rfl) (ltb rfl)) trivial hH 32 (.keep (.keep (.keep (.keep (.keep (.nil _ [])))))) ?_)
 clear hH
 intro w hH
 refine ⟨am (hH.blk 4 rfl) (am (hH.blk 2 rfl) (am (hH.blk 5 rfl) (am (hH.blk 5 rfl) (am (hH.blk 5 rfl) an)))),?_⟩
 refine rv 6 (.xq (cJ (cK ((av (aH F i) (aK F i) q) 4) 14) (cK ((av (aH F i) (aK F i) q) 4) 18))) 3 ?_
 refine ao 8 (rpc 8 Tryz.func123 (ei ((av (aH F i) (aK F i) q) 4) 41 (ltb rfl) (ltb rfl)) trivial hH 16 (.keep (.keep (.keep (.keep (.keep (.nil _ [])))))) ?_)
 clear hH
 intro w hH
 refine ⟨am (hH.blk 4 rfl) (am (hH.blk 2 rfl) (am (hH.blk 5 rfl) (am (hH.blk 5 rfl) (am (hH.blk 5 rfl) an)))),?_⟩
 refine rv 9 (.xq (dC (av (aH F i) (aK F i) q 4))) 3 ?_
 refine rv 10 (.aq (bh ((av (aH F i) (aK F i) q) 7) (dC (av (aH F i) (aK F i) q 4)))) 17 ?_
 refine rv 21 (.aq (bh (bh ((av (aH F i) (aK F i) q) 7) (dC (av (aH F i) (aK F i) q 4))) (wa (av (aH F i) (aK F i) q 4) (av (aH F i) (aK F i) q 5) (av (aH F i) (aK F i) q 6)))) 9 ?_
 refine rv 25 (.aq (bh (bh (bh ((av (aH F i) (aK F i) q) 7) (dC (av (aH F i) (aK F i) q 4))) (wa (av (aH F i) (aK F i) q 4) (av (aH F i) (aK F i) q 5) (av (aH F i) (aK F i) q 6))) (K64 q))) 5 ?_
 refine rv 29 (.aq (gH (W64 (aH F i) q) q (av (aH F i) (aK F i) q))) 3 ?_
 refine rv 30 .mv 1 ?_
 refine rn ?_
 refine zx ?_
 replace hH:=hH.drew
 refine rv 0 .mv 0 ?_
 refine rv 2 .mv 0 ?_
 refine rv 5 .mv 0 ?_
 refine rv 8 .mv 0 ?_
 have hi53:1<8:=by omega
 refine rv 9 (.ia 1 8 1 (hi:=hi53)) 0 ?_
 refine rld 10 (hH.q 5 rfl) (.ld cWq ((av (aH F i) (aK F i) q) 1) (fun _ hS=>((ae hS).eltV hi53))) 1 ?_
 refine rv 11 (.nq (bL ((av (aH F i) (aK F i) q) 0) ((av (aH F i) (aK F i) q) 1))) 3 ?_
 refine rv 12 .mv 32 ?_
 have hi54:2<8:=by omega
 refine rv 13 (.ia 1 8 2 (hi:=hi54)) 0 ?_
 refine rld 14 (hH.q 5 rfl) (.ld cWq ((av (aH F i) (aK F i) q) 2) (fun _ hS=>((ae hS).eltV hi54))) 1 ?_
 refine rv 15 (.nq (bL ((av (aH F i) (aK F i) q) 0) ((av (aH F i) (aK F i) q) 2))) 3 ?_
 refine rv 16 (.xq (cJ (bL ((av (aH F i) (aK F i) q) 0) ((av (aH F i) (aK F i) q) 1)) (bL ((av (aH F i) (aK F i) q) 0) ((av (aH F i) (aK F i) q) 2)))) 3 ?_
 have hi55:1<8:=by omega
 refine rv 17 (.ia 1 8 1 (hi:=hi55)) 0 ?_
 refine rld 18 (hH.q 5 rfl) (.ld cWq ((av (aH F i) (aK F i) q) 1) (fun _ hS=>((ae hS).eltV hi55))) 1 ?_
 have hi56:2<8:=by omega
 refine rv 19 (.ia 1 8 2 (hi:=hi56)) 0 ?_
 refine rld 20 (hH.q 5 rfl) (.ld cWq ((av (aH F i) (aK F i) q) 2) (fun _ hS=>((ae hS).eltV hi56))) 1 ?_
 refine rv 21 (.nq (bL ((av (aH F i) (aK F i) q) 1) ((av (aH F i) (aK F i) q) 2))) 3 ?_
 refine rv 22 (.xq (x7 (av (aH F i) (aK F i) q 0) (av (aH F i) (aK F i) q 1) (av (aH F i) (aK F i) q 2))) 3 ?_
 refine ao 1 (rpc 1 Tryz.func123 (ei ((av (aH F i) (aK F i) q) 0) 28 (ltb rfl) (ltb rfl)) trivial hH 8 (.keep (.keep (.keep (.keep (.nil _ []))))) ?_)
 clear hH
 intro w hH
 refine ⟨am (hH.blk 5 rfl) (am (hH.blk 5 rfl) (am (hH.blk 5 rfl) (am (hH.blk 5 rfl) an))),?_⟩
 refine ao 3 (rpc 3 Tryz.func123 (ei ((av (aH F i) (aK F i) q) 0) 34 (ltb rfl) (ltb rfl)) trivial hH 8 (.keep (.keep (.keep (.keep (.nil _ []))))) ?_)
 clear hH
 intro w hH
 refine ⟨am (hH.blk 5 rfl) (am (hH.blk 5 rfl) (am (hH.blk 5 rfl) (am (hH.blk 5 rfl) an))),?_⟩
 refine rv 4 (.xq (cJ (cK ((av (aH F i) (aK F i) q) 0) 28) (cK ((av (aH F i) (aK F i) q) 0) 34))) 3 ?_
 refine ao 6 (rpc 6 Tryz.func123 (ei ((av (aH F i) (aK F i) q) 0) 39 (ltb rfl) (ltb rfl)) trivial hH 4 (.keep (.keep (.keep (.keep (.nil _ []))))) ?_)
 clear hH
 intro w hH
 refine ⟨am (hH.blk 5 rfl) (am (hH.blk 5 rfl) (am (hH.blk 5 rfl) (am (hH.blk 5 rfl) an))),?_⟩
 refine rv 7 (.xq (iw (av (aH F i) (aK F i) q 0))) 3 ?_
 refine rv 23 (.aq (lR (av (aH F i) (aK F i) q))) 3 ?_
 refine rv 24 .mv 1 ?_
 refine rn ?_
 refine aC (zv .mv 0 ?_)
 refine zv .mv 2 ?_
 refine zv (.aq (bh (gH (W64 (aH F i) q) q (av (aH F i) (aK F i) q)) (lR (av (aH F i) (aK F i) q)))) 3 ?_
 have hi57:0<8:=by omega
 refine zv (.ia 1 8 0 (hi:=hi57)) 0 ?_
 refine zs (hH.q 5 rfl) (.ld cWq ((av (aH F i) (aK F i) q) 0) (fun _ hS=>((ae hS).eltV hi57))) 1 ?_
 have hi58:1<8:=by omega
 refine zv (.ia 1 8 1 (hi:=hi58)) 0 ?_
 refine zs (hH.q 5 rfl) (.ld cWq ((av (aH F i) (aK F i) q) 1) (fun _ hS=>((ae hS).eltV hi58))) 1 ?_
 have hi59:2<8:=by omega
 refine zv (.ia 1 8 2 (hi:=hi59)) 0 ?_
 refine zs (hH.q 5 rfl) (.ld cWq ((av (aH F i) (aK F i) q) 2) (fun _ hS=>((ae hS).eltV hi59))) 1 ?_
 have hi60:3<8:=by omega
 refine zv (.ia 1 8 3 (hi:=hi60)) 0 ?_
 refine zs (hH.q 5 rfl) (.ld cWq ((av (aH F i) (aK F i) q) 3) (fun _ hS=>((ae hS).eltV hi60))) 1 ?_
 refine zv .mv 32 ?_
 refine zv (.aq (bh ((av (aH F i) (aK F i) q) 3) (gH (W64 (aH F i) q) q (av (aH F i) (aK F i) q)))) 3 ?_
 have hi61:4<8:=by omega
 refine zv (.ia 1 8 4 (hi:=hi61)) 0 ?_
 refine zs (hH.q 5 rfl) (.ld cWq ((av (aH F i) (aK F i) q) 4) (fun _ hS=>((ae hS).eltV hi61))) 1 ?_
 have hi62:5<8:=by omega
 refine zv (.ia 1 8 5 (hi:=hi62)) 0 ?_
 refine zs (hH.q 5 rfl) (.ld cWq ((av (aH F i) (aK F i) q) 5) (fun _ hS=>((ae hS).eltV hi62))) 1 ?_
 have hi63:6<8:=by omega
 refine zv (.ia 1 8 6 (hi:=hi63)) 0 ?_
 refine zs (hH.q 5 rfl) (.ld cWq ((av (aH F i) (aK F i) q) 6) (fun _ hS=>((ae hS).eltV hi63))) 1 ?_
 refine zv (v:=((cQs 8).val (av (aH F i) (aK F i) (q+1)))) (fun _ _ hF=>aE (cells:=(cQs 8).enc (av (aH F i) (aK F i) (q+1))) (vals:=[(0,(.int .u64 ((((bh (gH (W64 (aH F i) q) q (av (aH F i) (aK F i) q)) (lR (av (aH F i) (aK F i) q))).toNat):Nat):Int))),(1,(.int .u64 (((((av (aH F i) (aK F i) q) 0).toNat):Nat):Int))),(2,(.int .u64 (((((av (aH F i) (aK F i) q) 1).toNat):Nat):Int))),(3,(.int .u64 (((((av (aH F i) (aK F i) q) 2).toNat):Nat):Int))),(4,(.int .u64 ((((bh ((av (aH F i) (aK F i) q) 3) (gH (W64 (aH F i) q) q (av (aH F i) (aK F i) q))).toNat):Nat):Int))),(5,(.int .u64 (((((av (aH F i) (aK F i) q) 4).toNat):Nat):Int))),(6,(.int .u64 (((((av (aH F i) (aK F i) q) 5).toNat):Nat):Int))),(7,(.int .u64 (((((av (aH F i) (aK F i) q) 6).toNat):Nat):Int)))]) rfl (EvP.cons (v:=(.int .u64 ((((bh (gH (W64 (aH F i) q) q (av (aH F i) (aK F i) q)) (lR (av (aH F i) (aK F i) q))).toNat):Nat):Int))) (hF.ev 7 rfl) (EvP.cons (v:=(.int .u64 (((((av (aH F i) (aK F i) q) 0).toNat):Nat):Int))) (hF.ev 6 rfl) (EvP.cons (v:=(.int .u64 (((((av (aH F i) (aK F i) q) 1).toNat):Nat):Int))) (hF.ev 5 rfl) (EvP.cons (v:=(.int .u64 (((((av (aH F i) (aK F i) q) 2).toNat):Nat):Int))) (hF.ev 4 rfl) (EvP.cons (v:=(.int .u64 ((((bh ((av (aH F i) (aK F i) q) 3) (gH (W64 (aH F i) q) q (av (aH F i) (aK F i) q))).toNat):Nat):Int))) (hF.ev 3 rfl) (EvP.cons (v:=(.int .u64 (((((av (aH F i) (aK F i) q) 4).toNat):Nat):Int))) (hF.ev 2 rfl) (EvP.cons (v:=(.int .u64 (((((av (aH F i) (aK F i) q) 5).toNat):Nat):Int))) (hF.ev 1 rfl) (EvP.cons (v:=(.int .u64 (((((av (aH F i) (aK F i) q) 6).toNat):Nat):Int))) (hF.ev 0 rfl) EvP.nil)))))))) (by kernel_rfl) _) 255 ?_
 refine zW 5 hH rfl (av (aH F i) (aK F i) (q+1)) ?_
 clear hH
 intro w hH
 refine aD (aN (ag (aC (zv (.add ((q+1:Nat):Int)) 3 ?_))))
 refine zv .mv 1 ?_
 refine aD ?_
 exact zR1 (q+1) ⟨hH,(by omega)⟩ (by omega)
 refine aJ (ak (ak (aR (ag ?_))))
 obtain rfl:q=80:=by omega
 have he64:(cQs 8).enc (upF 0 (bs (aH F i) (aK F i)) (aK F i))=(cQs 8).enc (aK F i):=aP (fun _ _=>by rw[bw])
 replace hH:HH w0 [] [[bl g1 93 ((ac 64).enc (fun _=>0))],[bl g2 141 ((cQs 8).enc (upF 0 (bs (aH F i) (aK F i)) (aK F i)))],[bl g3 159 ((cQs 80).enc K64)],[bl g10 5 cur12],[bl g17 159 ((cQs 80).enc (W64 (aH F i)))],[bl g43 141 ((cQs 8).enc (av (aH F i) (aK F i) 80))]] w:=by rw[he64];exact hH
 refine zr (zv .mv 11 ?_)
 refine zn (ai (zL1 (fun (q:Nat)=>[(193,(.int .i64 q)),(13,(.pointer (some ⟨g43,0,none⟩))),(6,(.int .i64 (((128*i):Nat):Int))),(5,(.slice (some ⟨g10,0,none⟩) ((pdN l).length) c7)),(4,(.pointer (some ⟨g3,0,none⟩))),(3,(.pointer (some ⟨g2,0,none⟩))),(2,(.pointer (some ⟨g1,0,none⟩)))]) (fun q w=>HH w0 [] [[bl g1 93 ((ac 64).enc (fun _=>0))],[bl g2 141 ((cQs 8).enc (upF q (bs (aH F i) (aK F i)) (aK F i)))],[bl g3 159 ((cQs 80).enc K64)],[bl g10 5 cur12],[bl g17 159 ((cQs 80).enc (W64 (aH F i)))],[bl g43 141 ((cQs 8).enc (av (aH F i) (aK F i) 80))]] w∧(q≤8)) (fun q=>8-q) 0 ⟨hH,(Nat.zero_le _)⟩ ?_))
 clear hH
 rintro q w ⟨hH,hq⟩
 refine zr (zv (.lt (q<8)) 0 ?_)
 refine zn (aj ?_)
 refine zP (fun hc65 => ?_) (fun hc65 => ?_)
 refine aA (ag (aj (ai (zr (zv .mv 1 ?_)))))
 refine zv .mv 1 ?_
 refine zn (br mixedOrders (by kernel_rfl) ?_)
 replace hH:=hH.drew
 refine rv 0 .mv 0 ?_
 refine rv 1 .mv 0 ?_
 have hi66:q<8:=by omega
 refine rv 2 (.ia 1 8 q (hi:=hi66)) 1 ?_
 refine rld 3 (hH.q 1 rfl) (.ld cWq ((upF q (bs (aH F i) (aK F i)) (aK F i)) q) (fun _ hS=>((ae hS).eltV hi66))) 1 ?_
 refine rv 4 .mv 4 ?_
 have hi67:q<8:=by omega
 refine rv 5 (.ia 1 8 q (hi:=hi67)) 1 ?_
 refine rld 6 (hH.q 5 rfl) (.ld cWq ((av (aH F i) (aK F i) 80) q) (fun _ hS=>((ae hS).eltV hi67))) 1 ?_
 refine rv 7 (.aq (bh ((upF q (bs (aH F i) (aK F i)) (aK F i)) q) ((av (aH F i) (aK F i) 80) q))) 3 ?_
 have hi68:q<8:=by omega
 refine rv 8 (.ia 1 8 q (hi:=hi68)) 2 ?_
 refine ao 9 ?_
 refine re0 9 1 hH rfl (.st cWq (bh ((upF q (bs (aH F i) (aK F i)) (aK F i)) q) ((av (aH F i) (aK F i) 80) q)) (aU (S:=sWq) (C:=(cQs 8)) rfl hi68) (bE (upF q (bs (aH F i) (aK F i)) (aK F i)) (bh ((upF q (bs (aH F i) (aK F i)) (aK F i)) q) ((av (aH F i) (aK F i) 80) q)) hi68)) trivial (pgo [] (pgo [] (.nil _ []))) ?_
 clear hH
 rintro _ _ w rfl hH
 refine ⟨an,bQ (by kernel_rfl) ?_⟩
 refine aN (ag (aC (zv (.add ((q+1:Nat):Int)) 7 ?_)))
 refine zv .mv 1 ?_
 refine aD ?_
 have he69:(cQs 8).enc (upF (q+1) (bs (aH F i) (aK F i)) (aK F i))=(cQs 8).enc (stF (upF q (bs (aH F i) (aK F i)) (aK F i)) q (bh ((upF q (bs (aH F i) (aK F i)) (aK F i)) q) ((av (aH F i) (aK F i) 80) q))):=aP (fun j _=>(congrFun (bi q (bs (aH F i) (aK F i)) (aK F i) (by rw[gP];rfl)) j).symm)
 replace hH:HH w0 [] [[bl g1 93 ((ac 64).enc (fun _=>0))],[bl g2 141 ((cQs 8).enc (upF (q+1) (bs (aH F i) (aK F i)) (aK F i)))],[bl g3 159 ((cQs 80).enc K64)],[bl g10 5 cur12],[bl g17 159 ((cQs 80).enc (W64 (aH F i)))],[bl g43 141 ((cQs 8).enc (av (aH F i) (aK F i) 80))]] w:=by rw[he69];exact hH
 exact zR1 (q+1) ⟨hH,(by omega)⟩ (by omega)
 refine aJ (ak (ak (aR (aN (ag ?_)))))
 obtain rfl:q=8:=by omega
 have he70:(cQs 8).enc (aK F (i+1))=(cQs 8).enc (upF 8 (bs (aH F i) (aK F i)) (aK F i)):=aP (fun j hj=>(bz _ _ hj).symm)
 replace hH:HH w0 [] [[bl g1 93 ((ac 64).enc (fun _=>0))],[bl g2 141 ((cQs 8).enc (aK F (i+1)))],[bl g3 159 ((cQs 80).enc K64)],[bl g10 5 cur12],[bl g17 159 ((cQs 80).enc (W64 (aH F i)))],[bl g43 141 ((cQs 8).enc (av (aH F i) (aK F i) 80))]] w:=by rw[he70];exact hH
 refine aC (zv .mv 15 ?_)
 refine zv (.add (((128*(i+1)):Nat):Int)) 1 ?_
 refine zv .mv 1 ?_
 refine aD ?_
 replace hH:HH w0 [] [[bl g1 93 ((ac 64).enc (fun _=>0))],[bl g2 141 ((cQs 8).enc (aK F (i+1)))],[bl g3 159 ((cQs 80).enc K64)],[bl g10 5 cur12]] w:=hH.only [true,true,true,true,false,false]
 exact zR1 (i+1) ⟨hH,(by omega)⟩ (by omega)
 refine aJ (ak (ak (aR (ag ?_))))
 obtain rfl:i=bT n:=by omega
 refine zr (zA hH (ac 64) (fun _=>0) 15 ?_)
 clear hH
 intro g71 w hH
 refine zn (aj ?_)
 have he72:(ac 64).enc (upF 0 (cj (aK F (bT n))) (fun _=>0))=(ac 64).enc (fun _=>0):=aB (fun _ _=>by rw[bw])
 replace hH:HH w0 [] [[bl g1 93 ((ac 64).enc (fun _=>0))],[bl g2 141 ((cQs 8).enc (aK F (bT n)))],[bl g3 159 ((cQs 80).enc K64)],[bl g10 5 cur12],[bl g71 93 ((ac 64).enc (upF 0 (cj (aK F (bT n))) (fun _=>0)))]] w:=by rw[he72];exact hH
 refine zr (zv .mv 0 ?_)
 refine zn (ai (zL1 (fun (m:Nat)=>[(206,(.int .i64 m)),(20,(.pointer (some ⟨g71,0,none⟩))),(3,(.pointer (some ⟨g2,0,none⟩))),(2,(.pointer (some ⟨g1,0,none⟩)))]) (fun m w=>HH w0 [] [[bl g1 93 ((ac 64).enc (fun _=>0))],[bl g2 141 ((cQs 8).enc (aK F (bT n)))],[bl g3 159 ((cQs 80).enc K64)],[bl g10 5 cur12],[bl g71 93 ((ac 64).enc (upF m (cj (aK F (bT n))) (fun _=>0)))]] w∧(m≤64)) (fun m=>64-m) 0 ⟨hH,(Nat.zero_le _)⟩ ?_))
 clear hH
 rintro m w ⟨hH,hm⟩
 refine zr (zv (.lt (m<64)) 0 ?_)
 refine zn (aj ?_)
 refine zP (fun hc73 => ?_) (fun hc73 => ?_)
 refine aA (ag (aj (ai (zr (zv .mv 1 ?_)))))
 refine zv .mv 1 ?_
 refine zn (aC (zv .mv 0 ?_))
 refine zv .mv 0 ?_
 refine zv (v:=(.int .i64 (((m/8):Nat):Int))) (fun _ _ hF=>cM (z:=((m/8:Nat):Int)) rfl (hF.ev 0 rfl) rfl (by omega) (wI dO (by omega) (by omega))) 1 ?_
 have hi74:m/8<8:=by omega
 refine zv (.ia 1 8 (m/8) (hi:=hi74)) 1 ?_
 refine zs (hH.q 1 rfl) (.ld cWq ((aK F (bT n)) (m/8)) (fun _ hS=>((ae hS).eltV hi74))) 1 ?_
 refine zv .mv 4 ?_
 refine zv (v:=(.int .i64 (((m%8):Nat):Int))) (fun _ _ hF=>bm (z:=((m%8:Nat):Int)) rfl (hF.ev 0 rfl) rfl (by omega) bW) 1 ?_
 refine zv (.mul ((8*(m%8):Nat):Int)) 1 ?_
 refine zv (.sub (((56-8*(m%8)):Nat):Int)) 1 ?_
 refine zv (.cu .u64) 1 ?_
 refine zv (.rq (56-8*(m%8))) 3 ?_
 refine zv .cb 1 ?_
 have hi75:m<64:=by omega
 refine zv (.ia 1 64 m (hi:=hi75)) 2 ?_
 refine ze0 4 hH rfl (.st af (UInt8.ofNat ((fV ((aK F (bT n)) (m/8)) (56-8*(m%8))).toNat)) (aU (S:=sBy) (C:=(ac 64)) rfl hi75) (aQ (upF m (cj (aK F (bT n))) (fun _=>0)) (UInt8.ofNat ((fV ((aK F (bT n)) (m/8)) (56-8*(m%8))).toNat)) hi75)) trivial ?_
 clear hH
 rintro _ _ w rfl hH
 refine aD (aN (ag (aC (zv (.add ((m+1:Nat):Int)) 7 ?_))))
 refine zv .mv 1 ?_
 refine aD ?_
 have he76:(ac 64).enc (upF (m+1) (cj (aK F (bT n))) (fun _=>0))=(ac 64).enc (stF (upF m (cj (aK F (bT n))) (fun _=>0)) m (UInt8.ofNat ((fV ((aK F (bT n)) (m/8)) (56-8*(m%8))).toNat))):=aB (fun j _=>(congrFun (bi m (cj (aK F (bT n))) (fun _=>0) (sp _ m)) j).symm)
 replace hH:HH w0 [] [[bl g1 93 ((ac 64).enc (fun _=>0))],[bl g2 141 ((cQs 8).enc (aK F (bT n)))],[bl g3 159 ((cQs 80).enc K64)],[bl g10 5 cur12],[bl g71 93 ((ac 64).enc (upF (m+1) (cj (aK F (bT n))) (fun _=>0)))]] w:=by rw[he76];exact hH
 exact zR1 (m+1) ⟨hH,(by omega)⟩ (by omega)
 refine aJ (ak (ak (aR (ag ?_))))
 obtain rfl:m=64:=by omega
 have he77:(ac 64).enc (cj (aK F (bT n)))=(ac 64).enc (upF 64 (cj (aK F (bT n))) (fun _=>0)):=aB (fun j hj=>(bz _ _ hj).symm)
 replace hH:HH w0 [] [[bl g1 93 ((ac 64).enc (fun _=>0))],[bl g2 141 ((cQs 8).enc (aK F (bT n)))],[bl g3 159 ((cQs 80).enc K64)],[bl g10 5 cur12],[bl g71 93 ((ac 64).enc (cj (aK F (bT n))))]] w:=by rw[he77];exact hH
 refine zr (zs (hH.q 4 rfl) (.l0 (ac 64) (cj (aK F (bT n)))) 15 ?_)
 refine zW 0 hH rfl (cj (aK F (bT n))) ?_
 clear hH
 intro w hH
 refine zn (ar (aI 1 (hH.blk 0 rfl) rfl rfl (by kernel_rfl) (Cod.size _ _) (by kernel_rfl) ?_))
 have he:cj (aK F (bT n))=bN l:=by rw[hF];subst hn;rfl
 rw[he]
 exact zE hH
def dcQ(y:Nat):Nat:=tm (nS (tm y y) 1) (riv (nA (tm dN (tm y y)) 1))
def dcX(x:Nat)(o:UInt8):Nat:=if (UInt8.ofNat (wd x 0%2)).toNat≠o.toNat then nS 0 x%pN else x
theorem vB{x:Nat}(o:UInt8)(h:x<2^256):dcX x o<2^256:=by
 unfold dcX
 split
 ·exact Nat.lt_trans (Nat.mod_lt _ (by decide)) fR
 ·exact h
def dcR(b:Nat→UInt8):P4×Bool :=
 if lv (dPt b) 32<pN then
  if rOk (dcQ (lv (dPt b) 32)) then
   if rRt (dcQ (lv (dPt b) 32))%pN=0∧(sr8 (b 31) 7).toNat=1 then ((0,0,0,0),false)
   else ((dcX (rRt (dcQ (lv (dPt b) 32))%pN) (sr8 (b 31) 7),lv (dPt b) 32,1,tm (dcX (rRt (dcQ (lv (dPt b) 32))%pN) (sr8 (b 31) 7)) (lv (dPt b) 32)),true)
  else ((0,0,0,0),false)
 else ((0,0,0,0),false)
theorem nt:PL (0,0,0,0):=⟨by decide,by decide,by decide,by decide⟩
theorem vC(b:Nat→UInt8):PL (dcR b).1:=by
 have hm:∀ a,a%pN<2^256:=fun a=>Nat.lt_trans (Nat.mod_lt _ (by decide)) fR
 unfold dcR
 split
 ·split
  ·split
   ·exact nt
   ·exact ⟨vB _ (hm _),bI _,by show 1<2^256;decide,aY (vB _ (hm _)) (bI _)⟩
  ·exact nt
 ·exact nt
theorem xR:(cNs 4).enc (fun _=>0)=(cNs 4).enc (wd 0):=aP (S:=sNt) fun i _=>by unfold wd;rw[Nat.zero_div,Nat.zero_mod]
theorem nv:cPt.val (fun _=>0,fun _=>0,fun _=>0,fun _=>0)=cPt.val (wd 0,wd 0,wd 0,wd 0):=by
 show Value.agg (cPt.enc _)=Value.agg (cPt.enc _)
 rw[bC,bC,bC,bC,bC,bC]
 simp only[xR]
theorem AL(b:Nat→UInt8):Pure Tryz.prog 83 #[((ac 32).val b)] (fun _=>True) (.tuple #[(cPt.val (wd ((dcR b).1).1,wd ((dcR b).1).2.1,wd ((dcR b).1).2.2.1,wd ((dcR b).1).2.2.2)),.bool (dcR b).2]):=by
 refine pU Tryz.func83 Tryz.ntmps83 ?_
 intro w0 hH hR
 refine zr (zB hH (ac 32) b 1 ?_)
 clear hH
 intro g1 w hH
 refine zA hH cPt (fun _=>0,fun _=>0,fun _=>0,fun _=>0) 0 ?_
 clear hH
 intro g2 w hH
 refine zv .mv 0 ?_
 refine zn (zr ?_)
 have hi3:31<32:=by omega
 refine zv (.ia 1 32 31 (hi:=hi3)) 1 ?_
 refine zs (hH.q 0 rfl) (.ld af (b 31) (fun _ hS=>((ae hS).elt hi3))) 1 ?_
 refine zv (.rb 7 (u:=(b 31))) 1 ?_
 refine zv .mv 1 ?_
 refine zn (zr ?_)
 have hi4:31<32:=by omega
 refine zv (.ia 1 32 31 (hi:=hi4)) 0 ?_
 refine zs (hH.q 0 rfl) (.ld af (b 31) (fun _ hS=>((ae hS).elt hi4))) 1 ?_
 refine zv (.ab ((b 31)&&&(127:UInt8)) (u:=(b 31)) (v:=(127:UInt8))) 1 ?_
 have hi5:31<32:=by omega
 refine zv (.ia 1 32 31 (hi:=hi5)) 0 ?_
 refine ze0 0 hH rfl (.st af ((b 31)&&&(127:UInt8)) (aU (S:=sBy) (C:=(ac 32)) rfl hi5) (aQ b ((b 31)&&&(127:UInt8)) hi5)) trivial ?_
 clear hH
 rintro _ _ w rfl hH
 refine zn (aj ?_)
 replace hH:HH w0 [] [[bl g1 22 ((ac 32).enc (dPt b))],[bl g2 113 (cPt.enc (fun _=>0,fun _=>0,fun _=>0,fun _=>0))]] w:=hH
 refine zr (zs (hH.q 0 rfl) (.l0 (ac 32) (dPt b)) 3 ?_)
 refine zc Tryz.func124 (AF (dPt b)) trivial hH 1 ?_
 clear hH
 intro w hH
 refine zv (v:=(.bool (decide (¬ (lv (dPt b) 32<pN))))) (fun _ _ hF=>ej rfl (hF.ev 0 rfl) decide_not.symm) 1 ?_
 refine zn ?_
 refine zP (fun hc6 => ?_) (fun hc6 => ?_)
 refine zr (zv (v:=(cPt.val (fun _=>0,fun _=>0,fun _=>0,fun _=>0))) (fun _ _ hF=>aE (cells:=cPt.enc (fun _=>0,fun _=>0,fun _=>0,fun _=>0)) (vals:=[]) rfl EvP.nil (by kernel_rfl) _) 11 ?_)
 refine zW 1 hH rfl (fun _=>0,fun _=>0,fun _=>0,fun _=>0) ?_
 clear hH
 intro w hH
 refine zv .mv 1 ?_
 refine zn (ar (bj ?_))
 refine aX 1 0 (hH.blk 1 rfl) rfl rfl rfl (by kernel_rfl) (Cod.size _ _) (by kernel_rfl) ?_
 have he:dcR b=((0,0,0,0),false):=if_neg hc6
 exact ⟨by rw[he];exact congrArg (fun q=>Ending.returned (.tuple #[q,.bool false])) nv,HH.toBelow hH⟩
 refine aA (ag (zr (zs (hH.q 0 rfl) (.l0 (ac 32) (dPt b)) 9 ?_)))
 refine zc Tryz.func71 (mS (dPt b)) trivial hH 1 ?_
 clear hH
 intro w hH
 refine zA hH (cNs 4) (fun _=>0) 0 ?_
 clear hH
 intro g7 w hH
 refine zW 2 hH rfl (wd (lv (dPt b) 32)) ?_
 clear hH
 intro w hH
 refine zn ?_
 obtain ⟨y,hy,ly⟩:∃ y,y=lv (dPt b) 32∧y<2^256:=⟨_,rfl,bI _⟩
 replace hH:HH w0 [] [[bl g1 22 ((ac 32).enc (dPt b))],[bl g2 113 (cPt.enc (fun _=>0,fun _=>0,fun _=>0,fun _=>0))],[bl g7 97 ((cNs 4).enc (wd y))]] w:=by rw[hy];exact hH
 refine zr (zs (hH.q 2 rfl) (.l0 (cNs 4) (wd y)) 2 ?_)
 refine zs (hH.q 2 rfl) (.l0 (cNs 4) (wd y)) 0 ?_
 refine zc Tryz.func75 (ba y y ly ly) trivial hH 3 ?_
 clear hH
 intro w hH
 refine zA hH (cNs 4) (fun _=>0) 0 ?_
 clear hH
 intro g8 w hH
 refine zW 3 hH rfl (wd (tm y y)) ?_
 clear hH
 intro w hH
 refine zn ?_
 obtain ⟨u,hu,lu⟩:∃ u,u=tm y y∧u<2^256:=⟨_,rfl,(aY ly ly)⟩
 replace hH:HH w0 [] [[bl g1 22 ((ac 32).enc (dPt b))],[bl g2 113 (cPt.enc (fun _=>0,fun _=>0,fun _=>0,fun _=>0))],[bl g7 97 ((cNs 4).enc (wd y))],[bl g8 97 ((cNs 4).enc (wd u))]] w:=by rw[hu];exact hH
 refine zx ?_
 replace hH:=hH.drew
 refine de 0 [ldv 0 26 [] [] [1003] fun G=>((cNs 4).val (wd u)),pv 1 27 [] [] fun G=>((cNs 4).val (wd 1)),pv 2 28 [0,1] [] fun G=>((cNs 4).val (wd (nS u 1))),pv 3 29 [] [] fun G=>((cNs 4).val (wd dN)),ldv 4 30 [] [] [1003] fun G=>((cNs 4).val (wd u)),pv 5 31 [3,4] [] fun G=>((cNs 4).val (wd (tm dN u))),pv 6 32 [] [] fun G=>((cNs 4).val (wd 1)),pv 7 33 [5,6] [] fun G=>((cNs 4).val (wd (nA (tm dN u) 1))),pv 8 34 [7] [] fun G=>((cNs 4).val (wd (riv (nA (tm dN u) 1)))),pv 9 35 [2,8] [] fun G=>((cNs 4).val (wd (tm (nS u 1) (riv (nA (tm dN u) 1))))),pv 10 36 [9] [] fun G=>(.tuple #[((cNs 4).val (wd (rRt (tm (nS u 1) (riv (nA (tm dN u) 1)))%pN))),(.bool (decide (rOk (tm (nS u 1) (riv (nA (tm dN u) 1))))))]),pv 11 25 [10] [] fun G=>(.tuple #[((cNs 4).val (wd (rRt (tm (nS u 1) (riv (nA (tm dN u) 1)))%pN))),(.bool (decide (rOk (tm (nS u 1) (riv (nA (tm dN u) 1))))))]),pv 12 37 [11] [] fun G=>((cNs 4).val (wd (rRt (tm (nS u 1) (riv (nA (tm dN u) 1)))%pN))),pv 13 38 [11] [] fun G=>(.bool (decide (rOk (tm (nS u 1) (riv (nA (tm dN u) 1)))))),alv 14 7 [] [] fun G g=>[bl g 97 ((cNs 4).enc (fun _=>0))],stv 15 [12,14] [14] 14 fun G=>[bl (G 14).g 97 ((cNs 4).enc (wd (rRt (tm (nS u 1) (riv (nA (tm dN u) 1)))%pN)))],pv 16 8 [13] [] fun G=>(.bool (decide (rOk (tm (nS u 1) (riv (nA (tm dN u) 1))))))] (fun G=>[(7,(.pointer (some ⟨(G 14).g,0,none⟩))),(8,(.bool (decide (rOk (tm (nS u 1) (riv (nA (tm dN u) 1))))))),(5,(.pointer (some ⟨g7,0,none⟩))),(4,(.int .u8 ((((sr8 (b 31) 7).toNat):Nat):Int))),(2,(.pointer (some ⟨g2,0,none⟩)))]) (fun G=>[[bl g1 22 ((ac 32).enc (dPt b))],[bl g2 113 (cPt.enc (fun _=>0,fun _=>0,fun _=>0,fun _=>0))],[bl g7 97 ((cNs 4).enc (wd y))],[bl g8 97 ((cNs 4).enc (wd u))],[bl (G 14).g 97 ((cNs 4).enc (wd (rRt (tm (nS u 1) (riv (nA (tm dN u) 1)))%pN)))]]) hH (.c (.ld (fun G _ _ hH=>(hH.q 0 rfl)) fun G=>(.ld (cNs 4) (wd u) (fun _=>ae))) <| .c (Sp.c Tryz.func72 (fun G=>(cm 1 (by decide))) fun _=>trivial) <| .c (Sp.c Tryz.func74 (fun G=>(dg u 1 lu (by decide))) fun _=>trivial) <| .c (Sp.c Tryz.func126 (fun G=>(AE)) fun _=>trivial) <| .c (.ld (fun G _ _ hH=>(hH.q 0 rfl)) fun G=>(.ld (cNs 4) (wd u) (fun _=>ae))) <| .c (Sp.c Tryz.func75 (fun G=>(ba dN u fD lu)) fun _=>trivial) <| .c (Sp.c Tryz.func72 (fun G=>(cm 1 (by decide))) fun _=>trivial) <| .c (Sp.c Tryz.func73 (fun G=>(dt (tm dN u) 1 (aY fD lu) (by decide))) fun _=>trivial) <| .c (Sp.c Tryz.func77 (fun G=>(gY (nA (tm dN u) 1) (cn (aY fD lu) (by decide)))) fun _=>trivial) <| .c (Sp.c Tryz.func75 (fun G=>(ba (nS u 1) (riv (nA (tm dN u) 1)) (cO lu) (kO (cn (aY fD lu) (by decide))))) fun _=>trivial) <| .c (Sp.c Tryz.func125 (fun G=>(xL (tm (nS u 1) (riv (nA (tm dN u) 1))) (aY (cO lu) (kO (cn (aY fD lu) (by decide)))))) fun _=>trivial) <| .c (.v fun G=>.mv) <| .c (.v fun G=>.ext) <| .c (.v fun G=>.ext) <| .c (.a (fun _ _ _ _=>trivial) (fun G=>(.al (cNs 4) (fun _=>0))) fun _ _ _ h=>h) <| .c (.tn (fun G=>(.sw (cNs 4) (fun _=>0) (wd (rRt (tm (nS u 1) (riv (nA (tm dN u) 1)))%pN)))) (fun _ _ _ _=>trivial) fun _ _ _ h=>h) <| .c (.v fun G=>.mv) <| .nil) ?_
 clear hH
 rintro G w-hH
 revert hH
 generalize (G 14).g=g9
 intro hH
 refine rn ?_
 refine aj ?_
 have hQ:tm (nS u 1) (riv (nA (tm dN u) 1))=dcQ y:=by rw[hu];rfl
 obtain ⟨xr,hx,lx⟩:∃ xr,xr=rRt (tm (nS u 1) (riv (nA (tm dN u) 1)))%pN∧xr<2^256:=⟨_,rfl,(Nat.lt_trans (Nat.mod_lt _ (by decide)) fR)⟩
 replace hH:HH w0 [] [[bl g1 22 ((ac 32).enc (dPt b))],[bl g2 113 (cPt.enc (fun _=>0,fun _=>0,fun _=>0,fun _=>0))],[bl g7 97 ((cNs 4).enc (wd y))],[bl g8 97 ((cNs 4).enc (wd u))],[bl g9 97 ((cNs 4).enc (wd xr))]] w:=by rw[hx];exact hH
 rw[hQ]at hx
 refine zr (zv .mv 2 ?_)
 refine zv (v:=(.bool (decide (¬ (rOk (tm (nS u 1) (riv (nA (tm dN u) 1)))))))) (fun _ _ hF=>ej rfl (hF.ev 0 rfl) decide_not.symm) 1 ?_
 refine zn ?_
 refine zP (fun hc10 => ?_) (fun hc10 => ?_)
 refine zr (zv (v:=(cPt.val (fun _=>0,fun _=>0,fun _=>0,fun _=>0))) (fun _ _ hF=>aE (cells:=cPt.enc (fun _=>0,fun _=>0,fun _=>0,fun _=>0)) (vals:=[]) rfl EvP.nil (by kernel_rfl) _) 15 ?_)
 refine zW 1 hH rfl (fun _=>0,fun _=>0,fun _=>0,fun _=>0) ?_
 clear hH
 intro w hH
 refine zv .mv 1 ?_
 refine zn (ar (bj ?_))
 refine aX 1 0 (hH.blk 1 rfl) rfl rfl rfl (by kernel_rfl) (Cod.size _ _) (by kernel_rfl) ?_
 have he:dcR b=((0,0,0,0),false):=by unfold dcR;rw[if_pos (show lv (dPt b) 32<pN from Decidable.not_not.1 hc6),if_neg (by rw[← hy,← hQ];exact hc10)]
 exact ⟨by rw[he];exact congrArg (fun q=>Ending.returned (.tuple #[q,.bool false])) nv,HH.toBelow hH⟩
 refine aA (ag (aj (zx ?_)))
 replace hH:=hH.drew
 refine rld 0 (hH.q 4 rfl) (.l0 (cNs 4) (wd xr)) 1 ?_
 refine ao 1 (rpc 1 Tryz.func72 (cm 0 (by decide)) trivial hH 0 (.keep (.nil _ [])) ?_)
 clear hH
 intro w hH
 refine ⟨am (hH.blk 4 rfl) an,?_⟩
 refine rv 2 (v:=(.bool (decide (xr=0)))) (fun _ _ hF=>vv (n:=4) (e:=72) (f:=(wd xr)) (g:=(wd 0)) rfl (by kernel_rfl) (by kernel_rfl) (by kernel_rfl) (hF.ev 1 rfl) (hF.ev 0 rfl) (by kernel_rfl) (rR lx (b:=0) (by decide))) 3 ?_
 refine rv 3 .mv 1 ?_
 refine tx 0 rfl (l1:=[(45,(.bool true)),(7,(.pointer (some ⟨g9,0,none⟩))),(5,(.pointer (some ⟨g7,0,none⟩))),(4,(.int .u8 ((((sr8 (b 31) 7).toNat):Nat):Int))),(2,(.pointer (some ⟨g2,0,none⟩)))]) (l2:=[(45,(.bool false)),(7,(.pointer (some ⟨g9,0,none⟩))),(5,(.pointer (some ⟨g7,0,none⟩))),(4,(.int .u8 ((((sr8 (b 31) 7).toNat):Nat):Int))),(2,(.pointer (some ⟨g2,0,none⟩)))]) rfl rfl (fun hg11 => ?_) (fun hg11 => ?_)
 refine rxV 4 rfl (by kernel_rfl) rfl (gOn 0 rfl rfl rfl (by decide)) (fun _ _ hF=>bo rfl (hF.ev 3 rfl)) (kA rfl) (by decide) (v:=(.int .u8 ((((sr8 (b 31) 7).toNat):Nat):Int))) ?_
 refine rxV 5 rfl (by kernel_rfl) rfl (gOn 1 rfl rfl rfl (by decide)) (fun _ _ hF=>fN rfl (hF.ev 0 rfl) rfl (dc (by omega))) (kM [false,true,true,true,true,true] rfl rfl) (by decide) (v:=(.bool (decide ((sr8 (b 31) 7).toNat=1)))) ?_
 refine rv 6 (v:=(.bool (decide ((sr8 (b 31) 7).toNat=1)))) (fun _ _ hF=>cB rfl (hF.ev 1 rfl) (hF.ev 0 rfl)) 3 ?_
 refine rn ?_
 refine zP (fun hc12 => ?_) (fun hc12 => ?_)
 refine zr (zv (v:=(cPt.val (fun _=>0,fun _=>0,fun _=>0,fun _=>0))) (fun _ _ hF=>aE (cells:=cPt.enc (fun _=>0,fun _=>0,fun _=>0,fun _=>0)) (vals:=[]) rfl EvP.nil (by kernel_rfl) _) 15 ?_)
 refine zW 1 hH rfl (fun _=>0,fun _=>0,fun _=>0,fun _=>0) ?_
 clear hH
 intro w hH
 refine zv .mv 1 ?_
 refine zn (ar (bj ?_))
 refine aX 1 0 (hH.blk 1 rfl) rfl rfl rfl (by kernel_rfl) (Cod.size _ _) (by kernel_rfl) ?_
 have hok:rOk (dcQ (lv (dPt b) 32)):=by rw[← hy,← hQ];exact Decidable.not_not.1 hc10
 have he:dcR b=((0,0,0,0),false):=by unfold dcR;rw[if_pos (show lv (dPt b) 32<pN from Decidable.not_not.1 hc6),if_pos hok,← hy,← hx,if_pos ⟨hg11,hc12⟩]
 exact ⟨by rw[he];exact congrArg (fun q=>Ending.returned (.tuple #[q,.bool false])) nv,HH.toBelow hH⟩
 refine aA (ag ?_)
 refine gZ (σ:=Nat) (fun x=>[(7,(.pointer (some ⟨g9,0,none⟩))),(5,(.pointer (some ⟨g7,0,none⟩))),(2,(.pointer (some ⟨g2,0,none⟩)))]) (fun x w=>HH w0 [] [[bl g1 22 ((ac 32).enc (dPt b))],[bl g2 113 (cPt.enc (fun _=>0,fun _=>0,fun _=>0,fun _=>0))],[bl g7 97 ((cNs 4).enc (wd y))],[bl g8 97 ((cNs 4).enc (wd u))],[bl g9 97 ((cNs 4).enc (wd x))]] w∧(x=dcX xr (sr8 (b 31) 7))∧(x<2^256)) ?_ ?_
 refine zr ?_
 have hi13:0<4:=by omega
 refine zv (.ia 1 4 0 (hi:=hi13)) 1 ?_
 refine zs (hH.q 4 rfl) (.ld sNt.cod ((wd xr) 0) (fun _ hS=>((ae hS).eltV hi13))) 1 ?_
 refine zv (v:=(.int .u64 (((((wd xr) 0)%2):Nat):Int))) (fun _ _ hF=>bm (z:=((((wd xr) 0)%2:Nat):Int)) rfl (hF.ev 0 rfl) rfl (by omega) bW) 1 ?_
 refine zv .cb 1 ?_
 refine zv .mv 8 ?_
 refine zv (.ne ((UInt8.ofNat (((wd xr) 0)%2)).toNat≠(sr8 (b 31) 7).toNat)) 3 ?_
 refine zn ?_
 refine zP (fun hc14 => ?_) (fun hc14 => ?_)
 refine br mixedOrders (by kernel_rfl) ?_
 replace hH:=hH.drew
 refine rld 1 (hH.q 4 rfl) (.l0 (cNs 4) (wd xr)) 1 ?_
 refine ao 0 (rpc 0 Tryz.func72 (cm 0 (by decide)) trivial hH 0 (.keep (.nil _ [])) ?_)
 clear hH
 intro w hH
 refine ⟨am (hH.blk 4 rfl) an,?_⟩
 refine ao 2 (rpc 2 Tryz.func74 (dg 0 xr (by decide) lx) trivial hH 3 (pgo [] (.nil _ [])) ?_)
 clear hH
 intro w hH
 refine ⟨an,?_⟩
 refine ao 3 (rpc 3 Tryz.func119 (er (nS 0 xr) (cO (by decide))) trivial hH 1 (.nil _ []) ?_)
 clear hH
 intro w hH
 refine ⟨an,ao 4 ?_⟩
 refine re0 4 4 hH rfl (.sw (cNs 4) (wd xr) (wd ((nS 0 xr)%pN))) trivial (.nil _ []) ?_
 clear hH
 rintro _ _ w rfl hH
 refine ⟨an,bQ (by kernel_rfl) ?_⟩
 exact dw ((nS 0 xr)%pN) ⟨hH,(show dcX xr (sr8 (b 31) 7)=_ from if_pos hc14).symm,(Nat.lt_trans (Nat.mod_lt _ (by decide)) fR)⟩ (bU [1,2,3] rfl)
 refine aA ?_
 exact dw xr ⟨hH,(show dcX xr (sr8 (b 31) 7)=_ from if_neg hc14).symm,lx⟩ (bU [1,2,3] rfl)
 clear hH
 rintro v w ⟨hH,hv,lvv⟩
 change CX _ _ _ _ [(7,(.pointer (some ⟨g9,0,none⟩))),(5,(.pointer (some ⟨g7,0,none⟩))),(2,(.pointer (some ⟨g2,0,none⟩)))] _
 replace hH:HH w0 [] [[bl g1 22 ((ac 32).enc (dPt b))],[bl g2 113 (cPt.enc (fun _=>0,fun _=>0,fun _=>0,fun _=>0))],[bl g7 97 ((cNs 4).enc (wd y))],[bl g8 97 ((cNs 4).enc (wd u))],[bl g9 97 ((cNs 4).enc (wd v))]] w:=hH
 replace hv:v=dcX xr (sr8 (b 31) 7):=hv
 replace lvv:v<2^256:=lvv
 refine zx ?_
 replace hH:=hH.drew
 refine rld 0 (hH.q 4 rfl) (.l0 (cNs 4) (wd v)) 0 ?_
 refine rld 1 (hH.q 2 rfl) (.l0 (cNs 4) (wd y)) 0 ?_
 refine rld 3 (hH.q 4 rfl) (.l0 (cNs 4) (wd v)) 4 ?_
 refine rld 4 (hH.q 2 rfl) (.l0 (cNs 4) (wd y)) 8 ?_
 refine ao 2 (rpc 2 Tryz.func72 (cm 1 (by decide)) trivial hH 0 (.keep (.keep (.keep (.keep (.nil _ []))))) ?_)
 clear hH
 intro w hH
 refine ⟨am (hH.blk 2 rfl) (am (hH.blk 4 rfl) (am (hH.blk 2 rfl) (am (hH.blk 4 rfl) an))),?_⟩
 refine ao 5 (rpc 5 Tryz.func75 (ba v y lvv ly) trivial hH 6 (pgo [] (pgo [] (.keep (.keep (.nil _ []))))) ?_)
 clear hH
 intro w hH
 refine ⟨am (hH.blk 2 rfl) (am (hH.blk 4 rfl) an),?_⟩
 refine rv 6 (v:=(cPt.val (wd v,wd y,wd 1,wd (tm v y)))) (fun _ _ hF=>aE (cells:=cPt.enc (wd v,wd y,wd 1,wd (tm v y))) rfl (EvP.cons (v:=((cNs 4).val (wd v))) (hF.ev 3 rfl) (EvP.cons (v:=((cNs 4).val (wd y))) (hF.ev 2 rfl) (EvP.cons (v:=((cNs 4).val (wd 1))) (hF.ev 1 rfl) (EvP.cons (v:=((cNs 4).val (wd (tm v y)))) (hF.ev 0 rfl) EvP.nil)))) (gl (x:=(wd v,wd y,wd 1,wd (tm v y))) (by kernel_rfl) rfl rfl rfl rfl) _) 15 ?_
 refine ao 7 ?_
 refine re0 7 1 hH rfl (.sw cPt (fun _=>0,fun _=>0,fun _=>0,fun _=>0) (wd v,wd y,wd 1,wd (tm v y))) trivial (pgo [] (pgo [] (.nil _ []))) ?_
 clear hH
 rintro _ _ w rfl hH
 refine ⟨an,rv 8 .mv 1 ?_⟩
 refine rn ?_
 refine ar (aX 1 0 (hH.blk 1 rfl) rfl rfl rfl (by kernel_rfl) (Cod.size _ _) (by kernel_rfl) ?_)
 have hok:rOk (dcQ (lv (dPt b) 32)):=by rw[← hy,← hQ];exact Decidable.not_not.1 hc10
 have hno:¬ (xr=0∧(sr8 (b 31) 7).toNat=1):=by first | exact fun hc=>hg11 hc.1 | exact fun hc=>hc12 hc.2
 have he:dcR b=((v,y,1,tm v y),true):=by unfold dcR;rw[if_pos (show lv (dPt b) 32<pN from Decidable.not_not.1 hc6),if_pos hok,← hy,← hx,if_neg hno,← hv]
 exact ⟨by rw[he];rfl,HH.toBelow hH⟩
 refine rxU 4 rfl (by kernel_rfl) rfl (cW 0 rfl rfl rfl (by decide)) (kA rfl) (by decide) ?_
 refine rxU 5 rfl (by kernel_rfl) rfl (cW 0 rfl rfl rfl (by decide)) (kA rfl) (by decide) ?_
 refine rv 6 (v:=(.bool false)) (fun _ _ hF=>cv rfl (hF.ev 0 rfl) rfl) 1 ?_
 refine rn ?_
 refine zF ?_
 refine aA (ag ?_)
 refine gZ (σ:=Nat) (fun x=>[(7,(.pointer (some ⟨g9,0,none⟩))),(5,(.pointer (some ⟨g7,0,none⟩))),(2,(.pointer (some ⟨g2,0,none⟩)))]) (fun x w=>HH w0 [] [[bl g1 22 ((ac 32).enc (dPt b))],[bl g2 113 (cPt.enc (fun _=>0,fun _=>0,fun _=>0,fun _=>0))],[bl g7 97 ((cNs 4).enc (wd y))],[bl g8 97 ((cNs 4).enc (wd u))],[bl g9 97 ((cNs 4).enc (wd x))]] w∧(x=dcX xr (sr8 (b 31) 7))∧(x<2^256)) ?_ ?_
 refine zr ?_
 have hi15:0<4:=by omega
 refine zv (.ia 1 4 0 (hi:=hi15)) 1 ?_
 refine zs (hH.q 4 rfl) (.ld sNt.cod ((wd xr) 0) (fun _ hS=>((ae hS).eltV hi15))) 1 ?_
 refine zv (v:=(.int .u64 (((((wd xr) 0)%2):Nat):Int))) (fun _ _ hF=>bm (z:=((((wd xr) 0)%2:Nat):Int)) rfl (hF.ev 0 rfl) rfl (by omega) bW) 1 ?_
 refine zv .cb 1 ?_
 refine zv .mv 8 ?_
 refine zv (.ne ((UInt8.ofNat (((wd xr) 0)%2)).toNat≠(sr8 (b 31) 7).toNat)) 3 ?_
 refine zn ?_
 refine zP (fun hc16 => ?_) (fun hc16 => ?_)
 refine br mixedOrders (by kernel_rfl) ?_
 replace hH:=hH.drew
 refine rld 1 (hH.q 4 rfl) (.l0 (cNs 4) (wd xr)) 1 ?_
 refine ao 0 (rpc 0 Tryz.func72 (cm 0 (by decide)) trivial hH 0 (.keep (.nil _ [])) ?_)
 clear hH
 intro w hH
 refine ⟨am (hH.blk 4 rfl) an,?_⟩
 refine ao 2 (rpc 2 Tryz.func74 (dg 0 xr (by decide) lx) trivial hH 3 (pgo [] (.nil _ [])) ?_)
 clear hH
 intro w hH
 refine ⟨an,?_⟩
 refine ao 3 (rpc 3 Tryz.func119 (er (nS 0 xr) (cO (by decide))) trivial hH 1 (.nil _ []) ?_)
 clear hH
 intro w hH
 refine ⟨an,ao 4 ?_⟩
 refine re0 4 4 hH rfl (.sw (cNs 4) (wd xr) (wd ((nS 0 xr)%pN))) trivial (.nil _ []) ?_
 clear hH
 rintro _ _ w rfl hH
 refine ⟨an,bQ (by kernel_rfl) ?_⟩
 exact dw ((nS 0 xr)%pN) ⟨hH,(show dcX xr (sr8 (b 31) 7)=_ from if_pos hc16).symm,(Nat.lt_trans (Nat.mod_lt _ (by decide)) fR)⟩ (bU [1,2,3] rfl)
 refine aA ?_
 exact dw xr ⟨hH,(show dcX xr (sr8 (b 31) 7)=_ from if_neg hc16).symm,lx⟩ (bU [1,2,3] rfl)
 clear hH
 rintro v w ⟨hH,hv,lvv⟩
 change CX _ _ _ _ [(7,(.pointer (some ⟨g9,0,none⟩))),(5,(.pointer (some ⟨g7,0,none⟩))),(2,(.pointer (some ⟨g2,0,none⟩)))] _
 replace hH:HH w0 [] [[bl g1 22 ((ac 32).enc (dPt b))],[bl g2 113 (cPt.enc (fun _=>0,fun _=>0,fun _=>0,fun _=>0))],[bl g7 97 ((cNs 4).enc (wd y))],[bl g8 97 ((cNs 4).enc (wd u))],[bl g9 97 ((cNs 4).enc (wd v))]] w:=hH
 replace hv:v=dcX xr (sr8 (b 31) 7):=hv
 replace lvv:v<2^256:=lvv
 refine zx ?_
 replace hH:=hH.drew
 refine rld 0 (hH.q 4 rfl) (.l0 (cNs 4) (wd v)) 0 ?_
 refine rld 1 (hH.q 2 rfl) (.l0 (cNs 4) (wd y)) 0 ?_
 refine rld 3 (hH.q 4 rfl) (.l0 (cNs 4) (wd v)) 4 ?_
 refine rld 4 (hH.q 2 rfl) (.l0 (cNs 4) (wd y)) 8 ?_
 refine ao 2 (rpc 2 Tryz.func72 (cm 1 (by decide)) trivial hH 0 (.keep (.keep (.keep (.keep (.nil _ []))))) ?_)
 clear hH
 intro w hH
 refine ⟨am (hH.blk 2 rfl) (am (hH.blk 4 rfl) (am (hH.blk 2 rfl) (am (hH.blk 4 rfl) an))),?_⟩
 refine ao 5 (rpc 5 Tryz.func75 (ba v y lvv ly) trivial hH 6 (pgo [] (pgo [] (.keep (.keep (.nil _ []))))) ?_)
 clear hH
 intro w hH
 refine ⟨am (hH.blk 2 rfl) (am (hH.blk 4 rfl) an),?_⟩
 refine rv 6 (v:=(cPt.val (wd v,wd y,wd 1,wd (tm v y)))) (fun _ _ hF=>aE (cells:=cPt.enc (wd v,wd y,wd 1,wd (tm v y))) rfl (EvP.cons (v:=((cNs 4).val (wd v))) (hF.ev 3 rfl) (EvP.cons (v:=((cNs 4).val (wd y))) (hF.ev 2 rfl) (EvP.cons (v:=((cNs 4).val (wd 1))) (hF.ev 1 rfl) (EvP.cons (v:=((cNs 4).val (wd (tm v y)))) (hF.ev 0 rfl) EvP.nil)))) (gl (x:=(wd v,wd y,wd 1,wd (tm v y))) (by kernel_rfl) rfl rfl rfl rfl) _) 15 ?_
 refine ao 7 ?_
 refine re0 7 1 hH rfl (.sw cPt (fun _=>0,fun _=>0,fun _=>0,fun _=>0) (wd v,wd y,wd 1,wd (tm v y))) trivial (pgo [] (pgo [] (.nil _ []))) ?_
 clear hH
 rintro _ _ w rfl hH
 refine ⟨an,rv 8 .mv 1 ?_⟩
 refine rn ?_
 refine ar (aX 1 0 (hH.blk 1 rfl) rfl rfl rfl (by kernel_rfl) (Cod.size _ _) (by kernel_rfl) ?_)
 have hok:rOk (dcQ (lv (dPt b) 32)):=by rw[← hy,← hQ];exact Decidable.not_not.1 hc10
 have hno:¬ (xr=0∧(sr8 (b 31) 7).toNat=1):=by first | exact fun hc=>hg11 hc.1 | exact fun hc=>hg11 hc.2
 have he:dcR b=((v,y,1,tm v y),true):=by unfold dcR;rw[if_pos (show lv (dPt b) 32<pN from Decidable.not_not.1 hc6),if_pos hok,← hy,← hx,if_neg hno,← hv]
 exact ⟨by rw[he];rfl,HH.toBelow hH⟩
def bsE(n:Nat→UInt8):Nat→UInt8:=pEn (pOf n (dcR gE).1 256)
theorem xS(n:Nat→UInt8):Pure Tryz.prog 44 #[((ac 32).val n)] (fun _=>True) ((ac 32).val (bsE n)):=by
 refine pU Tryz.func44 Tryz.ntmps44 ?_
 intro w0 hH hR
 refine zr (zB hH (ac 32) n 1 ?_)
 clear hH
 intro g1 w hH
 refine zA hH (ac 32) (fun _=>0) 0 ?_
 clear hH
 intro g2 w hH
 refine zn (zr (zc Tryz.func84 (AK) trivial hH 0 ?_))
 clear hH
 intro w hH
 refine zc Tryz.func83 (AL gE) trivial hH 1 ?_
 clear hH
 intro w hH
 refine zv .mv 1 ?_
 refine zv .ext 0 ?_
 refine zv .ext 2 ?_
 refine zA hH cPt (fun _=>0,fun _=>0,fun _=>0,fun _=>0) 0 ?_
 clear hH
 intro g3 w hH
 refine zW 2 hH rfl (wd ((dcR gE).1).1,wd ((dcR gE).1).2.1,wd ((dcR gE).1).2.2.1,wd ((dcR gE).1).2.2.2) ?_
 clear hH
 intro w hH
 refine zv .mv 6 ?_
 refine zn (zr (zs (hH.q 0 rfl) (.l0 (ac 32) n) 9 ?_))
 refine zs (hH.q 2 rfl) (.l0 cPt (wd ((dcR gE).1).1,wd ((dcR gE).1).2.1,wd ((dcR gE).1).2.2.1,wd ((dcR gE).1).2.2.2)) 2 ?_
 refine zc Tryz.func86 (vA n ((dcR gE).1) (vC gE)) trivial hH 3 ?_
 clear hH
 intro w hH
 refine zc Tryz.func85 (AJ (pOf n ((dcR gE).1) 256) (jq (vC gE) _)) trivial hH 1 ?_
 clear hH
 intro w hH
 refine zW 1 hH rfl (pEn (pOf n ((dcR gE).1) 256)) ?_
 clear hH
 intro w hH
 refine zn (ar (aI 1 (hH.blk 1 rfl) rfl rfl (by kernel_rfl) (Cod.size _ _) (by kernel_rfl) ?_))
 exact zE hH
def rhB(X:Nat→UInt8):Nat→UInt8:=stF (stF (ovr (((lst 64 X).take 32).take 32) fun _=>0) 0 (ovr (((lst 64 X).take 32).take 32) (fun _=>0) 0&&&248)) 31 ((stF (ovr (((lst 64 X).take 32).take 32) fun _=>0) 0 (ovr (((lst 64 X).take 32).take 32) (fun _=>0) 0&&&248) 31&&&127)|||64)
def rEd(s:Nat→UInt8):Nat→UInt8:=bsE (rhB (bN (lst 32 s)))
theorem tg(s:Nat→UInt8):Does Tryz.prog 43 #[((ac 32).val s)] [] (fun _=>True) (fun v E' => ∃ q l,v=.tuple #[(ac 32).val (rhB (bN (lst 32 s))),q]∧OwnT af 5 q l E'):=by
 refine dU Tryz.func43 Tryz.ntmps43 ?_
 intro w0 hH hR
 replace hH:HH w0 [] [] w0:=hH.only [false]
 refine zr (zB hH (ac 32) s 1 ?_)
 clear hH
 intro g1 w hH
 refine zA hH (ac 32) (fun _=>0) 0 ?_
 clear hH
 intro g2 w hH
 refine zv .mv 0 ?_
 refine zn (zr (zv (v:=(.slice (some ⟨g1,0,none⟩) 32 32)) (fun _ _ hF=>aV (n:=32) (e:=5) (sz:=1) rfl (by kernel_rfl) (by kernel_rfl) (hF.ev 2 rfl)) 5 ?_))
 refine zc Tryz.func82 (xQ (some ⟨g1,0,none⟩) 32 32 (lst 32 s) (by decide)) (bp (hH.blk 0 rfl)) hH 1 ?_
 clear hH
 intro w hH
 refine zA hH (ac 64) (fun _=>0) 0 ?_
 clear hH
 intro g3 w hH
 refine zW 2 hH rfl (bN (lst 32 s)) ?_
 clear hH
 intro w hH
 refine zn ?_
 obtain ⟨X,hX⟩:∃ X,X=bN (lst 32 s):=⟨_,rfl⟩
 replace hH:HH w0 [] [[bl g1 22 ((ac 32).enc s)],[bl g2 22 ((ac 32).enc (fun _=>0))],[bl g3 93 ((ac 64).enc X)]] w:=by rw[hX];exact hH
 refine zr (zA hH (ac 32) (fun _=>0) 2 ?_)
 clear hH
 intro g4 w hH
 refine zn (zx ?_)
 replace hH:=hH.drew
 refine rv 0 (v:=(.slice (some ⟨g4,0,none⟩) 32 32)) (fun _ _ hF=>aV (n:=32) (e:=5) (sz:=1) rfl (by kernel_rfl) (by kernel_rfl) (hF.ev 0 rfl)) 0 ?_
 refine rv 1 (v:=(.slice (some ⟨g3,0,none⟩) 32 64)) (fun _ _ hF=>dW (m:=64) (h:=32) (e:=5) (sz:=1) rfl (by kernel_rfl) (by kernel_rfl) (hF.ev 2 rfl) rfl rfl (by omega)) 0 ?_
 refine ao 2 ?_
 refine re 2 3 hH rfl (fun _ hF=>eg (C:=af) (m:=((lst 64 X).take 32)) (e:=5) 32 rfl rfl (by kernel_rfl) (by kernel_rfl) (ltb rfl) (hF.ev 1 rfl) (hF.ev 0 rfl) (by rw[List.length_take,ap];rfl) (by rw[Cod.size];show 0+32*1≤32;omega) (gn _ _)) ((bp (hH.blk 2 rfl)).head (m:=32) (by omega)) 3 (.nil _ []) ?_
 clear hH
 rintro _ _ w ⟨rfl,rfl⟩ hH
 refine ⟨an,rn ?_⟩
 refine zr ?_
 have hi5:0<32:=by omega
 refine zv (.ia 1 32 0 (hi:=hi5)) 1 ?_
 refine zs (hH.q 3 rfl) (.ld af ((ovr (((lst 64 X).take 32).take 32) (fun _=>0)) 0) (fun _ hS=>((ae hS).elt hi5))) 1 ?_
 refine zv (.ab (((ovr (((lst 64 X).take 32).take 32) (fun _=>0)) 0)&&&(248:UInt8)) (u:=((ovr (((lst 64 X).take 32).take 32) (fun _=>0)) 0)) (v:=(248:UInt8))) 1 ?_
 have hi6:0<32:=by omega
 refine zv (.ia 1 32 0 (hi:=hi6)) 0 ?_
 refine ze0 3 hH rfl (.st af (((ovr (((lst 64 X).take 32).take 32) (fun _=>0)) 0)&&&(248:UInt8)) (aU (S:=sBy) (C:=(ac 32)) rfl hi6) (aQ (ovr (((lst 64 X).take 32).take 32) (fun _=>0)) (((ovr (((lst 64 X).take 32).take 32) (fun _=>0)) 0)&&&(248:UInt8)) hi6)) trivial ?_
 clear hH
 rintro _ _ w rfl hH
 refine zn (zr ?_)
 have hi7:31<32:=by omega
 refine zv (.ia 1 32 31 (hi:=hi7)) 3 ?_
 refine zs (hH.q 3 rfl) (.ld af ((stF (ovr (((lst 64 X).take 32).take 32) (fun _=>0)) 0 (((ovr (((lst 64 X).take 32).take 32) (fun _=>0)) 0)&&&(248:UInt8))) 31) (fun _ hS=>((ae hS).elt hi7))) 1 ?_
 refine zv (.ab (((stF (ovr (((lst 64 X).take 32).take 32) (fun _=>0)) 0 (((ovr (((lst 64 X).take 32).take 32) (fun _=>0)) 0)&&&(248:UInt8))) 31)&&&(127:UInt8)) (u:=((stF (ovr (((lst 64 X).take 32).take 32) (fun _=>0)) 0 (((ovr (((lst 64 X).take 32).take 32) (fun _=>0)) 0)&&&(248:UInt8))) 31)) (v:=(127:UInt8))) 1 ?_
 refine zv (.ob ((((stF (ovr (((lst 64 X).take 32).take 32) (fun _=>0)) 0 (((ovr (((lst 64 X).take 32).take 32) (fun _=>0)) 0)&&&(248:UInt8))) 31)&&&(127:UInt8))|||(64:UInt8)) (u:=(((stF (ovr (((lst 64 X).take 32).take 32) (fun _=>0)) 0 (((ovr (((lst 64 X).take 32).take 32) (fun _=>0)) 0)&&&(248:UInt8))) 31)&&&(127:UInt8))) (v:=(64:UInt8))) 1 ?_
 have hi8:31<32:=by omega
 refine zv (.ia 1 32 31 (hi:=hi8)) 0 ?_
 refine ze0 3 hH rfl (.st af ((((stF (ovr (((lst 64 X).take 32).take 32) (fun _=>0)) 0 (((ovr (((lst 64 X).take 32).take 32) (fun _=>0)) 0)&&&(248:UInt8))) 31)&&&(127:UInt8))|||(64:UInt8)) (aU (S:=sBy) (C:=(ac 32)) rfl hi8) (aQ (stF (ovr (((lst 64 X).take 32).take 32) (fun _=>0)) 0 (((ovr (((lst 64 X).take 32).take 32) (fun _=>0)) 0)&&&(248:UInt8))) ((((stF (ovr (((lst 64 X).take 32).take 32) (fun _=>0)) 0 (((ovr (((lst 64 X).take 32).take 32) (fun _=>0)) 0)&&&(248:UInt8))) 31)&&&(127:UInt8))|||(64:UInt8)) hi8)) trivial ?_
 clear hH
 rintro _ _ w rfl hH
 refine zn (zx ?_)
 replace hH:=hH.drew
 refine rld 0 (hH.q 3 rfl) (.l0 (ac 32) (stF (stF (ovr (((lst 64 X).take 32).take 32) (fun _=>0)) 0 (((ovr (((lst 64 X).take 32).take 32) (fun _=>0)) 0)&&&(248:UInt8))) 31 ((((stF (ovr (((lst 64 X).take 32).take 32) (fun _=>0)) 0 (((ovr (((lst 64 X).take 32).take 32) (fun _=>0)) 0)&&&(248:UInt8))) 31)&&&(127:UInt8))|||(64:UInt8)))) 7 ?_
 refine rv 2 (v:=(.slice (some ⟨g3,0+32*1,none⟩) (64-32) (64-32))) (fun _ _ hF=>dh (m:=64) (l:=32) (e:=5) (sz:=1) rfl (by kernel_rfl) (by kernel_rfl) (hF.ev 1 rfl) rfl rfl (by omega)) 2 ?_
 refine ao 1 ?_
 refine rm 1 hH (fun _ hF=>j8 (e:=5) rfl (by kernel_rfl) (by kernel_rfl)) trivial 0 (.keep (.nil _ [])) ?_
 clear hH
 rintro _ _ w ⟨g9,rfl,rfl⟩ hH
 refine ⟨am (hH.blk 3 rfl) an,?_⟩
 refine ao 3 ?_
 refine re 3 4 hH rfl (fun _ hF=>cf (C:=af) (l:=[]) (m:=((lst 64 X).drop 32)) (e:=5) (z:=(.int .u8 0)) (by_:=1) rfl (by kernel_rfl) (by kernel_rfl) rfl (ltb rfl) (hF.ev 0 rfl) ((Bk.lit0 (C:=af)).own 5 g9 rfl) (hF.ev 1 rfl) (by rw[List.length_drop,ap]) (fun h=>by cases h) (by rw[List.length_nil];unfold maxLen;omega) (by rw[List.length_nil];omega)) (bu (sz:=1) (b:=g3) (off:=0) (c:=64) (k:=32) (by omega)▸((bp (hH.blk 2 rfl)).from (k:=32) (by omega))) 3 (.keep (.nil _ [])) ?_
 clear hH
 rintro v12 E13 w ⟨hO14,_⟩ hH
 replace hO14:OwnT af 5 v12 ((lst 64 X).drop 32) E13:=hO14
 obtain ⟨A10,c11,rfl⟩:=hO14.slice
 refine ⟨am (hH.blk 3 rfl) an,?_⟩
 refine ao 4 ?_
 refine re0 4 1 hH rfl (.sw (ac 32) (fun _=>0) (stF (stF (ovr (((lst 64 X).take 32).take 32) (fun _=>0)) 0 (((ovr (((lst 64 X).take 32).take 32) (fun _=>0)) 0)&&&(248:UInt8))) 31 ((((stF (ovr (((lst 64 X).take 32).take 32) (fun _=>0)) 0 (((ovr (((lst 64 X).take 32).take 32) (fun _=>0)) 0)&&&(248:UInt8))) 31)&&&(127:UInt8))|||(64:UInt8)))) trivial (pgo [] (.nil _ [])) ?_
 clear hH
 rintro _ _ w rfl hH
 refine ⟨an,rv 5 .mv 3 ?_⟩
 refine rn ?_
 refine ar (aX 1 0 (hH.blk 1 rfl) rfl rfl rfl (by kernel_rfl) (Cod.size _ _) (by kernel_rfl) ?_)
 subst hX
 exact ⟨_,_,rfl,⟨_,_,rfl,hO14⟩,hH.out1 [false,false,false,false,true] rfl⟩
theorem yG(s:Nat→UInt8):Pure Tryz.prog 25 #[((ac 32).val s)] (fun _=>True) ((ac 32).val (rEd s)):=by
 refine pU Tryz.func25 Tryz.ntmps25 ?_
 intro w0 hH hR
 refine zr (zB hH (ac 32) s 1 ?_)
 clear hH
 intro g1 w hH
 refine zA hH (ac 32) (fun _=>0) 0 ?_
 clear hH
 intro g2 w hH
 refine zn (zr (zs (hH.q 0 rfl) (.l0 (ac 32) s) 2 ?_))
 refine zm hH (.call Tryz.func43 (tg s)) trivial 1 ?_
 clear hH
 rintro _ E3 w ⟨q4,l5,rfl,hO6⟩ hH
 refine zv .mv 1 ?_
 refine zv .ext 0 ?_
 refine zv .ext 2 ?_
 refine zA hH (ac 32) (fun _=>0) 0 ?_
 clear hH
 intro g7 w hH
 refine zW 3 hH rfl (rhB (bN (lst 32 s))) ?_
 clear hH
 intro w hH
 refine zv .mv 6 ?_
 refine zn (zr (zs (hH.q 3 rfl) (.l0 (ac 32) (rhB (bN (lst 32 s)))) 3 ?_))
 refine zc Tryz.func44 (xS (rhB (bN (lst 32 s)))) trivial hH 1 ?_
 clear hH
 intro w hH
 refine zW 1 hH rfl (bsE (rhB (bN (lst 32 s)))) ?_
 clear hH
 intro w hH
 refine zn (ar (aI 1 (hH.blk 1 rfl) rfl rfl (by kernel_rfl) (Cod.size _ _) (by kernel_rfl) ?_))
 exact zE hH
theorem oQ{s i:Nat}{v:Value}{r:List (Nat×Value)}{cs:Array Value}(hv:v.cells.size=s)(hf:i*s+s≤cs.size):Instr.fill (fun i=>some (i*s,s)) cs ((i,v)::r)=Instr.fill (fun i=>some (i*s,s)) (bJ cs (i*s) v.cells.toList) r:=by
 conv=>lhs;unfold Instr.fill
 simp only[hv]
 rw[if_neg (by simp;omega)]
 have hq:=fm v.cells.toList (i*s) cs 0
 rw[Nat.add_zero]at hq
 rw[← Array.foldl_toList,Array.toList_zipIdx,hq]
def vD(P:Program)(ty:TypeId)(s:Nat):Bool:=match P.underlying ty with
 | some (.array _ e)=>(P.info? e).map (·.size) == some s
 | _=>false
theorem gk{P:Program}{ty:TypeId}{a b:Nat→UInt8}{u v:Value}(h:vD P ty 32=true)(hz:((P.info? ty).bind (·.zero)).map (·.cells)=some ((ac 64).enc (fun _=>0)))(hu:(ac 32).val a=u)(hv:(ac 32).val b=v):P.built ty [(0,u),(1,v)]=some ((ac 64).enc (m6 (m6 (fun _=>0) 0 a) 1 b)):=by
 subst hu hv
 unfold vD at h
 unfold Program.built
 cases hi:P.info? ty with
 | none=>rw[hi]at hz;cases hz
 | some it =>
  rw[hi]at hz
  cases hd:P.underlying ty with
  | none=>rw[hd]at h;cases h
  | some d =>
   rw[hd]at h
   cases d<;>try (cases h;done)
   rename_i len e
   simp only at h ⊢
   cases hzz:it.zero with
   | none=>simp[hzz]at hz
   | some zv =>
    cases he:P.info? e with
    | none=>rw[he]at h;cases h
    | some ie =>
     rw[he]at h
     have hs:ie.size=32:=by simpa using h
     have hc:zv.cells=(ac 64).enc (fun _=>0):=by simpa[hzz] using hz
     have z0:((ac 64).enc (fun _=>0)).size=64:=(ac 64).size _
     simp only[hs,hc]
     rw[oQ (s:=32) (i:=0) ((ac 32).len a) (by rw[z0];decide),oQ (s:=32) (i:=1) ((ac 32).len b) (by rw[fk,z0];decide)]
     show some (bJ (bJ ((ac 64).enc fun _=>0) (0*32) ((ac 32).enc a).toList) (1*32) ((ac 32).enc b).toList)=_
     rw[m7,m7]
theorem Cl(k:Bt×Bt)(t:Nat)(ht:t<4294967296):Pure Tryz.prog 10 #[(cKy.val k),(.int .u32 t)] (fun _=>True) (cCe.val (bd sha t (rEd k.1) (xPub k.2))):=by
 refine pU Tryz.func10 Tryz.ntmps10 ?_
 intro w0 hH hR
 refine zr (zB hH cKy k 1 ?_)
 clear hH
 intro g1 w hH
 refine zA hH cCe (0,fun _=>0,fun _=>0,fun _=>0) 0 ?_
 clear hH
 intro g2 w hH
 refine zn (zx ?_)
 replace hH:=hH.drew
 refine rv 0 .mv 0 ?_
 refine rv 1 (.fld 0) 0 ?_
 refine rld 2 (hH.q 0 rfl) (.ld (ac 32) k.1 (fun _ hS=>(ae hS).fst)) 1 ?_
 refine rv 4 (.fld 32) 8 ?_
 refine rld 5 (hH.q 0 rfl) (.ld (ac 32) k.2 (fun _ hS=>(ae hS).snd)) 1 ?_
 refine rx2 3 8 (by kernel_rfl) ?_ ?_
 refine rpc 3 Tryz.func25 (yG k.1) trivial hH 2 (.keep (pgo [] (.nil _ []))) ?_
 clear hH
 intro w hH
 refine ⟨am (hH.blk 0 rfl) an,?_⟩
 refine rx2 6 8 (by kernel_rfl) ?_ ?_
 refine rpc 6 Tryz.func21 (jn k.2) trivial hH 2 (pgo [] (.nil _ [])) ?_
 clear hH
 intro w hH
 refine ⟨an,rv 7 (v:=(cCe.val (t,rEd k.1,xPub k.2,fun _=>0))) (fun _ _ hF=>aE (cells:=cCe.enc (t,rEd k.1,xPub k.2,fun _=>0)) rfl (EvP.cons (v:=(.int .u32 t)) (hF.ev 2 rfl) (EvP.cons (v:=((ac 32).val (rEd k.1))) (hF.ev 1 rfl) (EvP.cons (v:=((ac 32).val (xPub k.2))) (hF.ev 0 rfl) EvP.nil))) (hU (A:=eX .u32) (B:=ac 32) (C:=ac 32) (D:=ac 64) 0 (fun _=>0) (fun _=>0) (fun _=>0) (by kernel_rfl) (by kernel_rfl) rfl rfl rfl) _) 7 ?_⟩
 refine ao 8 ?_
 refine rm 8 hH (.al cCe (0,fun _=>0,fun _=>0,fun _=>0)) trivial 0 (.nil _ []) ?_
 clear hH
 rintro _ _ w ⟨g3,rfl,rfl⟩ hH
 refine ⟨an,ao 9 ?_⟩
 refine re0 9 2 hH rfl (.sw cCe (0,fun _=>0,fun _=>0,fun _=>0) (t,rEd k.1,xPub k.2,fun _=>0)) trivial (.nil _ []) ?_
 clear hH
 rintro _ _ w rfl hH
 refine ⟨an,rn ?_⟩
 refine zx ?_
 replace hH:=hH.drew
 refine rv 0 .mv 2 ?_
 refine rv 1 (.fld 1) 0 ?_
 refine rld 2 (hH.q 2 rfl) (.ld (ac 32) (rEd k.1) (fun _ hS=>((ae hS).snd).fst)) 1 ?_
 refine rv 5 .mv 16 ?_
 refine rv 6 (.fld 33) 0 ?_
 refine rld 7 (hH.q 2 rfl) (.ld (ac 32) (xPub k.2) (fun _ hS=>(((ae hS).snd).snd).fst)) 1 ?_
 refine ao 3 ?_
 refine rm 3 hH (.call Tryz.func27 ((mg t ht 27 (rEd k.1)))) trivial 12 (.keep (pgo [] (.nil _ []))) ?_
 clear hH
 rintro v8 E4 w hO5 hH
 obtain ⟨A6,c7,rfl⟩:=hO5.slice
 refine ⟨am (hH.blk 2 rfl) an,?_⟩
 refine ao 4 (rpc 4 Tryz.func26 (mh A6 ((kpL t 27 (rEd k.1)).length) c7 (kpL t 27 (rEd k.1)) (by rw[eU];omega)) (hO5.vuAt (hH.has 3 rfl)) hH 1 (.keep (.nil _ [])) ?_)
 clear hH
 intro w hH
 refine ⟨am (hH.blk 2 rfl) an,?_⟩
 refine ao 8 ?_
 refine rm 8 hH (.call Tryz.func27 ((mg t ht 25 (xPub k.2)))) trivial 6 (pgo [] (.nil _ [])) ?_
 clear hH
 rintro v14 E10 w hO11 hH
 obtain ⟨A12,c13,rfl⟩:=hO11.slice
 refine ⟨an,?_⟩
 refine ao 9 (rpc 9 Tryz.func26 (mh A12 ((kpL t 25 (xPub k.2)).length) c13 (kpL t 25 (xPub k.2)) (by rw[eU];omega)) (hO11.vuAt (hH.has 4 rfl)) hH 1 (.nil _ []) ?_)
 clear hH
 intro w hH
 refine ⟨an,rv 10 (v:=((ac 64).val (prB sha t (rEd k.1) (xPub k.2)))) (fun _ _ hF=>aE (cells:=(ac 64).enc (prB sha t (rEd k.1) (xPub k.2))) rfl (EvP.cons (v:=((ac 32).val (sha (hfL (kpL t 27 (rEd k.1)))))) (hF.ev 1 rfl) (EvP.cons (v:=((ac 32).val (sha (hfL (kpL t 25 (xPub k.2)))))) (hF.ev 0 rfl) EvP.nil)) (gk (by kernel_rfl) (by kernel_rfl) rfl rfl) _) 3 ?_⟩
 refine rv 11 (.fld 65) 0 ?_
 refine ao 12 ?_
 refine re0 12 2 hH rfl (fun _ hF=>bV (C:=(ac 64)) (z:=(prB sha t (rEd k.1) (xPub k.2))) rfl (hF.ev 0 rfl) (hF.ev 1 rfl) rfl (by kernel_rfl) (by rw[Cod.size];exact leb rfl) (co (co (co (cy (ac 64) _ _) rfl) rfl) rfl)) trivial (.nil _ []) ?_
 clear hH
 rintro _ _ w rfl hH
 refine ⟨an,rn ?_⟩
 replace hH:HH w0 [] [[bl g1 24 (cKy.enc k)],[bl g2 36 (cCe.enc (0,fun _=>0,fun _=>0,fun _=>0))],[bl g3 36 (cCe.enc (bd sha t (rEd k.1) (xPub k.2)))],E4,E10] w:=hH
 refine zr (zs (hH.q 2 rfl) (.l0 cCe (bd sha t (rEd k.1) (xPub k.2))) 7 ?_)
 refine zW 1 hH rfl (bd sha t (rEd k.1) (xPub k.2)) ?_
 clear hH
 intro w hH
 refine zn (ar (aI 1 (hH.blk 1 rfl) rfl rfl (by kernel_rfl) (Cod.size _ _) (by kernel_rfl) ?_))
 exact zE hH
 refine rm 8 hH (.al cCe (0,fun _=>0,fun _=>0,fun _=>0)) trivial 0 (.keep (.nil _ [])) ?_
 clear hH
 rintro _ _ w ⟨g16,rfl,rfl⟩ hH
 refine ⟨am (hH.blk 0 rfl) an,?_⟩
 refine ao 6 (rpc 6 Tryz.func21 (jn k.2) trivial hH 4 (pgo [] (.nil _ [])) ?_)
 clear hH
 intro w hH
 refine ⟨an,rv 7 (v:=(cCe.val (t,rEd k.1,xPub k.2,fun _=>0))) (fun _ _ hF=>aE (cells:=cCe.enc (t,rEd k.1,xPub k.2,fun _=>0)) rfl (EvP.cons (v:=(.int .u32 t)) (hF.ev 3 rfl) (EvP.cons (v:=((ac 32).val (rEd k.1))) (hF.ev 2 rfl) (EvP.cons (v:=((ac 32).val (xPub k.2))) (hF.ev 0 rfl) EvP.nil))) (hU (A:=eX .u32) (B:=ac 32) (C:=ac 32) (D:=ac 64) 0 (fun _=>0) (fun _=>0) (fun _=>0) (by kernel_rfl) (by kernel_rfl) rfl rfl rfl) _) 13 ?_⟩
 refine ao 9 ?_
 refine re0 9 2 hH rfl (.sw cCe (0,fun _=>0,fun _=>0,fun _=>0) (t,rEd k.1,xPub k.2,fun _=>0)) trivial (.nil _ []) ?_
 clear hH
 rintro _ _ w rfl hH
 refine ⟨an,rn ?_⟩
 refine zx ?_
 replace hH:=hH.drew
 refine rv 0 .mv 1 ?_
 refine rv 1 (.fld 1) 0 ?_
 refine rld 2 (hH.q 2 rfl) (.ld (ac 32) (rEd k.1) (fun _ hS=>((ae hS).snd).fst)) 1 ?_
 refine rv 5 .mv 16 ?_
 refine rv 6 (.fld 33) 0 ?_
 refine rld 7 (hH.q 2 rfl) (.ld (ac 32) (xPub k.2) (fun _ hS=>(((ae hS).snd).snd).fst)) 1 ?_
 refine ao 3 ?_
 refine rm 3 hH (.call Tryz.func27 ((mg t ht 27 (rEd k.1)))) trivial 12 (.keep (pgo [] (.nil _ []))) ?_
 clear hH
 rintro v21 E17 w hO18 hH
 obtain ⟨A19,c20,rfl⟩:=hO18.slice
 refine ⟨am (hH.blk 2 rfl) an,?_⟩
 refine ao 4 (rpc 4 Tryz.func26 (mh A19 ((kpL t 27 (rEd k.1)).length) c20 (kpL t 27 (rEd k.1)) (by rw[eU];omega)) (hO18.vuAt (hH.has 3 rfl)) hH 1 (.keep (.nil _ [])) ?_)
 clear hH
 intro w hH
 refine ⟨am (hH.blk 2 rfl) an,?_⟩
 refine ao 8 ?_
 refine rm 8 hH (.call Tryz.func27 ((mg t ht 25 (xPub k.2)))) trivial 6 (pgo [] (.nil _ [])) ?_
 clear hH
 rintro v27 E23 w hO24 hH
 obtain ⟨A25,c26,rfl⟩:=hO24.slice
 refine ⟨an,?_⟩
 refine ao 9 (rpc 9 Tryz.func26 (mh A25 ((kpL t 25 (xPub k.2)).length) c26 (kpL t 25 (xPub k.2)) (by rw[eU];omega)) (hO24.vuAt (hH.has 4 rfl)) hH 1 (.nil _ []) ?_)
 clear hH
 intro w hH
 refine ⟨an,rv 10 (v:=((ac 64).val (prB sha t (rEd k.1) (xPub k.2)))) (fun _ _ hF=>aE (cells:=(ac 64).enc (prB sha t (rEd k.1) (xPub k.2))) rfl (EvP.cons (v:=((ac 32).val (sha (hfL (kpL t 27 (rEd k.1)))))) (hF.ev 1 rfl) (EvP.cons (v:=((ac 32).val (sha (hfL (kpL t 25 (xPub k.2)))))) (hF.ev 0 rfl) EvP.nil)) (gk (by kernel_rfl) (by kernel_rfl) rfl rfl) _) 3 ?_⟩
 refine rv 11 (.fld 65) 0 ?_
 refine ao 12 ?_
 refine re0 12 2 hH rfl (fun _ hF=>bV (C:=(ac 64)) (z:=(prB sha t (rEd k.1) (xPub k.2))) rfl (hF.ev 0 rfl) (hF.ev 1 rfl) rfl (by kernel_rfl) (by rw[Cod.size];exact leb rfl) (co (co (co (cy (ac 64) _ _) rfl) rfl) rfl)) trivial (.nil _ []) ?_
 clear hH
 rintro _ _ w rfl hH
 refine ⟨an,rn ?_⟩
 replace hH:HH w0 [] [[bl g1 24 (cKy.enc k)],[bl g2 36 (cCe.enc (0,fun _=>0,fun _=>0,fun _=>0))],[bl g16 36 (cCe.enc (bd sha t (rEd k.1) (xPub k.2)))],E17,E23] w:=hH
 refine zr (zs (hH.q 2 rfl) (.l0 cCe (bd sha t (rEd k.1) (xPub k.2))) 7 ?_)
 refine zW 1 hH rfl (bd sha t (rEd k.1) (xPub k.2)) ?_
 clear hH
 intro w hH
 refine zn (ar (aI 1 (hH.blk 1 rfl) rfl rfl (by kernel_rfl) (Cod.size _ _) (by kernel_rfl) ?_))
 exact zE hH
 refine rm 8 hH (.al cCe (0,fun _=>0,fun _=>0,fun _=>0)) trivial 0 (.keep (.keep (.nil _ []))) ?_
 clear hH
 rintro _ _ w ⟨g29,rfl,rfl⟩ hH
 refine ⟨am (hH.blk 0 rfl) (am (hH.blk 0 rfl) an),?_⟩
 refine ao 3 (rpc 3 Tryz.func25 (yG k.1) trivial hH 4 (.keep (pgo [] (.nil _ []))) ?_)
 clear hH
 intro w hH
 refine ⟨am (hH.blk 0 rfl) an,?_⟩
 refine ao 6 (rpc 6 Tryz.func21 (jn k.2) trivial hH 4 (pgo [] (.nil _ [])) ?_)
 clear hH
 intro w hH
 refine ⟨an,rv 7 (v:=(cCe.val (t,rEd k.1,xPub k.2,fun _=>0))) (fun _ _ hF=>aE (cells:=cCe.enc (t,rEd k.1,xPub k.2,fun _=>0)) rfl (EvP.cons (v:=(.int .u32 t)) (hF.ev 3 rfl) (EvP.cons (v:=((ac 32).val (rEd k.1))) (hF.ev 1 rfl) (EvP.cons (v:=((ac 32).val (xPub k.2))) (hF.ev 0 rfl) EvP.nil))) (hU (A:=eX .u32) (B:=ac 32) (C:=ac 32) (D:=ac 64) 0 (fun _=>0) (fun _=>0) (fun _=>0) (by kernel_rfl) (by kernel_rfl) rfl rfl rfl) _) 11 ?_⟩
 refine ao 9 ?_
 refine re0 9 2 hH rfl (.sw cCe (0,fun _=>0,fun _=>0,fun _=>0) (t,rEd k.1,xPub k.2,fun _=>0)) trivial (.nil _ []) ?_
 clear hH
 rintro _ _ w rfl hH
 refine ⟨an,rn ?_⟩
 refine zx ?_
 replace hH:=hH.drew
 refine rv 0 .mv 1 ?_
 refine rv 1 (.fld 1) 0 ?_
 refine rld 2 (hH.q 2 rfl) (.ld (ac 32) (rEd k.1) (fun _ hS=>((ae hS).snd).fst)) 1 ?_
 refine rv 5 .mv 16 ?_
 refine rv 6 (.fld 33) 0 ?_
 refine rld 7 (hH.q 2 rfl) (.ld (ac 32) (xPub k.2) (fun _ hS=>(((ae hS).snd).snd).fst)) 1 ?_
 refine ao 3 ?_
 refine rm 3 hH (.call Tryz.func27 ((mg t ht 27 (rEd k.1)))) trivial 12 (.keep (pgo [] (.nil _ []))) ?_
 clear hH
 rintro v34 E30 w hO31 hH
 obtain ⟨A32,c33,rfl⟩:=hO31.slice
 refine ⟨am (hH.blk 2 rfl) an,?_⟩
 refine ao 4 (rpc 4 Tryz.func26 (mh A32 ((kpL t 27 (rEd k.1)).length) c33 (kpL t 27 (rEd k.1)) (by rw[eU];omega)) (hO31.vuAt (hH.has 3 rfl)) hH 1 (.keep (.nil _ [])) ?_)
 clear hH
 intro w hH
 refine ⟨am (hH.blk 2 rfl) an,?_⟩
 refine ao 8 ?_
 refine rm 8 hH (.call Tryz.func27 ((mg t ht 25 (xPub k.2)))) trivial 6 (pgo [] (.nil _ [])) ?_
 clear hH
 rintro v40 E36 w hO37 hH
 obtain ⟨A38,c39,rfl⟩:=hO37.slice
 refine ⟨an,?_⟩
 refine ao 9 (rpc 9 Tryz.func26 (mh A38 ((kpL t 25 (xPub k.2)).length) c39 (kpL t 25 (xPub k.2)) (by rw[eU];omega)) (hO37.vuAt (hH.has 4 rfl)) hH 1 (.nil _ []) ?_)
 clear hH
 intro w hH
 refine ⟨an,rv 10 (v:=((ac 64).val (prB sha t (rEd k.1) (xPub k.2)))) (fun _ _ hF=>aE (cells:=(ac 64).enc (prB sha t (rEd k.1) (xPub k.2))) rfl (EvP.cons (v:=((ac 32).val (sha (hfL (kpL t 27 (rEd k.1)))))) (hF.ev 1 rfl) (EvP.cons (v:=((ac 32).val (sha (hfL (kpL t 25 (xPub k.2)))))) (hF.ev 0 rfl) EvP.nil)) (gk (by kernel_rfl) (by kernel_rfl) rfl rfl) _) 3 ?_⟩
 refine rv 11 (.fld 65) 0 ?_
 refine ao 12 ?_
 refine re0 12 2 hH rfl (fun _ hF=>bV (C:=(ac 64)) (z:=(prB sha t (rEd k.1) (xPub k.2))) rfl (hF.ev 0 rfl) (hF.ev 1 rfl) rfl (by kernel_rfl) (by rw[Cod.size];exact leb rfl) (co (co (co (cy (ac 64) _ _) rfl) rfl) rfl)) trivial (.nil _ []) ?_
 clear hH
 rintro _ _ w rfl hH
 refine ⟨an,rn ?_⟩
 replace hH:HH w0 [] [[bl g1 24 (cKy.enc k)],[bl g2 36 (cCe.enc (0,fun _=>0,fun _=>0,fun _=>0))],[bl g29 36 (cCe.enc (bd sha t (rEd k.1) (xPub k.2)))],E30,E36] w:=hH
 refine zr (zs (hH.q 2 rfl) (.l0 cCe (bd sha t (rEd k.1) (xPub k.2))) 7 ?_)
 refine zW 1 hH rfl (bd sha t (rEd k.1) (xPub k.2)) ?_
 clear hH
 intro w hH
 refine zn (ar (aI 1 (hH.blk 1 rfl) rfl rfl (by kernel_rfl) (Cod.size _ _) (by kernel_rfl) ?_))
 exact zE hH
theorem pY(S:Bt)(k o:Bt×Bt)(d:Bt)(a:Nat)(y v:UInt8):Pure Tryz.prog 5 #[((ac 32).val S),(cKy.val k),(cKy.val o),((ac 32).val d),(.int .u64 a),(.int .u8 y.toNat),(.int .u8 v.toNat)] (fun w=>w.heap[4]?=some (.cells ((cQs 80).enc K64) 159 (0,0))∧w.heap[1]?=some (.cells ((cQs 8).enc H64) 141 (0,0))∧w.heap[3]?=some (.cells ((cWs 64).enc K32) 119 (0,0))∧w.heap[2]?=some (.cells ((cWs 8).enc H32) 118 (0,0))∧w.heap[0]?=some (.cells ((ac 256).enc ah) 103 (0,0))) (.bool true):=by
 refine pU Tryz.func5 Tryz.ntmps5 ?_
 intro w0 hH hR
 refine zr (zB hH (ac 32) S 1 ?_)
 clear hH
 intro g1 w hH
 refine zB hH cKy k 2 ?_
 clear hH
 intro g2 w hH
 refine zB hH cKy o 4 ?_
 clear hH
 intro g3 w hH
 refine zB hH (ac 32) d 8 ?_
 clear hH
 intro g4 w hH
 refine zv .mv 0 ?_
 refine zn (aj (zr (zm hH (.call Tryz.func6 (AD.does)) (⟨(hH.oldBlk hR.1 (by simp)),(hH.oldBlk hR.2.1 (by simp)),(hH.oldBlk hR.2.2.1 (by simp)),(hH.oldBlk hR.2.2.2.1 (by simp)),(hH.oldBlk hR.2.2.2.2 (by simp))⟩) 1 ?_)))
 clear hH
 rintro _ _ w ⟨rfl,rfl⟩ hH
 replace hH:HH w0 [] [[bl g1 22 ((ac 32).enc S)],[bl g2 24 (cKy.enc k)],[bl g3 24 (cKy.enc o)],[bl g4 22 ((ac 32).enc d)]] w:=hH.unpad
 refine zv (v:=(.bool false)) (fun _ _ hF=>ej rfl (hF.ev 0 rfl) rfl) 1 ?_
 refine zn (zF ?_)
 refine aA (ag (zr (zs (hH.q 1 rfl) (.l0 cKy k) 1 ?_)))
 refine zc Tryz.func10 (Cl k 7 (by decide)) trivial hH 1 ?_
 clear hH
 intro w hH
 refine zA hH cCe (0,fun _=>0,fun _=>0,fun _=>0) 0 ?_
 clear hH
 intro g5 w hH
 refine zW 4 hH rfl (bd sha 7 (rEd k.1) (xPub k.2)) ?_
 clear hH
 intro w hH
 refine zn (zr (zs (hH.q 0 rfl) (.l0 (ac 32) S) 34 ?_))
 refine zs (hH.q 4 rfl) (.l0 cCe (bd sha 7 (rEd k.1) (xPub k.2))) 0 ?_
 refine zs (hH.q 3 rfl) (.l0 (ac 32) d) 8 ?_
 refine zm hH (.call Tryz.func9 (xH S (bd sha 7 (rEd k.1) (xPub k.2)) d)) trivial 7 ?_
 clear hH
 rintro _ E6 w ⟨s10,rfl,hO7⟩ hH
 obtain ⟨A8,c9,rfl⟩:=hO7.slice
 refine zv .mv 1 ?_
 refine zv .ext 0 ?_
 refine zv .ext 2 ?_
 refine zv .mv 2 ?_
 refine zv .mv 2 ?_
 refine zn (aj ?_)
 have hs:skE d (bd sha 7 (rEd k.1) (xPub k.2))=0:=rP _ _ _ rfl
 have hl:(skL S (bd sha 7 (rEd k.1) (xPub k.2)) d).length=109:=rQ _ _ _ hs
 obtain ⟨B,hB⟩:∃ B,skL S (bd sha 7 (rEd k.1) (xPub k.2)) d=B:=⟨_,rfl⟩
 rw[hB]at hl hO7
 rw[hB]
 have hmod:a%B.length<B.length:=Nat.mod_lt _ (by omega)
 refine zr (zv .mv 1 ?_)
 refine zv .len 1 ?_
 refine zv (v:=(.bool false)) (fun _ _ hF=>fN rfl (hF.ev 0 rfl) rfl (decide_eq_false (by rw[hl];decide))) 1 ?_
 refine zn (zF ?_)
 refine aA (ag (aj (zr (zv .mv 129 ?_))))
 refine zv (v:=(.int .u8 (((v.toNat%3):Nat):Int))) (fun _ _ hF=>bm (z:=((v.toNat%3:Nat):Int)) rfl (hF.ev 0 rfl) rfl (by omega) bW) 1 ?_
 refine zn (ai (zr (zv (.eq (v.toNat%3=0)) 0 ?_)))
 refine zv .mv 1 ?_
 refine zn ?_
 refine zP (fun hc12 => ?_) (fun hc12 => ?_)
 refine aC (zv .mv 19 ?_)
 refine zv .mv 16 ?_
 refine zv .mv 0 ?_
 refine zv .len 1 ?_
 refine zv (.cu .u64) 1 ?_
 refine zv (v:=(.int .u64 (((a%B.length):Nat):Int))) (fun _ _ hF=>bm (z:=((a%B.length:Nat):Int)) rfl (hF.ev 1 rfl) (hF.ev 0 rfl) (by omega) bW) 3 ?_
 obtain ⟨g13,cap14,cur15,hv17,rfl,hB16⟩:=hO7.open (by omega)
 obtain ⟨rfl,rfl⟩:A8=some ⟨g13,0,none⟩∧c9=cap14:=by injection hv17 with h1 h2 h3;exact ⟨h1,h3⟩
 have:=hB16.le
 have hi18:a%B.length<B.length:=by omega
 have hj21:a%B.length<B.length:=by first | exact hi18 | (simp only[List.length_drop];omega) | (simp only[List.length_drop,List.length_take];omega) | omega
 obtain ⟨x19,hx20⟩:=ck B (a%B.length) hj21
 have hb22:=UInt8.toNat_lt x19
 refine zv (.ix 1 (a%B.length) (hi:=hi18)) 0 ?_
 refine zs (hH.q 5 rfl) (.ld af x19 (fun _ hS=>((hB16.holdsL hS) (a%B.length) _ hx20))) 1 ?_
 refine zv .mv 64 ?_
 refine zv (.pb (x19+y) (u:=x19) (v:=y)) 3 ?_
 have hi23:a%B.length<B.length:=by omega
 have hj26:a%B.length<B.length:=by first | exact hi23 | (simp only[List.length_drop];omega) | (simp only[List.length_drop,List.length_take];omega) | omega
 obtain ⟨x24,hx25⟩:=ck B (a%B.length) hj26
 have hb27:=UInt8.toNat_lt x24
 refine zv (.ix 1 (a%B.length) (hi:=hi23)) 6 ?_
 obtain ⟨cur29,hcs30,hB28⟩:∃ cs,bJ cur15 (0+(a%B.length)*1) (af.enc (x19+y)).toList=cs∧Bk af c9 cs (B.set (a%B.length) (x19+y)):=⟨_,rfl,eZ hB16 (a%B.length) hj26 (x19+y)⟩
 refine ze0 5 hH rfl (fun _ hF=>bV (C:=af) (z:=(x19+y)) rfl (hF.ev 0 rfl) (hF.ev 1 rfl) rfl (by kernel_rfl) (ed hB16 hj26) hcs30) trivial ?_
 clear hH
 rintro _ _ w rfl hH
 refine aD (aN (ag (zr (zv .mv 3 ?_))))
 refine zs (hH.q 1 rfl) (.l0 cKy k) 0 ?_
 refine zs (hH.q 4 rfl) (.l0 cCe (bd sha 7 (rEd k.1) (xPub k.2))) 0 ?_
 refine zc Tryz.func11 (pS (some ⟨g13,0,none⟩) B.length c9 (B.set (a%B.length) (x19+y)) k (bd sha 7 (rEd k.1) (xPub k.2))) (⟨(hH.oldBlk hR.2.2.1 (by simp)),(hH.oldBlk hR.2.2.2.1 (by simp)),(hH.oldBlk hR.2.2.2.2 (by simp)),(hB28.vu (n:=B.length) (hH.blk 5 rfl) List.length_set)⟩) hH 7 ?_
 clear hH
 intro w hH
 refine zv .mv 1 ?_
 refine zv .ext 0 ?_
 refine zv .ext 2 ?_
 refine zA hH (ac 32) (fun _=>0) 0 ?_
 clear hH
 intro g31 w hH
 refine zW 6 hH rfl ((opR (B.set (a%B.length) (x19+y)) k.2 (bd sha 7 (rEd k.1) (xPub k.2))).1) ?_
 clear hH
 intro w hH
 refine zv .mv 6 ?_
 refine zn (zr (zv .mv 4 ?_))
 refine zs (hH.q 1 rfl) (.l0 cKy k) 16 ?_
 refine zs (hH.q 4 rfl) (.l0 cCe (bd sha 7 (rEd k.1) (xPub k.2))) 16 ?_
 refine zc Tryz.func12 (nm (some ⟨g13,0,none⟩) B.length c9 (B.set (a%B.length) (x19+y)) k (bd sha 7 (rEd k.1) (xPub k.2))) (hB28.vu (n:=B.length) (hH.blk 5 rfl) List.length_set) hH 7 ?_
 clear hH
 intro w hH
 refine zv .mv 1 ?_
 refine zv .ext 0 ?_
 refine zv .ext 2 ?_
 refine zA hH (ac 32) (fun _=>0) 0 ?_
 clear hH
 intro g32 w hH
 refine zW 7 hH rfl ((opR (B.set (a%B.length) (x19+y)) k.2 (bd sha 7 (rEd k.1) (xPub k.2))).1) ?_
 clear hH
 intro w hH
 refine zv .mv 6 ?_
 refine zn (zr (zs (hH.q 6 rfl) (.l0 (ac 32) ((opR (B.set (a%B.length) (x19+y)) k.2 (bd sha 7 (rEd k.1) (xPub k.2))).1)) 8 ?_))
 refine zs (hH.q 7 rfl) (.l0 (ac 32) ((opR (B.set (a%B.length) (x19+y)) k.2 (bd sha 7 (rEd k.1) (xPub k.2))).1)) 4 ?_
 refine zv (v:=(.bool true)) (fun _ _ hF=>kg (n:=32) (e:=5) (f:=(opR (B.set (a%B.length) (x19+y)) k.2 (bd sha 7 (rEd k.1) (xPub k.2))).1) (g:=(opR (B.set (a%B.length) (x19+y)) k.2 (bd sha 7 (rEd k.1) (xPub k.2))).1) (p:=True) rfl (by kernel_rfl) (by kernel_rfl) (by kernel_rfl) (hF.ev 1 rfl) (hF.ev 0 rfl) (by kernel_rfl) ⟨fun _=>trivial,fun _=>rfl⟩) 3 ?_
 refine zv .mv 1 ?_
 refine pxV (v:=(.int .i64 ((((opR (B.set (a%B.length) (x19+y)) k.2 (bd sha 7 (rEd k.1) (xPub k.2))).2):Nat):Int))) (fun _ _ hF=>bo rfl (hF.ev 2 rfl)) rfl (gOn 0 rfl rfl rfl (by decide)) (kM [true,true,false] rfl rfl) (by decide) ?_
 refine pxV (v:=(.int .i64 ((((opR (B.set (a%B.length) (x19+y)) k.2 (bd sha 7 (rEd k.1) (xPub k.2))).2):Nat):Int))) (fun _ _ hF=>bo rfl (hF.ev 2 rfl)) rfl (gOn 1 rfl rfl rfl (by decide)) (kM [true,true,false] rfl rfl) (by decide) ?_
 refine pxV (v:=(.bool true)) (fun _ _ hF=>fN rfl (hF.ev 1 rfl) (hF.ev 0 rfl) (decide_eq_true (rfl))) rfl (gOn 2 rfl rfl rfl (by decide)) (kM [false,false,true] rfl rfl) (by decide) ?_
 refine zv (v:=(.bool true)) (fun _ _ hF=>cB rfl (hF.ev 1 rfl) (hF.ev 0 rfl)) 3 ?_
 refine zv .mv 1 ?_
 refine zn (ar (aW 0 rfl rfl ?_))
 exact zE hH
 refine zr (zv (.eq (v.toNat%3=1)) 131 ?_)
 refine zv .mv 1 ?_
 refine zn ?_
 refine zP (fun hc33 => ?_) (fun hc33 => ?_)
 refine aC (zv .mv 9 ?_)
 refine zv .mv 16 ?_
 refine zv .mv 4 ?_
 refine zv .len 1 ?_
 refine zv (.cu .u64) 1 ?_
 have hcap:=hO7.capLe
 refine zv (v:=(.int .u64 (((a%B.length):Nat):Int))) (fun _ _ hF=>bm (z:=((a%B.length:Nat):Int)) rfl (hF.ev 1 rfl) (hF.ev 0 rfl) (by omega) bW) 3 ?_
 refine zv (v:=(.slice A8 (a%B.length) c9)) (fun _ _ hF=>eY (h:=a%B.length) (e:=5) (sz:=1) rfl (by kernel_rfl) (by kernel_rfl) (hF.ev 1 rfl) (hF.ev 0 rfl) rfl (by omega)) 3 ?_
 refine zv .mv 1 ?_
 refine aD (aN (ag (zr (zv .mv 0 ?_))))
 refine zs (hH.q 1 rfl) (.l0 cKy k) 0 ?_
 refine zs (hH.q 4 rfl) (.l0 cCe (bd sha 7 (rEd k.1) (xPub k.2))) 0 ?_
 refine zc Tryz.func11 (pS A8 (a%B.length) c9 (B.take (a%B.length)) k (bd sha 7 (rEd k.1) (xPub k.2))) (⟨(hH.oldBlk hR.2.2.1 (by simp)),(hH.oldBlk hR.2.2.2.1 (by simp)),(hH.oldBlk hR.2.2.2.2 (by simp)),((hO7.vuAt (hH.has 5 rfl)).head (m:=a%B.length) (by omega))⟩) hH 7 ?_
 clear hH
 intro w hH
 refine zv .mv 1 ?_
 refine zv .ext 0 ?_
 refine zv .ext 2 ?_
 refine zA hH (ac 32) (fun _=>0) 0 ?_
 clear hH
 intro g34 w hH
 refine zW 6 hH rfl ((opR (B.take (a%B.length)) k.2 (bd sha 7 (rEd k.1) (xPub k.2))).1) ?_
 clear hH
 intro w hH
 refine zv .mv 6 ?_
 refine zn (zr (zv .mv 4 ?_))
 refine zs (hH.q 1 rfl) (.l0 cKy k) 16 ?_
 refine zs (hH.q 4 rfl) (.l0 cCe (bd sha 7 (rEd k.1) (xPub k.2))) 16 ?_
 refine zc Tryz.func12 (nm A8 (a%B.length) c9 (B.take (a%B.length)) k (bd sha 7 (rEd k.1) (xPub k.2))) ((hO7.vuAt (hH.has 5 rfl)).head (m:=a%B.length) (by omega)) hH 7 ?_
 clear hH
 intro w hH
 refine zv .mv 1 ?_
 refine zv .ext 0 ?_
 refine zv .ext 2 ?_
 refine zA hH (ac 32) (fun _=>0) 0 ?_
 clear hH
 intro g35 w hH
 refine zW 7 hH rfl ((opR (B.take (a%B.length)) k.2 (bd sha 7 (rEd k.1) (xPub k.2))).1) ?_
 clear hH
 intro w hH
 refine zv .mv 6 ?_
 refine zn (zr (zs (hH.q 6 rfl) (.l0 (ac 32) ((opR (B.take (a%B.length)) k.2 (bd sha 7 (rEd k.1) (xPub k.2))).1)) 8 ?_))
 refine zs (hH.q 7 rfl) (.l0 (ac 32) ((opR (B.take (a%B.length)) k.2 (bd sha 7 (rEd k.1) (xPub k.2))).1)) 4 ?_
 refine zv (v:=(.bool true)) (fun _ _ hF=>kg (n:=32) (e:=5) (f:=(opR (B.take (a%B.length)) k.2 (bd sha 7 (rEd k.1) (xPub k.2))).1) (g:=(opR (B.take (a%B.length)) k.2 (bd sha 7 (rEd k.1) (xPub k.2))).1) (p:=True) rfl (by kernel_rfl) (by kernel_rfl) (by kernel_rfl) (hF.ev 1 rfl) (hF.ev 0 rfl) (by kernel_rfl) ⟨fun _=>trivial,fun _=>rfl⟩) 3 ?_
 refine zv .mv 1 ?_
 refine pxV (v:=(.int .i64 ((((opR (B.take (a%B.length)) k.2 (bd sha 7 (rEd k.1) (xPub k.2))).2):Nat):Int))) (fun _ _ hF=>bo rfl (hF.ev 2 rfl)) rfl (gOn 0 rfl rfl rfl (by decide)) (kM [true,true,false] rfl rfl) (by decide) ?_
 refine pxV (v:=(.int .i64 ((((opR (B.take (a%B.length)) k.2 (bd sha 7 (rEd k.1) (xPub k.2))).2):Nat):Int))) (fun _ _ hF=>bo rfl (hF.ev 2 rfl)) rfl (gOn 1 rfl rfl rfl (by decide)) (kM [true,true,false] rfl rfl) (by decide) ?_
 refine pxV (v:=(.bool true)) (fun _ _ hF=>fN rfl (hF.ev 1 rfl) (hF.ev 0 rfl) (decide_eq_true (rfl))) rfl (gOn 2 rfl rfl rfl (by decide)) (kM [false,false,true] rfl rfl) (by decide) ?_
 refine zv (v:=(.bool true)) (fun _ _ hF=>cB rfl (hF.ev 1 rfl) (hF.ev 0 rfl)) 3 ?_
 refine zv .mv 1 ?_
 refine zn (ar (aW 0 rfl rfl ?_))
 exact zE hH
 refine aC (zs (hH.q 2 rfl) (.l0 cKy o) 41 ?_)
 refine zW 1 hH rfl o ?_
 clear hH
 intro w hH
 refine aD (aN (ag (zr (zv .mv 1 ?_))))
 refine zs (hH.q 1 rfl) (.l0 cKy o) 0 ?_
 refine zs (hH.q 4 rfl) (.l0 cCe (bd sha 7 (rEd k.1) (xPub k.2))) 0 ?_
 refine zc Tryz.func11 (pS A8 B.length c9 B o (bd sha 7 (rEd k.1) (xPub k.2))) (⟨(hH.oldBlk hR.2.2.1 (by simp)),(hH.oldBlk hR.2.2.2.1 (by simp)),(hH.oldBlk hR.2.2.2.2 (by simp)),(hO7.vuAt (hH.has 5 rfl))⟩) hH 7 ?_
 clear hH
 intro w hH
 refine zv .mv 1 ?_
 refine zv .ext 0 ?_
 refine zv .ext 2 ?_
 refine zA hH (ac 32) (fun _=>0) 0 ?_
 clear hH
 intro g36 w hH
 refine zW 6 hH rfl ((opR B o.2 (bd sha 7 (rEd k.1) (xPub k.2))).1) ?_
 clear hH
 intro w hH
 refine zv .mv 6 ?_
 refine zn (zr (zv .mv 4 ?_))
 refine zs (hH.q 1 rfl) (.l0 cKy o) 16 ?_
 refine zs (hH.q 4 rfl) (.l0 cCe (bd sha 7 (rEd k.1) (xPub k.2))) 16 ?_
 refine zc Tryz.func12 (nm A8 B.length c9 B o (bd sha 7 (rEd k.1) (xPub k.2))) (hO7.vuAt (hH.has 5 rfl)) hH 7 ?_
 clear hH
 intro w hH
 refine zv .mv 1 ?_
 refine zv .ext 0 ?_
 refine zv .ext 2 ?_
 refine zA hH (ac 32) (fun _=>0) 0 ?_
 clear hH
 intro g37 w hH
 refine zW 7 hH rfl ((opR B o.2 (bd sha 7 (rEd k.1) (xPub k.2))).1) ?_
 clear hH
 intro w hH
 refine zv .mv 6 ?_
 refine zn (zr (zs (hH.q 6 rfl) (.l0 (ac 32) ((opR B o.2 (bd sha 7 (rEd k.1) (xPub k.2))).1)) 8 ?_))
 refine zs (hH.q 7 rfl) (.l0 (ac 32) ((opR B o.2 (bd sha 7 (rEd k.1) (xPub k.2))).1)) 4 ?_
 refine zv (v:=(.bool true)) (fun _ _ hF=>kg (n:=32) (e:=5) (f:=(opR B o.2 (bd sha 7 (rEd k.1) (xPub k.2))).1) (g:=(opR B o.2 (bd sha 7 (rEd k.1) (xPub k.2))).1) (p:=True) rfl (by kernel_rfl) (by kernel_rfl) (by kernel_rfl) (hF.ev 1 rfl) (hF.ev 0 rfl) (by kernel_rfl) ⟨fun _=>trivial,fun _=>rfl⟩) 3 ?_
 refine zv .mv 1 ?_
 refine pxV (v:=(.int .i64 ((((opR B o.2 (bd sha 7 (rEd k.1) (xPub k.2))).2):Nat):Int))) (fun _ _ hF=>bo rfl (hF.ev 2 rfl)) rfl (gOn 0 rfl rfl rfl (by decide)) (kM [true,true,false] rfl rfl) (by decide) ?_
 refine pxV (v:=(.int .i64 ((((opR B o.2 (bd sha 7 (rEd k.1) (xPub k.2))).2):Nat):Int))) (fun _ _ hF=>bo rfl (hF.ev 2 rfl)) rfl (gOn 1 rfl rfl rfl (by decide)) (kM [true,true,false] rfl rfl) (by decide) ?_
 refine pxV (v:=(.bool true)) (fun _ _ hF=>fN rfl (hF.ev 1 rfl) (hF.ev 0 rfl) (decide_eq_true (rfl))) rfl (gOn 2 rfl rfl rfl (by decide)) (kM [false,false,true] rfl rfl) (by decide) ?_
 refine zv (v:=(.bool true)) (fun _ _ hF=>cB rfl (hF.ev 1 rfl) (hF.ev 0 rfl)) 3 ?_
 refine zv .mv 1 ?_
 refine zn (ar (aW 0 rfl rfl ?_))
 exact zE hH
section
open Go.WideShapes Go.Deep
def lh{α:Type}(P:Program)(t:TypeId)(C:Cod α)(Ok:World→α→Prop):Prop :=
 ∀ {H:Type} (enc:TypeId×Value→H) (w:World) (fuel:Nat) (cs:List Value) (x:DataW H×List MemPlace),DataW.trod enc P w 0 (fun _=>true) true fuel t cs=some x→(x.1.weights P t).all (·≤reachBytes)=true → ∃ a,cs=(C.enc a).toList∧Ok w a
section
variable{P:Program}{t e:TypeId}{α β:Type}{A C:Cod α}{B:Cod β}{Ok OkA:World→α→Prop}{OkB:World→β→Prop}
theorem li(hu:P.underlying t=some (.int .u8)):lh P t af (fun _ _=>True):=fun enc w fuel cs x h _=>by
 obtain ⟨n,rfl,_,hw⟩:=DataW.trod_int hu h
 have h8:0≤n∧n≤255:=by
  simp[Lit.wf,IntKind.min,IntKind.max,IntKind.signed,IntKind.bits]at hw
  omega
 refine ⟨UInt8.ofNat n.toNat,?_,trivial⟩
 have e:((UInt8.ofNat n.toNat).toNat:Int)=n:=by rw[UInt8.toNat_ofNat'];omega
 show _=[Value.int .u8 ((UInt8.ofNat n.toNat).toNat:Int)]
 rw[e]
theorem th(hu:P.underlying t=some (.int .u64)):lh P t (eX .u64) (fun _ n=>n<18446744073709551616):=fun enc w fuel cs x h _=>by
 obtain ⟨n,rfl,_,hw⟩:=DataW.trod_int hu h
 have h8:0≤n∧n≤18446744073709551615:=by
  simp[Lit.wf,IntKind.min,IntKind.max,IntKind.signed,IntKind.bits]at hw
  omega
 refine ⟨n.toNat,?_,by omega⟩
 have e:((n.toNat:Nat):Int)=n:=by omega
 show _=[Value.int .u64 ((n.toNat:Nat):Int)]
 rw[e]
def fieldsOf(P:Program)(t:TypeId):Option (List (TypeId×Nat)) :=
 match P.underlying t with
 | some (.struct fs)=>some (fs.toList.map fun f=>(f.type,f.offset))
 | _=>none
def j6{α:Type}(P:Program)(fs:List (TypeId×Nat))(off:Nat)(C:Cod α)(Ok:World→α→Prop):Prop :=
 ∀ {H:Type} (enc:TypeId×Value→H) (w:World) (n:Nat) (cs:List Value) (xs:List (DataW H×List MemPlace)),cs.length=off+C.sz→xs.length=fs.length →
  (∀ (i:Nat) (f:TypeId×Nat),fs[i]?=some f→DataW.trod enc P w 0 (fun _=>true) true n f.1 ((cs.drop f.2).take (P.cellsOf f.1))=xs[i]?)→(DataW.weightsEach P (fs.map (·.1)) (xs.map (·.1))).all (·≤reachBytes)=true →
  ∃ a,cs.drop off=(C.enc a).toList∧Ok w a
theorem iV{off:Nat}(hc:P.cellsOf t=C.sz)(h:lh P t C Ok):j6 P [(t,off)] off C Ok:=fun enc w n cs xs hl hx hf hz=>by
 match xs,hx with
 | [y],_ =>
  have h1:=hf 0 (t,off) rfl
  simp only[List.getElem?_cons_zero]at h1
  rw[hc,List.take_of_length_le (by rw[List.length_drop];omega)]at h1
  simp only[List.map_cons,List.map_nil,DataW.weightsEach,List.append_nil]at hz
  exact h enc w n _ y h1 hz
theorem iW{off:Nat}{r:List (TypeId×Nat)}(hc:P.cellsOf t=A.sz)(h:lh P t A OkA)(hr:j6 P r (off+A.sz) B OkB):j6 P ((t,off)::r) off (bn A B) (fun w x=>OkA w x.1∧OkB w x.2):=fun enc w n cs xs hl hx hf hz=>by
 match xs,hx with
 | y::ys,hx =>
  have h1:=hf 0 (t,off) rfl
  simp only[List.getElem?_cons_zero]at h1
  simp only[List.map_cons,DataW.weightsEach,List.all_append,Bool.and_eq_true]at hz
  rw[hc]at h1
  obtain ⟨a,ha,hoa⟩:=h enc w n _ y h1 hz.1
  have hl':cs.length=off+A.sz+B.sz:=by rw[hl];show off+(A.sz+B.sz)=_;omega
  obtain ⟨b,hb,hob⟩:=hr enc w n cs ys hl' (by simpa using hx) (fun i f hi=>by have:=hf (i+1) f (by simpa using hi);simpa using this) hz.2
  refine ⟨(a,b),?_,hoa,hob⟩
  rw[bC,Array.toList_append,← ha,← hb]
  have:cs.drop (off+A.sz)=(cs.drop off).drop A.sz:=by rw[List.drop_drop]
  rw[this,List.take_append_drop]
theorem iX{fs:List (TypeId×Nat)}(hu:fieldsOf P t=some fs)(hc:P.cellsOf t=C.sz)(h:j6 P fs 0 C Ok):lh P t C Ok:=fun enc w fuel cs x hx hz=>by
 unfold fieldsOf at hu
 split at hu
 ·rename_i fa hfa
  obtain rfl:=Option.some.inj hu
  obtain ⟨xs,n,_,rfl,hl,hlen,hf⟩:=DataW.trod_struct hfa hx
  simp only[DataW.weights,hfa]at hz
  have:=h enc w n cs xs (by rw[hl,hc];omega) (by simp[hlen]) (fun i f hi=>by
   rw[List.getElem?_map]at hi
   cases hfi:fa.toList[i]? with
   | none=>rw[hfi]at hi;cases hi
   | some g =>
    rw[hfi]at hi
    obtain rfl:=Option.some.inj hi
    exact hf i g (by rw[← Array.getElem?_toList];exact hfi)) (by simpa[List.map_map,Function.comp_def] using hz)
  simpa using this
 ·cases hu
theorem eE{n:Nat}(hu:P.underlying t=some (.array n e))(hc:P.cellsOf t=n)(he:P.underlying e=some (.int .u8))(h1:P.cellsOf e=1):lh P t (ac n) (fun _ _=>True):=fun enc w fuel cs x h _=>by
 obtain ⟨xs,m,_,_,hl,hx,hel⟩:=DataW.trod_array hu h
 have each:∀ i,i<n → ∃ b:UInt8,cs[i]?=some (.int .u8 (b.toNat:Int)):=fun i hi=>by
  have h2:=hel i hi
  rw[h1,List.getElem?_eq_getElem (by omega)]at h2
  obtain ⟨k,hn,_,hw⟩:=DataW.trod_int he h2
  have hr:0≤k∧k≤255:=by
   simp[Lit.wf,IntKind.min,IntKind.max,IntKind.signed,IntKind.bits]at hw
   omega
  refine ⟨UInt8.ofNat k.toNat,?_⟩
  have h3:=congrArg (fun l=>l[0]?) hn
  simp at h3
  rw[h3]
  congr 2
  rw[UInt8.toNat_ofNat']
  omega
 obtain ⟨f,hf⟩:∃ f:Nat→UInt8,∀ i,i<n→cs[i]?=some (.int .u8 ((f i).toNat:Int)) :=
  ⟨fun i=>if h:i<n then (each i h).choose else 0,fun i hi=>by simpa[hi] using (each i hi).choose_spec⟩
 refine ⟨f,?_,trivial⟩
 apply List.ext_getElem?
 intro i
 rw[cX,Array.getElem?_toList (xs:=row n f)]
 by_cases hi:i<n
 ·rw[ce n f i hi,hf i hi]
  rfl
 ·rw[List.getElem?_eq_none (by rw[hl,hc];omega),Array.getElem?_eq_none (by rw[bH];omega)]
theorem nx{w:World}{base:Nat}{cs:Array Value}(hd:(P.underlying t).map (·.isRow)=some false)(h:Value.okWide P w .any base t (.agg cs)):False:=by
 cases hu:P.underlying t with
 | none=>rw[hu]at hd;cases hd
 | some d =>
  rw[hu]at hd
  have hd:=Option.some.inj hd
  cases d<;>first | (cases hd;done) | (simp[Value.okWide,hu,Cell.okWide,Cell.ok]at h)
theorem eP{H:Type}{enc:TypeId×Value→H}{W:World}{base:Nat}{v:Value}{d:DataW H}{p:List MemPlace}(ho:lh P t C Ok)(hty:tyOk P t C=true)(hval:Value.okWide P W .any base t v)(h:DataW.Trod enc P W 0 (fun _=>true) true t v d p)
  (hz:(d.weights P t).all (·≤reachBytes)=true):∃ a,v=C.val a∧Ok W a:=by
 obtain ⟨fuel,hf⟩:=h
 obtain ⟨a,ha,hok⟩:=ho enc W fuel _ _ hf hz
 refine ⟨a,?_,hok⟩
 have ha':v.cells=C.enc a:=Array.ext' ha
 obtain ⟨hd,_⟩:=tyOk.spec hty
 cases hr:C.row with
 | true =>
  rw[hr]at hd
  have:∃ cs,v=.agg cs:=by
   cases hu:P.underlying t with
   | none=>rw[hu]at hd;cases hd
   | some dd =>
    rw[hu]at hd
    have hd:=Option.some.inj hd
    simp only[Value.okWide,hu]at hval
    cases dd<;>first | (cases hd;done) | (obtain ⟨cs,rfl,_⟩:=hval;exact ⟨cs,rfl⟩)
  obtain ⟨cs,rfl⟩:=this
  rw[C.agg hr a]
  exact congrArg Value.agg ha'
 | false =>
  rw[hr]at hd
  have h1:=dr (C.scal hr a)
  have h2:v.cells = #[C.val a]:=ha'.trans h1
  cases v with
  | agg cs=>exact (nx hd hval).elim
  | _=>simpa[Value.cells] using h2
end
end
end Go.Proofs.YtajppfmjbkebfaaGreatDoor
