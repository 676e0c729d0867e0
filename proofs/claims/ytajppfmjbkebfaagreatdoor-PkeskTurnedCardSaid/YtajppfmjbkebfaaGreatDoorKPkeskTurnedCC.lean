/- What the claim leans on, part 3: plain theorems, and walks of functions of the program and of the document. -/
import Derived.Test.YtajppfmjbkebfaaGreatDoorKPkeskTurnedCB
import Derived.Test.YtajppfmjbkebfaaGreatDoorKPkeskTurnedCA
import Derived.Test.YtajppfmjbkebfaaGreatDoorProg
import Derived.Shelf.Spec.BitsCarry
import Derived.Shelf.Bits.Mul64
set_option maxHeartbeats 8000000
namespace Go.Proofs.YtajppfmjbkebfaaGreatDoor
open Go Go.RowKit
set_option maxRecDepth 100000
theorem gr(g:Nat)(t:TypeId)(f:Nat→UInt8):OwnT af t (.slice (some ⟨g,0,none⟩) 32 32) (lst 32 f) [bl g t ((ac 32).enc f)] :=
 OwnT.made (by rw[ke];rfl) (by rw[ap];unfold maxLen;decide) (ap _ _)
theorem CK(i:Nat):((UInt8.ofNat (i+1)).toNat+1)%2^8=(UInt8.ofNat (i+1+1)).toNat:=by
 rw[UInt8.toNat_ofNat',UInt8.toNat_ofNat']
 omega
theorem zk(A:Option Addr)(n c:Nat)(s:List UInt8)(h64:n≤64)(B:Option Addr)(k d:Nat)(z:List UInt8)(hz:k≤70368744177000)(D:Option Addr)(j e:Nat)(o:List UInt8)(hj:j≤70368744177000)(m:Nat)(h1:1≤m)(h8:m≤8160):Does Tryz.prog 34 #[(.slice A n c),(.slice B k d),(.slice D j e),(.int .i64 m)] [] (fun w=>w.heap[3]?=some (.cells ((cWs 64).enc K32) 119 (0,0))∧w.heap[2]?=some (.cells ((cWs 8).enc H32) 118 (0,0))∧Vu af w A n c s∧Vu af w B k d z∧Vu af w D j e o) (fun v E'=>OwnT af 5 v (sq s z o m) E'):=by
 refine dU Tryz.func34 Tryz.ntmps34 ?_
 intro w0 hH hR
 replace hH:HH w0 [] [] w0:=hH.only [false]
 have hn:=hR.2.2.1.len;have hkl:=hR.2.2.2.1.len;have hjl:=hR.2.2.2.2.len
 refine zr (zv .mv 0 ?_)
 refine zn (aj (zr (zv .mv 1 ?_)))
 refine zv (v:=(.bool false)) (fun _ _ hF=>jv rfl (hF.ev 0 rfl) rfl (decide_eq_false (by omega))) 1 ?_
 refine zv .mv 1 ?_
 refine pxV (v:=(.int .i64 m)) (fun _ _ hF=>bo rfl (hF.ev 4 rfl)) rfl (gOn 0 rfl rfl rfl (by decide)) (kA rfl) (by decide) ?_
 refine pxV (v:=(.bool false)) (fun _ _ hF=>nB rfl (hF.ev 0 rfl) rfl (decide_eq_false (by omega))) rfl (gOn 1 rfl rfl rfl (by decide)) (kM [false,true,true,true,true,true] rfl rfl) (by decide) ?_
 refine zv (v:=(.bool false)) (fun _ _ hF=>cv rfl (hF.ev 1 rfl) (hF.ev 0 rfl)) 3 ?_
 refine zn (zF ?_)
 refine aA (ag (zr (zv .mv 3 ?_)))
 refine zv .mv 2 ?_
 refine zm hH (fun _ hF=>cx (e:=27) (sz:=1) (z:=(.slice none 0 0)) (by_:=24) (cs:=cSl.enc (B,k,d)) rfl (by kernel_rfl) (by kernel_rfl) (hF.ev 0 rfl) (cSl.len (B,k,d)) (ltb rfl) (leb rfl) rfl) trivial 1 ?_
 clear hH
 rintro _ _ w ⟨g1,rfl,rfl⟩ hH
 refine zc Tryz.func64 ((yc A n c s h64 (some ⟨g1,0,none⟩) 1 1 [(B,k,d)] [z] rfl (by decide) (by simp only[List.flatten_cons,List.flatten_nil,List.length_append,List.length_nil];omega)).as (by rw[show [z].flatten=_ from (by rw[List.flatten_cons,List.flatten_nil,List.append_nil])])) (⟨(hH.oldBlk hR.1 (by simp)),(hH.oldBlk hR.2.1 (by simp)),(hH.vu hR.2.2.1 (by decide) (Off.nil _ _)),((Bk.lit1 (C:=cSl) (B,k,d)).vu (n:=1) (hH.blk 0 rfl) rfl),(.cons (hH.vu hR.2.2.2.1 (by decide) (Off.nil _ _)) ViewsL.nil)⟩) hH 3 ?_
 clear hH
 intro w hH
 refine zA hH (ac 32) (fun _=>0) 0 ?_
 clear hH
 intro g2 w hH
 refine zW 1 hH rfl (aM s z) ?_
 clear hH
 intro w hH
 refine zn (zr (zv .mv 2 ?_))
 refine zm hH (fun _ hF=>wl (e:=5) (n:=m) (sz:=1) (by_:=1) (z:=(.int .u8 0)) (cs:=madeCells (af.enc 0) (m*1)) rfl (by kernel_rfl) (by kernel_rfl) rfl (hF.ev 0 rfl) rfl (by omega) (by omega) rfl) trivial 1 ?_
 clear hH
 rintro _ _ w ⟨g3,rfl,rfl⟩ hH
 refine zv .mv 1 ?_
 refine zn (zr (zv .mv 0 ?_))
 refine zn (aj (zr (zv .mv 0 ?_)))
 refine zn (ai ?_)
 replace hH:HH w0 [] [[bl g2 22 ((ac 32).enc (aM s z))],[bl g3 5 (madeCells (af.enc 0) (m*1))]] w:=hH.only [false,true,true]
 replace hH:=HH.pad hH 1
 replace hH:HH w0 [] [[bl g2 22 ((ac 32).enc (aM s z))],[bl g3 5 (madeCells (af.enc 0) (m*1))],[]] w:=hH
 refine zL9 (fun (i:Nat) (A1:Option Addr) (c1:Nat) (L:List UInt8) (_:Hl) (A2:Option Addr) (n2:Nat) (c2:Nat) (_:Hl)=>[(12,(.int .u8 ((((UInt8.ofNat (i+1)).toNat):Nat):Int))),(11,(.slice A2 n2 c2)),(10,(.slice A1 L.length c1)),(9,(.pointer (some ⟨g2,0,none⟩))),(3,(.int .i64 m)),(2,(.slice D j e))]) (fun i A1 c1 L E1 A2 n2 c2 E2 w=>HH w0 [] [[bl g2 22 ((ac 32).enc (aM s z))],E1,E2] w∧(OwnT af 5 (.slice A1 L.length c1) L E1)∧(L=(iA (lst 32 (aM s z)) o i).take m)∧(OwnT af 22 (.slice A2 n2 c2) (tK (lst 32 (aM s z)) o i) E2)∧(n2=(tK (lst 32 (aM s z)) o i).length)∧(L.length=min m (32*i))∧(i≤255)) (fun i _ _ _ _ _ _ _ _=>255-i) 0 (some ⟨g3,0,none⟩) m ([]) ([bl g3 5 (madeCells (af.enc 0) (m*1))]) none 0 0 ([]) ⟨hH,((Bk.make0 (C:=af) 0 m (by unfold maxLen;omega)).own 5 g3 rfl),List.take_nil.symm,(OwnT.nil _ _),rfl,(show 0=min m (32*0) by omega),(show 0≤255 by decide)⟩ ?_
 clear hH
 rintro i A1 c1 L E1 A2 n2 c2 E2 w ⟨hH,hO,hL,hP,hn2,hlen,hi⟩
 refine aj (zr (zv .mv 0 ?_))
 refine zv .len 1 ?_
 refine zv .mv 0 ?_
 refine zv (.lt (L.length<m)) 3 ?_
 refine zn ?_
 refine zP (fun hc4 => ?_) (fun hc4 => ?_)
 refine aA (ag (aj (ai ?_)))
 have htl:=x8 (lst 32 (aM s z)) o i
 refine zr (zv (v:=(.slice (some ⟨g2,0,none⟩) 32 32)) (fun _ _ hF=>aV (n:=32) (e:=5) (sz:=1) rfl (by kernel_rfl) (by kernel_rfl) (hF.ev 4 rfl)) 1 ?_)
 refine zv .mv 4 ?_
 refine zv .mv 0 ?_
 refine zv .mv 0 ?_
 refine zm hH (fun _ hF=>cx (e:=5) (sz:=1) (z:=(.int .u8 0)) (by_:=1) (cs:=af.enc (UInt8.ofNat (i+1))) rfl (by kernel_rfl) (by kernel_rfl) (hF.ev 0 rfl) (af.len (UInt8.ofNat (i+1))) (ltb rfl) (leb rfl) rfl) trivial 1 ?_
 clear hH
 rintro _ _ w ⟨g5,rfl,rfl⟩ hH
 refine zm hH (fun _ hF=>cY (C:=cSl) (e:=27) (z:=(.slice none 0 0)) (by_:=24) [(A2,n2,c2),(D,j,e),((some ⟨g5,0,none⟩),1,1)] rfl (by kernel_rfl) (by kernel_rfl) (EvP.cons (v:=cSl.val (A2,n2,c2)) (hF.ev 2 rfl) (EvP.cons (v:=cSl.val (D,j,e)) (hF.ev 1 rfl) (EvP.cons (v:=cSl.val ((some ⟨g5,0,none⟩),1,1)) (hF.ev 0 rfl) EvP.nil))) rfl (ltb rfl) (leb rfl) rfl) trivial 7 ?_
 clear hH
 rintro _ _ w ⟨g6,rfl,rfl⟩ hH
 refine zc Tryz.func64 ((yc (some ⟨g2,0,none⟩) 32 32 (lst 32 (aM s z)) (by decide) (some ⟨g6,0,none⟩) 3 3 [(A2,n2,c2),(D,j,e),((some ⟨g5,0,none⟩),1,1)] [(tK (lst 32 (aM s z)) o i),o,[(UInt8.ofNat (i+1))]] rfl (by decide) (by simp only[List.flatten_cons,List.flatten_nil,List.length_append,List.length_cons,List.length_nil];omega)).as (by rw[show [(tK (lst 32 (aM s z)) o i),o,[(UInt8.ofNat (i+1))]].flatten=_ from (by rw[List.flatten_cons,List.flatten_cons,List.flatten_cons,List.flatten_nil,List.append_nil])])) (⟨(hH.oldBlk hR.1 (by simp)),(hH.oldBlk hR.2.1 (by simp)),(bp (hH.blk 0 rfl)),((Bk.lits (C:=cSl) [(A2,n2,c2),(D,j,e),((some ⟨g5,0,none⟩),1,1)] (by show 3≤_;unfold maxLen;decide)).vu (n:=3) (hH.blk 4 rfl) rfl),(.cons (hP.vuAt (hH.has 2 rfl)) (.cons (hH.vu hR.2.2.2.2 (by decide) (Off.nil _ _)) (.cons ((Bk.lit1 (C:=af) (UInt8.ofNat (i+1))).vu (n:=1) (hH.blk 3 rfl) rfl) ViewsL.nil)))⟩) hH 3 ?_
 clear hH
 intro w hH
 refine zA hH (ac 32) (fun _=>0) 0 ?_
 clear hH
 intro g7 w hH
 refine zW 5 hH rfl (aM (lst 32 (aM s z)) ((tK (lst 32 (aM s z)) o i)++(o++[(UInt8.ofNat (i+1))]))) ?_
 clear hH
 intro w hH
 refine zn (zr (zv .mv 2 ?_))
 refine zv .mv 0 ?_
 refine zv .mv 16 ?_
 refine zv .len 1 ?_
 refine zv (.sub (((m-L.length):Nat):Int)) 3 ?_
 refine zv (v:=(.int .i64 (((min 32 (m-L.length)):Nat):Int))) (fun _ _ hF=>Ba rfl rfl (hF.ev 0 rfl) (by omega)) 1 ?_
 refine zv (v:=(.slice (some ⟨g7,0,none⟩) (min 32 (m-L.length)) 32)) (fun _ _ hF=>dW (m:=32) (h:=min 32 (m-L.length)) (e:=5) (sz:=1) rfl (by kernel_rfl) (by kernel_rfl) (hF.ev 2 rfl) (hF.ev 0 rfl) rfl (by omega)) 1 ?_
 refine ze 1 hH rfl (fun _ hF=>cf (C:=af) (l:=L) (m:=((lst 32 (aM (lst 32 (aM s z)) ((tK (lst 32 (aM s z)) o i)++(o++[(UInt8.ofNat (i+1))])))).take (min 32 (m-L.length)))) (e:=5) (z:=(.int .u8 0)) (by_:=1) rfl (by kernel_rfl) (by kernel_rfl) rfl (ltb rfl) (hF.ev 1 rfl) hO (hF.ev 0 rfl) (by rw[List.length_take,ap];omega) (fun h=>by cases h) (by unfold maxLen;omega) (by omega)) ((bp (hH.blk 5 rfl)).head (m:=min 32 (m-L.length)) (by omega)) 3 ?_
 clear hH
 rintro v10 E11 w ⟨hO12,_⟩ hH
 replace hO12:OwnT af 5 v10 (L++((lst 32 (aM (lst 32 (aM s z)) ((tK (lst 32 (aM s z)) o i)++(o++[(UInt8.ofNat (i+1))])))).take (min 32 (m-L.length)))) E11:=hO12
 obtain ⟨A8,c9,rfl⟩:=hO12.slice
 refine zv .mv 1 ?_
 refine zn (aC (zv (v:=(.slice (some ⟨g7,0,none⟩) 32 32)) (fun _ _ hF=>aV (n:=32) (e:=5) (sz:=1) rfl (by kernel_rfl) (by kernel_rfl) (hF.ev 1 rfl)) 2 ?_))
 refine zv .mv 1 ?_
 refine aD (aN (ag (aC (zv .mv 4 ?_))))
 refine zv (.pu (UInt8.ofNat (i+1+1)).toNat (m:=(UInt8.ofNat (i+1)).toNat) (j:=1) (kk:=.u8) (hz:=CK i)) 1 ?_
 refine zv .mv 1 ?_
 refine aD ?_
 replace hH:HH w0 [] [[bl g2 22 ((ac 32).enc (aM s z))],E11,[bl g7 22 ((ac 32).enc (aM (lst 32 (aM s z)) ((tK (lst 32 (aM s z)) o i)++(o++[(UInt8.ofNat (i+1))]))))]] w:=hH.only [true,true,false,false,false,true]
 exact zR9 (i+1) A8 c9 (L++((lst 32 (aM (lst 32 (aM s z)) ((tK (lst 32 (aM s z)) o i)++(o++[(UInt8.ofNat (i+1))])))).take (min 32 (m-L.length)))) E11 (some ⟨g7,0,none⟩) 32 32 ([bl g7 22 ((ac 32).enc (aM (lst 32 (aM s z)) ((tK (lst 32 (aM s z)) o i)++(o++[(UInt8.ofNat (i+1))]))))]) ⟨hH,hO12,(by rw[hL];exact wi _ _),(gr g7 22 (aM (lst 32 (aM s z)) ((tK (lst 32 (aM s z)) o i)++(o++[(UInt8.ofNat (i+1))])))),(fc _ _ _).symm,(by rw[List.length_append,List.length_take,ap];omega),(by omega)⟩ (by omega)
 refine aJ (ak (ak (aR (ag (zr (zv .mv 127 ?_))))))
 refine zv .mv 1 ?_
 refine zn (ar (aW 0 rfl rfl ?_))
 rw[← tT s z o hi (by omega)]at hL
 subst hL
 exact ⟨_,_,rfl,hO,hH.out1 [false,true,false] rfl⟩
theorem qy(a b c:List UInt8):[a,b,c].flatten=a++(b++c):=by
 rw[List.flatten_cons,List.flatten_cons,List.flatten_cons,List.flatten_nil,List.append_nil]
theorem kx(A:Option Addr)(c:Nat)(hs:List (Option Addr×Nat×Nat))(a b d:List UInt8)(hb:a.length+(b.length+d.length)≤70368744177664):Does Tryz.prog 24 #[.slice A 3 c] [] (fun w=>Vu cSl w A 3 c hs∧ViewsL w hs [a,b,d]) (fun v E'=>OwnT af 5 v (a++(b++d)) E'):=by
 have h:=jV A 3 c hs [a,b,d] rfl (by decide) (by rw[qy,List.length_append,List.length_append];exact hb)
 rw[qy]at h
 exact h
theorem wm(A:Option Addr)(n c:Nat)(s:List UInt8)(h0:n=0)(B:Option Addr)(k d:Nat)(z:List UInt8)(hz:k≤70368744177000)(D:Option Addr)(j e:Nat)(o:List UInt8)(hj:j≤70368744177000)(m:Nat)(h1:1≤m)(h8:m≤8160):Does Tryz.prog 42 #[(.slice A n c),(.slice B k d),(.slice D j e),(.int .i64 m)] [] (fun w=>Vu af w A n c s∧Vu af w B k d z∧Vu af w D j e o) (fun v E'=>OwnT af 5 v (sq s z o m) E'):=by
 refine dU Tryz.func42 Tryz.ntmps42 ?_
 intro w0 hH hR
 replace hH:HH w0 [] [] w0:=hH.only [false]
 have hn:=hR.1.len;have hkl:=hR.2.1.len;have hjl:=hR.2.2.len
 have hs:s=[]:=List.eq_nil_of_length_eq_zero (by omega)
 refine zr (zv .mv 0 ?_)
 refine zn (aj (zr (zv .mv 1 ?_)))
 refine zv (v:=(.bool false)) (fun _ _ hF=>jv rfl (hF.ev 0 rfl) rfl (decide_eq_false (by omega))) 1 ?_
 refine zv .mv 1 ?_
 refine pxV (v:=(.int .i64 m)) (fun _ _ hF=>bo rfl (hF.ev 4 rfl)) rfl (gOn 0 rfl rfl rfl (by decide)) (kA rfl) (by decide) ?_
 refine pxV (v:=(.bool false)) (fun _ _ hF=>nB rfl (hF.ev 0 rfl) rfl (decide_eq_false (by omega))) rfl (gOn 1 rfl rfl rfl (by decide)) (kM [false,true,true,true,true,true] rfl rfl) (by decide) ?_
 refine zv (v:=(.bool false)) (fun _ _ hF=>cv rfl (hF.ev 1 rfl) (hF.ev 0 rfl)) 3 ?_
 refine zn (zF ?_)
 refine aA (ag (aj (zr (zv .mv 1 ?_))))
 refine zv .len 1 ?_
 refine zv (v:=(.bool true)) (fun _ _ hF=>fN rfl (hF.ev 0 rfl) rfl (decide_eq_true (by omega))) 1 ?_
 refine zn (zT ?_)
 refine aC (zm hH (fun _ hF=>f0 (e:=5) (n:=32) (sz:=1) (by_:=1) (z:=(.int .u8 0)) (cs:=madeCells (af.enc 0) (32*1)) rfl (by kernel_rfl) (by kernel_rfl) rfl rfl rfl rfl (by decide) (by decide) rfl) trivial 3 ?_)
 clear hH
 rintro _ _ w ⟨g1,rfl,rfl⟩ hH
 refine zv .mv 1 ?_
 refine zn (zr (zv .mv 1 ?_))
 refine zv .mv 2 ?_
 refine zc Tryz.func81 (jc (some ⟨g1,0,none⟩) 32 32 (List.replicate 32 0) (by decide) B k d z (by omega)) (⟨((Bk.make (C:=af) 0 32 (ltb rfl) (by unfold maxLen;omega)).vu (n:=32) (hH.blk 0 rfl) rfl),(hH.vu hR.2.1 (by decide) (Off.nil _ _))⟩) hH 3 ?_
 clear hH
 intro w hH
 refine zA hH (ac 32) (fun _=>0) 0 ?_
 clear hH
 intro g2 w hH
 refine zW 1 hH rfl (aM (List.replicate 32 0) z) ?_
 clear hH
 intro w hH
 refine zn ?_
 replace hH:HH w0 [] [[bl g1 5 (madeCells (af.enc 0) (32*1))],[bl g2 22 ((ac 32).enc (aM s z))]] w:=by rw[o8 z 32 (by decide),← hs]at hH;exact hH
 refine zr (zv .mv 2 ?_)
 refine zv .mv 0 ?_
 refine zn (aj (zr (zv .mv 0 ?_)))
 refine zn (ai ?_)
 replace hH:HH w0 [] [[bl g2 22 ((ac 32).enc (aM s z))]] w:=hH.only [false,true]
 replace hH:=HH.pad hH 1
 replace hH:HH w0 [] [[bl g2 22 ((ac 32).enc (aM s z))],[]] w:=hH
 replace hH:=HH.pad hH 1
 replace hH:HH w0 [] [[bl g2 22 ((ac 32).enc (aM s z))],[],[]] w:=hH
 refine zL9 (fun (i:Nat) (A1:Option Addr) (c1:Nat) (L:List UInt8) (_:Hl) (A2:Option Addr) (n2:Nat) (c2:Nat) (_:Hl)=>[(12,(.int .i64 (((i+1):Nat):Int))),(11,(.slice A2 n2 c2)),(10,(.slice A1 L.length c1)),(9,(.pointer (some ⟨g2,0,none⟩))),(3,(.int .i64 m)),(2,(.slice D j e))]) (fun i A1 c1 L E1 A2 n2 c2 E2 w=>HH w0 [] [[bl g2 22 ((ac 32).enc (aM s z))],E1,E2] w∧(OwnT af 5 (.slice A1 L.length c1) L E1)∧(L=iA (lst 32 (aM s z)) o i)∧(OwnT af 22 (.slice A2 n2 c2) (tK (lst 32 (aM s z)) o i) E2)∧(n2=(tK (lst 32 (aM s z)) o i).length)∧(L.length=32*i)∧(i≤255)) (fun i _ _ _ _ _ _ _ _=>255-i) 0 none 0 ([]) ([]) none 0 0 ([]) ⟨hH,(OwnT.nil _ _),rfl,(OwnT.nil _ _),rfl,rfl,(show 0≤255 by decide)⟩ ?_
 clear hH
 rintro i A1 c1 L E1 A2 n2 c2 E2 w ⟨hH,hO,hL,hP,hn2,hlen,hi⟩
 refine aj (zr (zv .mv 0 ?_))
 refine zv .len 1 ?_
 refine zv .mv 0 ?_
 refine zv (.lt (L.length<m)) 3 ?_
 refine zn ?_
 refine zP (fun hc3 => ?_) (fun hc3 => ?_)
 refine aA (ag (aj (ai ?_)))
 have htl:=x8 (lst 32 (aM s z)) o i
 refine zx ?_
 replace hH:=hH.drew
 refine rv 0 (v:=(.slice (some ⟨g2,0,none⟩) 32 32)) (fun _ _ hF=>aV (n:=32) (e:=5) (sz:=1) rfl (by kernel_rfl) (by kernel_rfl) (hF.ev 4 rfl)) 1 ?_
 refine rv 1 .mv 4 ?_
 refine rv 2 .mv 0 ?_
 refine rv 3 .mv 0 ?_
 refine rv 4 .cb 1 ?_
 refine rx2 5 9 (by kernel_rfl) ?_ ?_
 refine rm 5 hH (fun _ hF=>cx (e:=5) (sz:=1) (z:=(.int .u8 0)) (by_:=1) (cs:=af.enc (UInt8.ofNat (i+1))) rfl (by kernel_rfl) (by kernel_rfl) (hF.ev 0 rfl) (af.len (UInt8.ofNat (i+1))) (ltb rfl) (leb rfl) rfl) trivial 1 (.nil _ []) ?_
 clear hH
 rintro _ _ w ⟨g4,rfl,rfl⟩ hH
 refine ⟨an,?_⟩
 refine rx2 6 9 (by kernel_rfl) ?_ ?_
 refine rm 6 hH (fun _ hF=>cY (C:=cSl) (e:=27) (z:=(.slice none 0 0)) (by_:=24) [(A2,n2,c2),(D,j,e),((some ⟨g4,0,none⟩),1,1)] rfl (by kernel_rfl) (by kernel_rfl) (EvP.cons (v:=cSl.val (A2,n2,c2)) (hF.ev 2 rfl) (EvP.cons (v:=cSl.val (D,j,e)) (hF.ev 1 rfl) (EvP.cons (v:=cSl.val ((some ⟨g4,0,none⟩),1,1)) (hF.ev 0 rfl) EvP.nil))) rfl (ltb rfl) (leb rfl) rfl) trivial 7 (.nil _ []) ?_
 clear hH
 rintro _ _ w ⟨g5,rfl,rfl⟩ hH
 refine ⟨an,?_⟩
 refine rx2 7 9 (by kernel_rfl) ?_ ?_
 refine rm 7 hH (.call Tryz.func24 ((kx (some ⟨g5,0,none⟩) 3 [(A2,n2,c2),(D,j,e),((some ⟨g4,0,none⟩),1,1)] (tK (lst 32 (aM s z)) o i) o ([(UInt8.ofNat (i+1))]) (by simp only[List.length_cons,List.length_nil];omega)))) (⟨((Bk.lits (C:=cSl) [(A2,n2,c2),(D,j,e),((some ⟨g4,0,none⟩),1,1)] (by show 3≤_;unfold maxLen;decide)).vu (n:=3) (hH.blk 4 rfl) rfl),(.cons (hP.vuAt (hH.has 2 rfl)) (.cons (hH.vu hR.2.2 (by decide) (Off.nil _ _)) (.cons ((Bk.lit1 (C:=af) (UInt8.ofNat (i+1))).vu (n:=1) (hH.blk 3 rfl) rfl) ViewsL.nil)))⟩) 1 (.nil _ []) ?_
 clear hH
 rintro v10 E6 w hO7 hH
 obtain ⟨A8,c9,rfl⟩:=hO7.slice
 refine ⟨an,?_⟩
 refine rx2 8 9 (by kernel_rfl) ?_ ?_
 refine rpc 8 Tryz.func81 (jc (some ⟨g2,0,none⟩) 32 32 (lst 32 (aM s z)) (by decide) A8 (((tK (lst 32 (aM s z)) o i)++(o++[(UInt8.ofNat (i+1))])).length) c9 ((tK (lst 32 (aM s z)) o i)++(o++[(UInt8.ofNat (i+1))])) (by simp only[List.length_append,List.length_cons,List.length_nil];omega)) (⟨(bp (hH.blk 0 rfl)),(hO7.vuAt (hH.has 5 rfl))⟩) hH 3 (.nil _ []) ?_
 clear hH
 intro w hH
 refine ⟨an,ao 9 ?_⟩
 refine rm 9 hH (.al (ac 32) (fun _=>0)) trivial 0 (.nil _ []) ?_
 clear hH
 rintro _ _ w ⟨g12,rfl,rfl⟩ hH
 refine ⟨an,ao 10 ?_⟩
 refine re0 10 6 hH rfl (.sw (ac 32) (fun _=>0) (aM (lst 32 (aM s z)) ((tK (lst 32 (aM s z)) o i)++(o++[(UInt8.ofNat (i+1))])))) trivial (.nil _ []) ?_
 clear hH
 rintro _ _ w rfl hH
 refine ⟨an,rn ?_⟩
 refine zr (zv (v:=(.slice (some ⟨g12,0,none⟩) 32 32)) (fun _ _ hF=>aV (n:=32) (e:=5) (sz:=1) rfl (by kernel_rfl) (by kernel_rfl) (hF.ev 0 rfl)) 3 ?_)
 refine zv .mv 1 ?_
 refine zn (aC (zv .mv 4 ?_))
 refine zv .mv 0 ?_
 refine ze 1 hH rfl (fun _ hF=>cf (C:=af) (l:=L) (m:=(lst 32 (aM (lst 32 (aM s z)) ((tK (lst 32 (aM s z)) o i)++(o++[(UInt8.ofNat (i+1))]))))) (e:=5) (z:=(.int .u8 0)) (by_:=1) rfl (by kernel_rfl) (by kernel_rfl) rfl (ltb rfl) (hF.ev 1 rfl) hO (hF.ev 0 rfl) (ap _ _) (fun h=>by cases h) (by unfold maxLen;omega) (by omega)) (bp (hH.blk 6 rfl)) 3 ?_
 clear hH
 rintro v15 E16 w ⟨hO17,_⟩ hH
 replace hO17:OwnT af 5 v15 (L++(lst 32 (aM (lst 32 (aM s z)) ((tK (lst 32 (aM s z)) o i)++(o++[(UInt8.ofNat (i+1))]))))) E16:=hO17
 obtain ⟨A13,c14,rfl⟩:=hO17.slice
 refine zv .mv 1 ?_
 refine aD (aN (ag (aC (zv .mv 4 ?_))))
 refine zv (.add (((i+1)+1:Nat):Int)) 1 ?_
 refine zv .mv 1 ?_
 refine aD ?_
 replace hH:HH w0 [] [[bl g2 22 ((ac 32).enc (aM s z))],E16,[bl g12 22 ((ac 32).enc (aM (lst 32 (aM s z)) ((tK (lst 32 (aM s z)) o i)++(o++[(UInt8.ofNat (i+1))]))))]] w:=hH.only [true,true,false,false,false,false,true]
 exact zR9 (i+1) A13 c14 (L++(lst 32 (aM (lst 32 (aM s z)) ((tK (lst 32 (aM s z)) o i)++(o++[(UInt8.ofNat (i+1))]))))) E16 (some ⟨g12,0,none⟩) 32 32 ([bl g12 22 ((ac 32).enc (aM (lst 32 (aM s z)) ((tK (lst 32 (aM s z)) o i)++(o++[(UInt8.ofNat (i+1))]))))]) ⟨hH,hO17,(by rw[hL];rfl),(gr g12 22 (aM (lst 32 (aM s z)) ((tK (lst 32 (aM s z)) o i)++(o++[(UInt8.ofNat (i+1))])))),(fc _ _ _).symm,(by rw[List.length_append,ap];omega),(by omega)⟩ (by omega)
 refine rm 9 hH (.al (ac 32) (fun _=>0)) trivial 0 (.nil _ []) ?_
 clear hH
 rintro _ _ w ⟨g18,rfl,rfl⟩ hH
 refine ⟨an,?_⟩
 refine ao 8 (rpc 8 Tryz.func81 (jc (some ⟨g2,0,none⟩) 32 32 (lst 32 (aM s z)) (by decide) A8 (((tK (lst 32 (aM s z)) o i)++(o++[(UInt8.ofNat (i+1))])).length) c9 ((tK (lst 32 (aM s z)) o i)++(o++[(UInt8.ofNat (i+1))])) (by simp only[List.length_append,List.length_cons,List.length_nil];omega)) (⟨(bp (hH.blk 0 rfl)),(hO7.vuAt (hH.has 5 rfl))⟩) hH 6 (.nil _ []) ?_)
 clear hH
 intro w hH
 refine ⟨an,ao 10 ?_⟩
 refine re0 10 6 hH rfl (.sw (ac 32) (fun _=>0) (aM (lst 32 (aM s z)) ((tK (lst 32 (aM s z)) o i)++(o++[(UInt8.ofNat (i+1))])))) trivial (.nil _ []) ?_
 clear hH
 rintro _ _ w rfl hH
 refine ⟨an,rn ?_⟩
 refine zr (zv (v:=(.slice (some ⟨g18,0,none⟩) 32 32)) (fun _ _ hF=>aV (n:=32) (e:=5) (sz:=1) rfl (by kernel_rfl) (by kernel_rfl) (hF.ev 1 rfl)) 3 ?_)
 refine zv .mv 1 ?_
 refine zn (aC (zv .mv 4 ?_))
 refine zv .mv 0 ?_
 refine ze 1 hH rfl (fun _ hF=>cf (C:=af) (l:=L) (m:=(lst 32 (aM (lst 32 (aM s z)) ((tK (lst 32 (aM s z)) o i)++(o++[(UInt8.ofNat (i+1))]))))) (e:=5) (z:=(.int .u8 0)) (by_:=1) rfl (by kernel_rfl) (by kernel_rfl) rfl (ltb rfl) (hF.ev 1 rfl) hO (hF.ev 0 rfl) (ap _ _) (fun h=>by cases h) (by unfold maxLen;omega) (by omega)) (bp (hH.blk 6 rfl)) 3 ?_
 clear hH
 rintro v21 E22 w ⟨hO23,_⟩ hH
 replace hO23:OwnT af 5 v21 (L++(lst 32 (aM (lst 32 (aM s z)) ((tK (lst 32 (aM s z)) o i)++(o++[(UInt8.ofNat (i+1))]))))) E22:=hO23
 obtain ⟨A19,c20,rfl⟩:=hO23.slice
 refine zv .mv 1 ?_
 refine aD (aN (ag (aC (zv .mv 4 ?_))))
 refine zv (.add (((i+1)+1:Nat):Int)) 1 ?_
 refine zv .mv 1 ?_
 refine aD ?_
 replace hH:HH w0 [] [[bl g2 22 ((ac 32).enc (aM s z))],E22,[bl g18 22 ((ac 32).enc (aM (lst 32 (aM s z)) ((tK (lst 32 (aM s z)) o i)++(o++[(UInt8.ofNat (i+1))]))))]] w:=hH.only [true,true,false,false,false,false,true]
 exact zR9 (i+1) A19 c20 (L++(lst 32 (aM (lst 32 (aM s z)) ((tK (lst 32 (aM s z)) o i)++(o++[(UInt8.ofNat (i+1))]))))) E22 (some ⟨g18,0,none⟩) 32 32 ([bl g18 22 ((ac 32).enc (aM (lst 32 (aM s z)) ((tK (lst 32 (aM s z)) o i)++(o++[(UInt8.ofNat (i+1))]))))]) ⟨hH,hO23,(by rw[hL];rfl),(gr g18 22 (aM (lst 32 (aM s z)) ((tK (lst 32 (aM s z)) o i)++(o++[(UInt8.ofNat (i+1))])))),(fc _ _ _).symm,(by rw[List.length_append,ap];omega),(by omega)⟩ (by omega)
 refine rm 9 hH (.al (ac 32) (fun _=>0)) trivial 0 (.nil _ []) ?_
 clear hH
 rintro _ _ w ⟨g24,rfl,rfl⟩ hH
 refine ⟨an,ao 7 ?_⟩
 refine rm 7 hH (.call Tryz.func24 ((kx (some ⟨g5,0,none⟩) 3 [(A2,n2,c2),(D,j,e),((some ⟨g4,0,none⟩),1,1)] (tK (lst 32 (aM s z)) o i) o ([(UInt8.ofNat (i+1))]) (by simp only[List.length_cons,List.length_nil];omega)))) (⟨((Bk.lits (C:=cSl) [(A2,n2,c2),(D,j,e),((some ⟨g4,0,none⟩),1,1)] (by show 3≤_;unfold maxLen;decide)).vu (n:=3) (hH.blk 4 rfl) rfl),(.cons (hP.vuAt (hH.has 2 rfl)) (.cons (hH.vu hR.2.2 (by decide) (Off.nil _ _)) (.cons ((Bk.lit1 (C:=af) (UInt8.ofNat (i+1))).vu (n:=1) (hH.blk 3 rfl) rfl) ViewsL.nil)))⟩) 2 (.nil _ []) ?_
 clear hH
 rintro v29 E25 w hO26 hH
 obtain ⟨A27,c28,rfl⟩:=hO26.slice
 refine ⟨an,?_⟩
 refine ao 8 (rpc 8 Tryz.func81 (jc (some ⟨g2,0,none⟩) 32 32 (lst 32 (aM s z)) (by decide) A27 (((tK (lst 32 (aM s z)) o i)++(o++[(UInt8.ofNat (i+1))])).length) c28 ((tK (lst 32 (aM s z)) o i)++(o++[(UInt8.ofNat (i+1))])) (by simp only[List.length_append,List.length_cons,List.length_nil];omega)) (⟨(bp (hH.blk 0 rfl)),(hO26.vuAt (hH.has 6 rfl))⟩) hH 5 (.nil _ []) ?_)
 clear hH
 intro w hH
 refine ⟨an,ao 10 ?_⟩
 refine re0 10 5 hH rfl (.sw (ac 32) (fun _=>0) (aM (lst 32 (aM s z)) ((tK (lst 32 (aM s z)) o i)++(o++[(UInt8.ofNat (i+1))])))) trivial (.nil _ []) ?_
 clear hH
 rintro _ _ w rfl hH
 refine ⟨an,rn ?_⟩
 refine zr (zv (v:=(.slice (some ⟨g24,0,none⟩) 32 32)) (fun _ _ hF=>aV (n:=32) (e:=5) (sz:=1) rfl (by kernel_rfl) (by kernel_rfl) (hF.ev 1 rfl)) 3 ?_)
 refine zv .mv 1 ?_
 refine zn (aC (zv .mv 4 ?_))
 refine zv .mv 0 ?_
 refine ze 1 hH rfl (fun _ hF=>cf (C:=af) (l:=L) (m:=(lst 32 (aM (lst 32 (aM s z)) ((tK (lst 32 (aM s z)) o i)++(o++[(UInt8.ofNat (i+1))]))))) (e:=5) (z:=(.int .u8 0)) (by_:=1) rfl (by kernel_rfl) (by kernel_rfl) rfl (ltb rfl) (hF.ev 1 rfl) hO (hF.ev 0 rfl) (ap _ _) (fun h=>by cases h) (by unfold maxLen;omega) (by omega)) (bp (hH.blk 5 rfl)) 3 ?_
 clear hH
 rintro v33 E34 w ⟨hO35,_⟩ hH
 replace hO35:OwnT af 5 v33 (L++(lst 32 (aM (lst 32 (aM s z)) ((tK (lst 32 (aM s z)) o i)++(o++[(UInt8.ofNat (i+1))]))))) E34:=hO35
 obtain ⟨A31,c32,rfl⟩:=hO35.slice
 refine zv .mv 1 ?_
 refine aD (aN (ag (aC (zv .mv 4 ?_))))
 refine zv (.add (((i+1)+1:Nat):Int)) 1 ?_
 refine zv .mv 1 ?_
 refine aD ?_
 replace hH:HH w0 [] [[bl g2 22 ((ac 32).enc (aM s z))],E34,[bl g24 22 ((ac 32).enc (aM (lst 32 (aM s z)) ((tK (lst 32 (aM s z)) o i)++(o++[(UInt8.ofNat (i+1))]))))]] w:=hH.only [true,true,false,false,false,true,false]
 exact zR9 (i+1) A31 c32 (L++(lst 32 (aM (lst 32 (aM s z)) ((tK (lst 32 (aM s z)) o i)++(o++[(UInt8.ofNat (i+1))]))))) E34 (some ⟨g24,0,none⟩) 32 32 ([bl g24 22 ((ac 32).enc (aM (lst 32 (aM s z)) ((tK (lst 32 (aM s z)) o i)++(o++[(UInt8.ofNat (i+1))]))))]) ⟨hH,hO35,(by rw[hL];rfl),(gr g24 22 (aM (lst 32 (aM s z)) ((tK (lst 32 (aM s z)) o i)++(o++[(UInt8.ofNat (i+1))])))),(fc _ _ _).symm,(by rw[List.length_append,ap];omega),(by omega)⟩ (by omega)
 refine rm 9 hH (.al (ac 32) (fun _=>0)) trivial 0 (.nil _ []) ?_
 clear hH
 rintro _ _ w ⟨g36,rfl,rfl⟩ hH
 refine ⟨an,ao 6 ?_⟩
 refine rm 6 hH (fun _ hF=>cY (C:=cSl) (e:=27) (z:=(.slice none 0 0)) (by_:=24) [(A2,n2,c2),(D,j,e),((some ⟨g4,0,none⟩),1,1)] rfl (by kernel_rfl) (by kernel_rfl) (EvP.cons (v:=cSl.val (A2,n2,c2)) (hF.ev 3 rfl) (EvP.cons (v:=cSl.val (D,j,e)) (hF.ev 2 rfl) (EvP.cons (v:=cSl.val ((some ⟨g4,0,none⟩),1,1)) (hF.ev 1 rfl) EvP.nil))) rfl (ltb rfl) (leb rfl) rfl) trivial 14 (.nil _ []) ?_
 clear hH
 rintro _ _ w ⟨g37,rfl,rfl⟩ hH
 refine ⟨an,ao 7 ?_⟩
 refine rm 7 hH (.call Tryz.func24 ((kx (some ⟨g37,0,none⟩) 3 [(A2,n2,c2),(D,j,e),((some ⟨g4,0,none⟩),1,1)] (tK (lst 32 (aM s z)) o i) o ([(UInt8.ofNat (i+1))]) (by simp only[List.length_cons,List.length_nil];omega)))) (⟨((Bk.lits (C:=cSl) [(A2,n2,c2),(D,j,e),((some ⟨g4,0,none⟩),1,1)] (by show 3≤_;unfold maxLen;decide)).vu (n:=3) (hH.blk 5 rfl) rfl),(.cons (hP.vuAt (hH.has 2 rfl)) (.cons (hH.vu hR.2.2 (by decide) (Off.nil _ _)) (.cons ((Bk.lit1 (C:=af) (UInt8.ofNat (i+1))).vu (n:=1) (hH.blk 3 rfl) rfl) ViewsL.nil)))⟩) 1 (.nil _ []) ?_
 clear hH
 rintro v42 E38 w hO39 hH
 obtain ⟨A40,c41,rfl⟩:=hO39.slice
 refine ⟨an,?_⟩
 refine ao 8 (rpc 8 Tryz.func81 (jc (some ⟨g2,0,none⟩) 32 32 (lst 32 (aM s z)) (by decide) A40 (((tK (lst 32 (aM s z)) o i)++(o++[(UInt8.ofNat (i+1))])).length) c41 ((tK (lst 32 (aM s z)) o i)++(o++[(UInt8.ofNat (i+1))])) (by simp only[List.length_append,List.length_cons,List.length_nil];omega)) (⟨(bp (hH.blk 0 rfl)),(hO39.vuAt (hH.has 6 rfl))⟩) hH 5 (.nil _ []) ?_)
 clear hH
 intro w hH
 refine ⟨an,ao 10 ?_⟩
 refine re0 10 4 hH rfl (.sw (ac 32) (fun _=>0) (aM (lst 32 (aM s z)) ((tK (lst 32 (aM s z)) o i)++(o++[(UInt8.ofNat (i+1))])))) trivial (.nil _ []) ?_
 clear hH
 rintro _ _ w rfl hH
 refine ⟨an,rn ?_⟩
 refine zr (zv (v:=(.slice (some ⟨g36,0,none⟩) 32 32)) (fun _ _ hF=>aV (n:=32) (e:=5) (sz:=1) rfl (by kernel_rfl) (by kernel_rfl) (hF.ev 1 rfl)) 3 ?_)
 refine zv .mv 1 ?_
 refine zn (aC (zv .mv 4 ?_))
 refine zv .mv 0 ?_
 refine ze 1 hH rfl (fun _ hF=>cf (C:=af) (l:=L) (m:=(lst 32 (aM (lst 32 (aM s z)) ((tK (lst 32 (aM s z)) o i)++(o++[(UInt8.ofNat (i+1))]))))) (e:=5) (z:=(.int .u8 0)) (by_:=1) rfl (by kernel_rfl) (by kernel_rfl) rfl (ltb rfl) (hF.ev 1 rfl) hO (hF.ev 0 rfl) (ap _ _) (fun h=>by cases h) (by unfold maxLen;omega) (by omega)) (bp (hH.blk 4 rfl)) 3 ?_
 clear hH
 rintro v46 E47 w ⟨hO48,_⟩ hH
 replace hO48:OwnT af 5 v46 (L++(lst 32 (aM (lst 32 (aM s z)) ((tK (lst 32 (aM s z)) o i)++(o++[(UInt8.ofNat (i+1))]))))) E47:=hO48
 obtain ⟨A44,c45,rfl⟩:=hO48.slice
 refine zv .mv 1 ?_
 refine aD (aN (ag (aC (zv .mv 4 ?_))))
 refine zv (.add (((i+1)+1:Nat):Int)) 1 ?_
 refine zv .mv 1 ?_
 refine aD ?_
 replace hH:HH w0 [] [[bl g2 22 ((ac 32).enc (aM s z))],E47,[bl g36 22 ((ac 32).enc (aM (lst 32 (aM s z)) ((tK (lst 32 (aM s z)) o i)++(o++[(UInt8.ofNat (i+1))]))))]] w:=hH.only [true,true,false,false,true,false,false]
 exact zR9 (i+1) A44 c45 (L++(lst 32 (aM (lst 32 (aM s z)) ((tK (lst 32 (aM s z)) o i)++(o++[(UInt8.ofNat (i+1))]))))) E47 (some ⟨g36,0,none⟩) 32 32 ([bl g36 22 ((ac 32).enc (aM (lst 32 (aM s z)) ((tK (lst 32 (aM s z)) o i)++(o++[(UInt8.ofNat (i+1))]))))]) ⟨hH,hO48,(by rw[hL];rfl),(gr g36 22 (aM (lst 32 (aM s z)) ((tK (lst 32 (aM s z)) o i)++(o++[(UInt8.ofNat (i+1))])))),(fc _ _ _).symm,(by rw[List.length_append,ap];omega),(by omega)⟩ (by omega)
 refine rm 9 hH (.al (ac 32) (fun _=>0)) trivial 0 (.nil _ []) ?_
 clear hH
 rintro _ _ w ⟨g49,rfl,rfl⟩ hH
 refine ⟨an,ao 5 ?_⟩
 refine rm 5 hH (fun _ hF=>cx (e:=5) (sz:=1) (z:=(.int .u8 0)) (by_:=1) (cs:=af.enc (UInt8.ofNat (i+1))) rfl (by kernel_rfl) (by kernel_rfl) (hF.ev 1 rfl) (af.len (UInt8.ofNat (i+1))) (ltb rfl) (leb rfl) rfl) trivial 2 (.nil _ []) ?_
 clear hH
 rintro _ _ w ⟨g50,rfl,rfl⟩ hH
 refine ⟨an,ao 6 ?_⟩
 refine rm 6 hH (fun _ hF=>cY (C:=cSl) (e:=27) (z:=(.slice none 0 0)) (by_:=24) [(A2,n2,c2),(D,j,e),((some ⟨g50,0,none⟩),1,1)] rfl (by kernel_rfl) (by kernel_rfl) (EvP.cons (v:=cSl.val (A2,n2,c2)) (hF.ev 3 rfl) (EvP.cons (v:=cSl.val (D,j,e)) (hF.ev 2 rfl) (EvP.cons (v:=cSl.val ((some ⟨g50,0,none⟩),1,1)) (hF.ev 0 rfl) EvP.nil))) rfl (ltb rfl) (leb rfl) rfl) trivial 13 (.nil _ []) ?_
 clear hH
 rintro _ _ w ⟨g51,rfl,rfl⟩ hH
 refine ⟨an,ao 7 ?_⟩
 refine rm 7 hH (.call Tryz.func24 ((kx (some ⟨g51,0,none⟩) 3 [(A2,n2,c2),(D,j,e),((some ⟨g50,0,none⟩),1,1)] (tK (lst 32 (aM s z)) o i) o ([(UInt8.ofNat (i+1))]) (by simp only[List.length_cons,List.length_nil];omega)))) (⟨((Bk.lits (C:=cSl) [(A2,n2,c2),(D,j,e),((some ⟨g50,0,none⟩),1,1)] (by show 3≤_;unfold maxLen;decide)).vu (n:=3) (hH.blk 5 rfl) rfl),(.cons (hP.vuAt (hH.has 2 rfl)) (.cons (hH.vu hR.2.2 (by decide) (Off.nil _ _)) (.cons ((Bk.lit1 (C:=af) (UInt8.ofNat (i+1))).vu (n:=1) (hH.blk 4 rfl) rfl) ViewsL.nil)))⟩) 1 (.nil _ []) ?_
 clear hH
 rintro v56 E52 w hO53 hH
 obtain ⟨A54,c55,rfl⟩:=hO53.slice
 refine ⟨an,?_⟩
 refine ao 8 (rpc 8 Tryz.func81 (jc (some ⟨g2,0,none⟩) 32 32 (lst 32 (aM s z)) (by decide) A54 (((tK (lst 32 (aM s z)) o i)++(o++[(UInt8.ofNat (i+1))])).length) c55 ((tK (lst 32 (aM s z)) o i)++(o++[(UInt8.ofNat (i+1))])) (by simp only[List.length_append,List.length_cons,List.length_nil];omega)) (⟨(bp (hH.blk 0 rfl)),(hO53.vuAt (hH.has 6 rfl))⟩) hH 5 (.nil _ []) ?_)
 clear hH
 intro w hH
 refine ⟨an,ao 10 ?_⟩
 refine re0 10 3 hH rfl (.sw (ac 32) (fun _=>0) (aM (lst 32 (aM s z)) ((tK (lst 32 (aM s z)) o i)++(o++[(UInt8.ofNat (i+1))])))) trivial (.nil _ []) ?_
 clear hH
 rintro _ _ w rfl hH
 refine ⟨an,rn ?_⟩
 refine zr (zv (v:=(.slice (some ⟨g49,0,none⟩) 32 32)) (fun _ _ hF=>aV (n:=32) (e:=5) (sz:=1) rfl (by kernel_rfl) (by kernel_rfl) (hF.ev 1 rfl)) 3 ?_)
 refine zv .mv 1 ?_
 refine zn (aC (zv .mv 4 ?_))
 refine zv .mv 0 ?_
 refine ze 1 hH rfl (fun _ hF=>cf (C:=af) (l:=L) (m:=(lst 32 (aM (lst 32 (aM s z)) ((tK (lst 32 (aM s z)) o i)++(o++[(UInt8.ofNat (i+1))]))))) (e:=5) (z:=(.int .u8 0)) (by_:=1) rfl (by kernel_rfl) (by kernel_rfl) rfl (ltb rfl) (hF.ev 1 rfl) hO (hF.ev 0 rfl) (ap _ _) (fun h=>by cases h) (by unfold maxLen;omega) (by omega)) (bp (hH.blk 3 rfl)) 3 ?_
 clear hH
 rintro v60 E61 w ⟨hO62,_⟩ hH
 replace hO62:OwnT af 5 v60 (L++(lst 32 (aM (lst 32 (aM s z)) ((tK (lst 32 (aM s z)) o i)++(o++[(UInt8.ofNat (i+1))]))))) E61:=hO62
 obtain ⟨A58,c59,rfl⟩:=hO62.slice
 refine zv .mv 1 ?_
 refine aD (aN (ag (aC (zv .mv 4 ?_))))
 refine zv (.add (((i+1)+1:Nat):Int)) 1 ?_
 refine zv .mv 1 ?_
 refine aD ?_
 replace hH:HH w0 [] [[bl g2 22 ((ac 32).enc (aM s z))],E61,[bl g49 22 ((ac 32).enc (aM (lst 32 (aM s z)) ((tK (lst 32 (aM s z)) o i)++(o++[(UInt8.ofNat (i+1))]))))]] w:=hH.only [true,true,false,true,false,false,false]
 exact zR9 (i+1) A58 c59 (L++(lst 32 (aM (lst 32 (aM s z)) ((tK (lst 32 (aM s z)) o i)++(o++[(UInt8.ofNat (i+1))]))))) E61 (some ⟨g49,0,none⟩) 32 32 ([bl g49 22 ((ac 32).enc (aM (lst 32 (aM s z)) ((tK (lst 32 (aM s z)) o i)++(o++[(UInt8.ofNat (i+1))]))))]) ⟨hH,hO62,(by rw[hL];rfl),(gr g49 22 (aM (lst 32 (aM s z)) ((tK (lst 32 (aM s z)) o i)++(o++[(UInt8.ofNat (i+1))])))),(fc _ _ _).symm,(by rw[List.length_append,ap];omega),(by omega)⟩ (by omega)
 refine aJ (ak (ak (aR (ag ?_))))
 have hcl:=hO.capLe
 refine zr (zv .mv 95 ?_)
 refine zv .mv 2 ?_
 refine zv (v:=(.slice A1 m c1)) (fun _ _ hF=>eY (h:=m) (e:=5) (sz:=1) rfl (by kernel_rfl) (by kernel_rfl) (hF.ev 1 rfl) (hF.ev 0 rfl) rfl (by omega)) 3 ?_
 refine zv .mv 1 ?_
 refine zn (ar (aW 0 rfl rfl ?_))
 have hOk:=hO.head (m:=m) (by omega)
 rw[hL,← tT s z o hi (by omega)]at hOk
 exact ⟨_,_,rfl,hOk,hH.out1 [false,true,false] rfl⟩
section
open Go
section
variable{P:Program}{ops:Array Oper}{n:Sz}{w0:World}{R:List Nat}{Hs:List Hl}{l:aS}{its:List It}
def owr{α:Type}(i d:Nat)(ns ds r:List Nat)(C:Cod α)(e:TypeId)(q:Chs→List α):It:=⟨i,some d,ns,ds,[],r,fun G x=>.slice x.A (q G).length x.c,fun _ x=>x.E,fun G x=>OwnT C e (.slice x.A (q G).length x.c) (q G) x.E⟩
theorem Sp.or{α:Type}{i d:Nat}{ns ds r:List Nat}{C:Cod α}{e:TypeId}{q:Chs→List α}{Rd:Chs→World→Prop}{po:Chs→Value→Hl→Prop}(hR:∀ G w Xs,HH w0 R ((r.map fun id=>dL id (dJ Hs its G))++Xs) w→Rd G w)(h:∀ G,Sm P n (fe l its ns G) (cP ops i) [] (Rd G) (po G))(hp:∀ G v E',po G v E'→OwnT C e v (q (onD ds G)) E'):Sp P ops n w0 R Hs l its (owr i d ns ds r C e q):=fun G a w Xs hF hH =>
 (h G a hF w (Has.nil w) (hR G w Xs hH)).mono fun v w' ⟨E',h1,h2⟩=>by
  have h3:=hp G v E' h1
  obtain ⟨A,c,rfl⟩:=h3.slice
  refine ⟨⟨0,c,A,undef,E'⟩,h3,fun _=>rfl,(hH.add h2).perm ?_⟩
  show ((([]:List Hl)++((r.map fun id=>dL id (dJ Hs its G))++Xs))++[_]).flatten.Perm (_::((r.map fun id=>dL id (dJ Hs its G))++Xs)).flatten
  simp only[List.flatten_append,List.flatten_cons,List.flatten_nil,List.append_nil,List.nil_append]
  exact List.perm_append_comm
def tuv(i d:Nat)(ns ds:List Nat)(s:Nat)(V:Chs→Value)(E:Chs→Hl):It:=⟨i,some d,ns,ds,[s],[],fun G _=>V G,fun G _=>E G,fun _ _=>True⟩
theorem Sp.tv{i d s:Nat}{ns ds:List Nat}{V:Chs→Value}{E:Chs→Hl}{E0:Chs→Hl}{Rd:Chs→World→Prop}{po:Chs→Value→Hl→Prop}(h:∀ G,Sm P n (fe l its ns G) (cP ops i) (E0 G) (Rd G) (po G))(hR:∀ G w Xs,HH w0 R (E0 G::Xs) w→Rd G w)(hp:∀ G v E',po G v E'→v=V (onD ds G)∧E'=E (onD ds G))(he:∀ G,dL s (dJ Hs its G)=E0 G:=by exact fun _=>rfl):Sp P ops n w0 R Hs l its (tuv i d ns ds s V E):=fun G a w Xs hF hH=>by
 have hH2:HH w0 R (E0 G::Xs) w:=he G▸hH
 refine (h G a hF w (hH2.has 0 rfl) (hR G w Xs hH2)).mono fun v w' ⟨E',h1,h2⟩ => ?_
 obtain ⟨rfl,rfl⟩:=hp G v E' h1
 exact ⟨ch0,trivial,fun _=>rfl,hH2.turn 0 rfl h2⟩
end
end
theorem CL(A:Option Addr)(c:Nat)(hs:List (Option Addr×Nat×Nat))(a b d:List UInt8)(hb:a.length+(b.length+d.length)≤70368744177664):Does Tryz.prog 33 #[.slice A 3 c] [] (fun w=>Vu cSl w A 3 c hs∧ViewsL w hs [a,b,d]) (fun v E'=>OwnT af 5 v (a++(b++d)) E'):=by
 have h:=iC A 3 c hs [a,b,d] rfl (by decide) (by rw[qy,List.length_append,List.length_append];exact hb)
 rw[qy]at h
 exact h
def pkI:List UInt8:=[79,112,101,110,80,71,80,32,88,50,53,53,49,57]
def kekL(a b c:Nat→UInt8):List UInt8:=sq [] (lst 32 a++(lst 32 b++lst 32 c)) pkI 16
theorem eL(a b c:Nat→UInt8):(kekL a b c).length=16:=wh _ _ _ (by decide)
theorem pc(a b c:Nat→UInt8):Does Tryz.prog 23 #[((ac 32).val a),((ac 32).val b),((ac 32).val c)] [] (fun _=>True) (fun v E'=>OwnT af 5 v (kekL a b c) E'):=by
 refine dU Tryz.func23 Tryz.ntmps23 ?_
 intro w0 hH hR
 replace hH:HH w0 [] [] w0:=hH.only [false]
 refine zr (zB hH (ac 32) a 1 ?_)
 clear hH
 intro g1 w hH
 refine zB hH (ac 32) b 2 ?_
 clear hH
 intro g2 w hH
 refine zB hH (ac 32) c 4 ?_
 clear hH
 intro g3 w hH
 refine zv .mv 0 ?_
 refine zn (zx ?_)
 replace hH:=hH.drew
 refine de 2 [pv 0 7 [] [] fun G=>(.slice (some ⟨g1,0,none⟩) 32 32),pv 1 8 [] [] fun G=>(.slice (some ⟨g2,0,none⟩) 32 32),pv 2 9 [] [] fun G=>(.slice (some ⟨g3,0,none⟩) 32 32),mkv 3 10 [0,1,2] [] (fun G g=>(.slice (some ⟨g,0,none⟩) 3 3)) fun G g=>[bl g 27 (be cSl [((some ⟨g1,0,none⟩),32,32),((some ⟨g2,0,none⟩),32,32),((some ⟨g3,0,none⟩),32,32)]).toArray],owr 4 11 [3] [] [3,1000,1001,1002] af 5 fun G=>((lst 32 a)++((lst 32 b)++(lst 32 c))),mkv 5 12 [] [] (fun G g=>(.slice (some ⟨g,0,none⟩) 14 14)) fun G g=>[bl g 5 (be af [79,112,101,110,80,71,80,32,88,50,53,53,49,57]).toArray],tuv 6 13 [5] [5] 5 (fun G=>(.slice (some ⟨(G 5).g,0,none⟩) 14 14)) fun G=>[mk (G 5).g 5 ((be af [79,112,101,110,80,71,80,32,88,50,53,53,49,57]).toArray)]] (fun G=>[(11,(.slice (G 4).A (((lst 32 a)++((lst 32 b)++(lst 32 c))).length) (G 4).c)),(13,(.slice (some ⟨(G 5).g,0,none⟩) 14 14)),(6,(.slice none 0 0))]) (fun G=>[[bl g1 22 ((ac 32).enc a)],[bl g2 22 ((ac 32).enc b)],[bl g3 22 ((ac 32).enc c)],[bl (G 3).g 27 (be cSl [((some ⟨g1,0,none⟩),32,32),((some ⟨g2,0,none⟩),32,32),((some ⟨g3,0,none⟩),32,32)]).toArray],(G 4).E,[mk (G 5).g 5 ((be af [79,112,101,110,80,71,80,32,88,50,53,53,49,57]).toArray)]]) hH (.c (.v fun G=>(fun _ _ hF=>aV (n:=32) (e:=5) (sz:=1) rfl (by kernel_rfl) (by kernel_rfl) (hF.ev 3 rfl))) <| .c (.v fun G=>(fun _ _ hF=>aV (n:=32) (e:=5) (sz:=1) rfl (by kernel_rfl) (by kernel_rfl) (hF.ev 2 rfl))) <| .c (.v fun G=>(fun _ _ hF=>aV (n:=32) (e:=5) (sz:=1) rfl (by kernel_rfl) (by kernel_rfl) (hF.ev 1 rfl))) <| .c (.a (fun _ _ _ _=>trivial) (fun G=>(fun _ hF=>cY (C:=cSl) (e:=27) (z:=(.slice none 0 0)) (by_:=24) [((some ⟨g1,0,none⟩),32,32),((some ⟨g2,0,none⟩),32,32),((some ⟨g3,0,none⟩),32,32)] rfl (by kernel_rfl) (by kernel_rfl) (EvP.cons (v:=cSl.val ((some ⟨g1,0,none⟩),32,32)) (hF.ev 0 rfl) (EvP.cons (v:=cSl.val ((some ⟨g2,0,none⟩),32,32)) (hF.ev 1 rfl) (EvP.cons (v:=cSl.val ((some ⟨g3,0,none⟩),32,32)) (hF.ev 2 rfl) EvP.nil))) rfl (ltb rfl) (leb rfl) rfl)) fun _ _ _ h=>h) <| .c (.or (fun G _ _ hH=>⟨((Bk.lits (C:=cSl) [((some ⟨g1,0,none⟩),32,32),((some ⟨g2,0,none⟩),32,32),((some ⟨g3,0,none⟩),32,32)] (by show 3≤_;unfold maxLen;decide)).vu (n:=3) (hH.blk 0 rfl) rfl),(.cons (bp (hH.blk 1 rfl)) (.cons (bp (hH.blk 2 rfl)) (.cons (bp (hH.blk 3 rfl)) ViewsL.nil)))⟩) (fun G=>(.call Tryz.func24 ((kx (some ⟨(G 3).g,0,none⟩) 3 [((some ⟨g1,0,none⟩),32,32),((some ⟨g2,0,none⟩),32,32),((some ⟨g3,0,none⟩),32,32)] (lst 32 a) (lst 32 b) (lst 32 c) (by rw[ap,ap,ap];decide))))) fun _ _ _ h=>h) <| .c (.a (fun _ _ _ _=>trivial) (fun G=>(fun _ hF=>cY (C:=af) (e:=5) (z:=(.int .u8 0)) (by_:=1) [79,112,101,110,80,71,80,32,88,50,53,53,49,57] rfl (by kernel_rfl) (by kernel_rfl) (EvP.cons (v:=af.val 79) rfl (EvP.cons (v:=af.val 112) rfl (EvP.cons (v:=af.val 101) rfl (EvP.cons (v:=af.val 110) rfl (EvP.cons (v:=af.val 80) rfl (EvP.cons (v:=af.val 71) rfl (EvP.cons (v:=af.val 80) rfl (EvP.cons (v:=af.val 32) rfl (EvP.cons (v:=af.val 88) rfl (EvP.cons (v:=af.val 50) rfl (EvP.cons (v:=af.val 53) rfl (EvP.cons (v:=af.val 53) rfl (EvP.cons (v:=af.val 49) rfl (EvP.cons (v:=af.val 57) rfl EvP.nil)))))))))))))) rfl (ltb rfl) (leb rfl) rfl)) fun _ _ _ h=>h) <| .c (.tv (fun G=>(fun _ hF=>tB (e:=5) rfl (by kernel_rfl) (by kernel_rfl) (hF.ev 0 rfl))) (fun _ _ _ _=>trivial) fun _ _ _ h=>h) <| .nil) ?_
 clear hH
 rintro G w hp hH
 obtain ⟨-,-,-,-,hO6,-,-,-⟩:=hp
 replace hO6:OwnT af 5 (.slice (G 4).A ((lst 32 a)++((lst 32 b)++(lst 32 c))).length (G 4).c) ((lst 32 a)++((lst 32 b)++(lst 32 c))) (G 4).E:=hO6
 revert hH hO6
 generalize (G 3).g=g4
 generalize (G 4).A=A7
 generalize (G 4).c=c8
 generalize (G 4).E=E5
 generalize (G 5).g=g11
 intro hH hO6
 refine ao 7 ?_
 refine rm 7 hH (.call Tryz.func42 ((wm none 0 0 [] rfl A7 (((lst 32 a)++((lst 32 b)++(lst 32 c))).length) c8 ((lst 32 a)++((lst 32 b)++(lst 32 c))) (by simp only[List.length_append,ap];decide) (some ⟨g11,0,none⟩) 14 14 ([79,112,101,110,80,71,80,32,88,50,53,53,49,57]) (by decide) 16 (by decide) (by decide)))) (⟨Vu.none _ _,(hO6.vuAt (hH.has 4 rfl)),((Bk.lits (C:=af) [79,112,101,110,80,71,80,32,88,50,53,53,49,57] (by show 14≤_;unfold maxLen;decide)).vuM (hH.blk 5 rfl) rfl)⟩) 3 (.nil _ []) ?_
 clear hH
 rintro v16 E12 w hO13 hH
 obtain ⟨A14,c15,rfl⟩:=hO13.slice
 refine ⟨an,rv 8 .mv 3 ?_⟩
 refine rn ?_
 refine ar (aW 0 rfl rfl ?_)
 exact ⟨_,_,rfl,  hO13,hH.out1 [false,false,false,false,false,false,true] rfl⟩
def wd(v i:Nat):Nat:=v/2^(64*i)%18446744073709551616
theorem cg(v i:Nat):wd v i<18446744073709551616:=Nat.mod_lt _ (by decide)
def bc(v:Nat):Nat→UInt64:=fun i=>UInt64.ofNat (wd v i)
theorem jd(v i:Nat):(bc v i).toNat=wd v i:=by
 unfold bc
 rw[UInt64.toNat_ofNat']
 exact Nat.mod_eq_of_lt (cg v i)
theorem gu(v i:Nat):((bc v i).toNat:Int)=(wd v i:Int):=by rw[jd]
theorem dm(i:Nat):2^(64*(i+1))=2^(64*i)*18446744073709551616:=by
 rw[show 64*(i+1)=64*i+64 by omega,Nat.pow_add]
theorem bO(i:Nat):0<2^(64*i):=Nat.two_pow_pos _
theorem fp(v i:Nat):v%2^(64*(i+1))=v%2^(64*i)+wd v i*2^(64*i):=by
 rw[dm,Nat.mod_mul,Nat.mul_comm (2^(64*i))];rfl
theorem dH(v i:Nat):v%2^(64*i)<2^(64*i):=Nat.mod_lt _ (bO i)
theorem eM{v i:Nat}(h:v<2^(64*i)):wd v i=0:=by
 unfold wd
 rw[Nat.div_eq_of_lt h]
theorem pd(v i n:Nat)(h:i<n):wd (v%2^(64*n)) i=wd v i:=by
 unfold wd
 have e:2^(64*n)=2^(64*i)*(18446744073709551616*2^(64*(n-i-1))):=by
  rw[show (18446744073709551616:Nat)=2^64 from rfl,← Nat.pow_add,← Nat.pow_add]
  congr 1;omega
 rw[e,Nat.mod_mul_right_div_self,Nat.mod_mul_right_mod]
def cry(a b m:Nat):Nat:=(a%2^(64*m)+b%2^(64*m))/2^(64*m)
theorem iD(a b:Nat):cry a b 0=0:=by unfold cry;simp[Nat.mod_one]
theorem mJ(a b m:Nat):cry a b m≤1:=by
 unfold cry
 have h1:=dH a m
 have h2:=dH b m
 have:a%2^(64*m)+b%2^(64*m)<2^(64*m)*2:=by omega
 have:=(Nat.div_lt_iff_lt_mul (bO m)).mpr (show a%2^(64*m)+b%2^(64*m)<2*2^(64*m) by omega)
 omega
theorem sx(a b m:Nat):a+b=(a/2^(64*m)+b/2^(64*m)+cry a b m)*2^(64*m)+(a%2^(64*m)+b%2^(64*m))%2^(64*m):=by
 unfold cry
 have h1:=Nat.div_add_mod a (2^(64*m))
 have h2:=Nat.div_add_mod b (2^(64*m))
 have h3:=Nat.div_add_mod (a%2^(64*m)+b%2^(64*m)) (2^(64*m))
 generalize (a%2^(64*m)+b%2^(64*m))/2^(64*m)=c at *
 generalize a%2^(64*m)=p at *
 generalize b%2^(64*m)=q at *
 generalize (p+q)%2^(64*m)=r at *
 generalize 2^(64*m)=K at *
 generalize a/K=x at *
 generalize b/K=y at *
 rw[← h1,← h2,Nat.add_mul,Nat.add_mul,Nat.mul_comm x,Nat.mul_comm y,Nat.mul_comm c]
 omega
theorem iE(a b m:Nat):(a+b)/2^(64*m)=a/2^(64*m)+b/2^(64*m)+cry a b m:=by
 have h:=sx a b m
 have hr:(a%2^(64*m)+b%2^(64*m))%2^(64*m)<2^(64*m):=Nat.mod_lt _ (bO m)
 rw[h,Nat.mul_comm,Nat.mul_add_div (bO m),Nat.div_eq_of_lt hr,Nat.add_zero]
theorem ky(a b m:Nat):(wd a m+wd b m+cry a b m)%18446744073709551616=wd (a+b) m:=by
 unfold wd
 rw[iE]
 omega
theorem sy(a b m:Nat):(wd a m+wd b m+cry a b m)/18446744073709551616=cry a b (m+1):=by
 have h1:=iE a b m
 have h2:=iE a b (m+1)
 rw[dm,← Nat.div_div_eq_div_mul,← Nat.div_div_eq_div_mul,← Nat.div_div_eq_div_mul,h1]at h2
 unfold wd
 omega
theorem jW(a b n:Nat)(ha:a<2^(64*n))(hb:b<2^(64*n)):cry a b n=(a+b)/2^(64*n):=by
 unfold cry
 rw[Nat.mod_eq_of_lt ha,Nat.mod_eq_of_lt hb]
def brw(a b m:Nat):Nat:=if a%2^(64*m)<b%2^(64*m) then 1 else 0
theorem nX(a b:Nat):brw a b 0=0:=by unfold brw;simp[Nat.mod_one]
theorem je(a b m:Nat):brw a b m≤1:=by unfold brw;split<;>omega
theorem sA(a b m:Nat):∃ r,r<2^(64*m)∧a%2^(64*m)+brw a b m*2^(64*m)=b%2^(64*m)+r:=by
 have h1:=dH a m
 have h2:=dH b m
 unfold brw
 split
 ·exact ⟨a%2^(64*m)+2^(64*m)-b%2^(64*m),by omega,by omega⟩
 ·exact ⟨a%2^(64*m)-b%2^(64*m),by omega,by omega⟩
theorem tW(a b m:Nat):(if wd a m<wd b m+brw a b m then 1 else 0)=brw a b (m+1):=by
 unfold brw
 rw[fp a m,fp b m]
 have h1:=dH a m
 have h2:=dH b m
 generalize wd a m=x
 generalize wd b m=y
 generalize a%2^(64*m)=p at *
 generalize b%2^(64*m)=q at *
 generalize 2^(64*m)=K at *
 rcases Nat.lt_trichotomy x y with h | h | h
 ·have:x*K+K≤y*K:=by rw[← Nat.succ_mul];exact Nat.mul_le_mul_right K h
  rw[if_pos (by split<;>omega),if_pos (by omega)]
 ·subst h
  by_cases hpq:p<q
  ·simp[hpq]
  ·simp[hpq]
 ·have:y*K+K≤x*K:=by rw[← Nat.succ_mul];exact Nat.mul_le_mul_right K h
  rw[if_neg (by split<;>omega),if_neg (by omega)]
theorem tX(a b m:Nat)(hba:b≤a):(wd a m+18446744073709551616-wd b m-brw a b m)%18446744073709551616=wd (a-b) m:=by
 have hw:=ky (a-b) b m
 have hc:cry (a-b) b m=brw a b m:=by
  obtain ⟨r,hr,he⟩:=sA a b m
  have h1:=dH a m
  have h2:=dH b m
  have h3:(a-b)%2^(64*m)=r:=by
   have h4:(a-b+b)%2^(64*m)=a%2^(64*m):=by rw[Nat.sub_add_cancel hba]
   rw[Nat.add_mod]at h4
   have h5:=dH (a-b) m
   generalize (a-b)%2^(64*m)=x at *
   generalize b%2^(64*m)=q at *
   generalize a%2^(64*m)=p at *
   generalize 2^(64*m)=K at *
   have h6:=je a b m
   generalize brw a b m=t at *
   rcases Nat.lt_or_ge (x+q) K with h | h
   ·rw[Nat.mod_eq_of_lt h]at h4
    have:t=0∨t=1:=by omega
    rcases this with rfl | rfl<;>omega
   ·rw[Nat.mod_eq_sub_mod h,Nat.mod_eq_of_lt (by omega)]at h4
    have:t=0∨t=1:=by omega
    rcases this with rfl | rfl<;>omega
  unfold cry
  rw[h3]
  rw[show r+b%2^(64*m)=a%2^(64*m)+brw a b m*2^(64*m) by omega,Nat.add_mul_div_right _ _ (bO m),Nat.div_eq_of_lt h1,Nat.zero_add]
 rw[hc,Nat.sub_add_cancel hba]at hw
 have h1:=cg a m
 have h2:=cg b m
 have h3:=cg (a-b) m
 have h4:=je a b m
 omega
def f1(v:Nat):Nat:=v%2^256+38*(v/2^256)
def fv(v:Nat):Nat:=f1 (f1 v)
theorem kz{v:Nat}(h:v<2^256):f1 v=v:=by
 unfold f1
 rw[Nat.mod_eq_of_lt h,Nat.div_eq_of_lt h,Nat.mul_zero,Nat.add_zero]
theorem Bn{v:Nat}(h:v<2^320):f1 v<2^256+38*2^64:=by
 unfold f1
 have h1:v/2^256<2^64:=by omega
 have h2:v%2^256<2^256:=Nat.mod_lt _ (by decide)
 omega
theorem nY{v:Nat}(h:v<2^320):fv v<2^256:=by
 have h1:=Bn h
 unfold fv
 generalize f1 v=u at *
 unfold f1
 omega
theorem tY{v:Nat}(h:v<2^256):fv v=v:=by unfold fv;rw[kz h,kz h]
def pN:Nat:=57896044618658097711785492504343953926634992332820282019728792003956564819949
theorem pe(v:Nat):f1 v%pN=v%pN:=by
 unfold f1
 have h:v=v%2^256+(38+2*pN)*(v/2^256):=by
  have:=Nat.div_add_mod v (2^256)
  have e:38+2*pN=2^256:=by decide
  rw[e];omega
 conv=>rhs;rw[h]
 rw[Nat.add_mul,← Nat.add_assoc,Nat.mul_comm 2 pN,Nat.mul_assoc,Nat.add_mul_mod_self_left]
theorem tZ(v:Nat):fv v%pN=v%pN:=by unfold fv;rw[pe,pe]
def lv(b:Nat→UInt8):Nat→Nat
 | 0=>0
 | m+1=>lv b m+(b m).toNat*256^m
theorem gJ(b:Nat→UInt8):∀ m,lv b m<256^m
 | 0=>by simp[lv]
 | m+1=>by
  have h:=gJ b m
  have h2:=(b m).toNat_lt
  have h3:(b m).toNat*256^m≤255*256^m:=Nat.mul_le_mul_right _ (by omega)
  show lv b m+(b m).toNat*256^m<256^(m+1)
  rw[Nat.pow_succ]
  omega
theorem bI(b:Nat→UInt8):lv b 32<2^256:=gJ b 32
theorem pf(m:Nat):256^m=2^(64*(m/8))*2^(8*(m%8)):=by
 rw[show (256:Nat)=2^8 from rfl,← Nat.pow_mul,← Nat.pow_add]
 congr 1;omega
theorem nZ(b:Nat→UInt8)(m i:Nat)(h:i≠m/8):wd (lv b (m+1)) i=wd (lv b m) i:=by
 have hl:=gJ b m
 show wd (lv b m+(b m).toNat*256^m) i=_
 rcases Nat.lt_or_ge i (m/8) with hi | hi
 ·unfold wd
  have e:256^m=2^(64*i)*(18446744073709551616*2^(8*m-64*i-64)):=by
   rw[show (256:Nat)=2^8 from rfl,show (18446744073709551616:Nat)=2^64 from rfl,← Nat.pow_mul,← Nat.pow_add,← Nat.pow_add]
   congr 1;omega
  rw[e,show (b m).toNat*(2^(64*i)*(18446744073709551616*2^(8*m-64*i-64)))=2^(64*i)*(18446744073709551616*((b m).toNat*2^(8*m-64*i-64))) by ac_rfl,
   Nat.add_mul_div_left _ _ (bO i),Nat.add_mul_mod_self_left]
 ·have hi:m/8<i:=by omega
  have h1:=gJ b (m+1)
  have h2:256^(m+1)≤2^(64*i):=by
   rw[show (256:Nat)=2^8 from rfl,← Nat.pow_mul]
   exact Nat.pow_le_pow_right (by omega) (by omega)
  have h3:lv b m+(b m).toNat*256^m<2^(64*i):=Nat.lt_of_lt_of_le h1 h2
  rw[eM h3,eM (by omega)]
theorem kC(b:Nat→UInt8)(m:Nat):wd (lv b (m+1)) (m/8)=wd (lv b m) (m/8)+(b m).toNat*2^(8*(m%8))∧wd (lv b m) (m/8)<2^(8*(m%8)):=by
 have hl:=gJ b m
 have hb:=(b m).toNat_lt
 have hr:m%8<8:=Nat.mod_lt _ (by decide)
 rw[pf]at hl
 have h0:lv b m/2^(64*(m/8))<2^(8*(m%8)):=(Nat.div_lt_iff_lt_mul (bO _)).mpr (by rw[Nat.mul_comm];exact hl)
 have h1:(2:Nat)^(8*(m%8))≤2^56:=Nat.pow_le_pow_right (by omega) (by omega)
 have h2:(lv b m+(b m).toNat*256^m)/2^(64*(m/8))=lv b m/2^(64*(m/8))+(b m).toNat*2^(8*(m%8)):=by
  rw[pf,show (b m).toNat*(2^(64*(m/8))*2^(8*(m%8)))=2^(64*(m/8))*((b m).toNat*2^(8*(m%8))) by ac_rfl,Nat.add_mul_div_left _ _ (bO _)]
 have h3:(b m).toNat*2^(8*(m%8))≤255*2^56:=Nat.mul_le_mul (by omega) h1
 unfold wd
 show (lv b m+(b m).toNat*256^m)/2^(64*(m/8))%18446744073709551616=_∧_
 rw[h2]
 generalize lv b m/2^(64*(m/8))=x at *
 generalize (b m).toNat*2^(8*(m%8))=y at *
 generalize (2:Nat)^(8*(m%8))=K at *
 exact ⟨by rw[Nat.mod_eq_of_lt (a:=x) (by omega),Nat.mod_eq_of_lt (by omega)],by rw[Nat.mod_eq_of_lt (by omega)];exact h0⟩
theorem Bo(b:Nat→UInt8)(m:Nat):wd (lv b m) (m/8)|||(b m).toNat*2^(8*(m%8))=wd (lv b (m+1)) (m/8):=by
 obtain ⟨h1,h2⟩:=kC b m
 rw[h1]
 have h:=Nat.shiftLeft_add_eq_or_of_lt h2 (b m).toNat
 rw[Nat.shiftLeft_eq]at h
 rw[Nat.or_comm,← h,Nat.add_comm]
def aZ(v:Nat):Nat→UInt8:=fun i=>UInt8.ofNat (v/256^i%256)
theorem dX(v i:Nat):(aZ v i).toNat=v/256^i%256:=by
 unfold aZ
 rw[UInt8.toNat_ofNat']
 omega
theorem iF(v i:Nat):wd v (i/8)/2^(8*(i%8))%256=v/256^i%256:=by
 unfold wd
 have hr:i%8<8:=Nat.mod_lt _ (by decide)
 have e:(18446744073709551616:Nat)=2^(8*(i%8))*(256*2^(56-8*(i%8))):=by
  rw[show (256:Nat)=2^8 from rfl,← Nat.pow_add,← Nat.pow_add,show 8*(i%8)+(8+(56-8*(i%8)))=64 by omega]
 rw[e,Nat.mod_mul_right_div_self,Nat.mod_mul_right_mod,Nat.div_div_eq_div_mul,pf]
theorem t4(v m:Nat):lv (aZ v) m=v%256^m:=by
 induction m with
 | zero=>simp[lv,Nat.mod_one]
 | succ m ih =>
  show lv (aZ v) m+(aZ v m).toNat*256^m=_
  rw[ih,dX,Nat.pow_succ,Nat.mod_mul,Nat.mul_comm (256^m)]
theorem kE{b c:Nat→UInt8}{m:Nat}(h:∀ i,i<m→b i=c i):lv b m=lv c m:=by
 induction m with
 | zero=>rfl
 | succ m ih =>
  show lv b m+(b m).toNat*256^m=lv c m+(c m).toNat*256^m
  rw[ih fun i hi=>h i (by omega),h m (by omega)]
theorem n0(b:Nat→UInt8):∀ (m i:Nat),i<m→aZ (lv b m) i=b i:=by
 intro m
 induction m with
 | zero=>intro i h;omega
 | succ m ih =>
  intro i hi
  have hb:=(b m).toNat_lt
  apply UInt8.toNat_inj.1
  rw[dX]
  show (lv b m+(b m).toNat*256^m)/256^i%256=_
  rcases Nat.lt_or_ge i m with h | h
  ·have e:256^m=256^i*(256*256^(m-i-1)):=by
    rw[← Nat.pow_succ',← Nat.pow_add];congr 1;omega
   rw[e,show (b m).toNat*(256^i*(256*256^(m-i-1)))=256^i*(256*((b m).toNat*256^(m-i-1))) by ac_rfl,Nat.add_mul_div_left _ _ (Nat.pow_pos (by decide)),Nat.add_mul_mod_self_left]
   rw[← dX,ih i h]
  ·obtain rfl:i=m:=by omega
   have hl:=gJ b i
   rw[Nat.mul_comm,Nat.add_mul_div_left _ _ (Nat.pow_pos (by decide)),Nat.div_eq_of_lt hl,Nat.zero_add,Nat.mod_eq_of_lt hb]
theorem kF(v x m k:Nat)(h:k<m):wd (v+x*2^(64*m)) k=wd v k:=by
 unfold wd
 have e:2^(64*m)=2^(64*k)*(18446744073709551616*2^(64*(m-k-1))):=by
  rw[show (18446744073709551616:Nat)=2^64 from rfl,← Nat.pow_add,← Nat.pow_add]
  congr 1;omega
 rw[e,show x*(2^(64*k)*(18446744073709551616*2^(64*(m-k-1))))=2^(64*k)*(18446744073709551616*(x*2^(64*(m-k-1)))) by ac_rfl,
  Nat.add_mul_div_left _ _ (bO k),Nat.add_mul_mod_self_left]
def pX(a b i j:Nat):Nat:=a%2^(64*i)*b+wd a i*(b%2^(64*j))*2^(64*i)
theorem iG(a b i:Nat):pX a b i 0=a%2^(64*i)*b:=by unfold pX;simp[Nat.mod_one]
theorem qz(a b i j:Nat):pX a b i (j+1)=pX a b i j+wd a i*wd b j*2^(64*(i+j)):=by
 unfold pX
 rw[fp b j,Nat.mul_add,Nat.add_mul,show 64*(i+j)=64*j+64*i by omega,Nat.pow_add]
 rw[show wd a i*(wd b j*2^(64*j))*2^(64*i)=wd a i*wd b j*(2^(64*j)*2^(64*i)) by ac_rfl]
 omega
theorem qA(a b i:Nat)(hb:b<2^256):pX a b i 4=pX a b (i+1) 0:=by
 rw[iG]
 unfold pX
 rw[fp a i,Nat.mod_eq_of_lt (show b<2^(64*4) from hb),Nat.add_mul]
 rw[show wd a i*b*2^(64*i)=wd a i*2^(64*i)*b by ac_rfl]
theorem wn(a b i j:Nat):pX a b i 0≤pX a b i j:=by
 rw[iG];unfold pX;omega
def pC(a b i j:Nat):Nat:=pX a b i j/2^(64*(i+j))-pX a b i 0/2^(64*(i+j))
theorem qB(a b i:Nat):pC a b i 0=0:=by unfold pC;omega
theorem qC(a b i j:Nat):(wd a i*wd b j+wd (pX a b i 0) (i+j)+pC a b i j)%18446744073709551616=wd (pX a b i (j+1)) (i+j) ∧
  (wd a i*wd b j+wd (pX a b i 0) (i+j)+pC a b i j)/18446744073709551616=pC a b i (j+1):=by
 have hm:pX a b i 0/2^(64*(i+j))≤pX a b i j/2^(64*(i+j)):=Nat.div_le_div_right (wn a b i j)
 have h1:pX a b i (j+1)/2^(64*(i+j))=pX a b i j/2^(64*(i+j))+wd a i*wd b j:=by
  rw[qz,Nat.mul_comm (wd a i*wd b j),Nat.add_mul_div_left _ _ (bO _)]
 unfold pC
 rw[show i+(j+1)=(i+j)+1 by omega,dm,← Nat.div_div_eq_div_mul,← Nat.div_div_eq_div_mul,h1]
 unfold wd at *
 rw[h1]
 generalize pX a b i j/2^(64*(i+j))=x at *
 generalize pX a b i 0/2^(64*(i+j))=y at *
 generalize (a/2^(64*i)%18446744073709551616)*(b/2^(64*j)%18446744073709551616)=p at *
 constructor<;>omega
theorem lZ(a b i j:Nat):wd a i*wd b j≤18446744073709551615*18446744073709551615:=Nat.mul_le_mul (by have:=cg a i;omega) (by have:=cg b j;omega)
theorem qD(a b i:Nat):∀ j,pC a b i j<18446744073709551616
 | 0=>by rw[qB];decide
 | j+1=>by
  have h:=qD a b i j
  rw[← (qC a b i j).2]
  have h1:=lZ a b i j
  have h2:=cg (pX a b i 0) (i+j)
  omega
theorem t5(a b i:Nat)(hb:b<2^256):pX a b i 0<2^(64*(i+4)):=by
 rw[iG,show 64*(i+4)=64*i+256 by omega,Nat.pow_add]
 have h:=dH a i
 rcases Nat.eq_zero_or_pos b with h0 | h0
 ·subst h0;rw[Nat.mul_zero];exact Nat.mul_pos (bO _) (by decide)
 ·exact Nat.lt_of_lt_of_le (Nat.mul_lt_mul_of_pos_right h h0) (Nat.mul_le_mul_left _ (Nat.le_of_lt hb))
theorem zl(a b:Nat)(ha:a<2^256):pX a b 4 0=a*b:=by rw[iG,Nat.mod_eq_of_lt (show a<2^(64*4) from ha)]
theorem wo(a b:Nat):pX a b 0 0=0:=by rw[iG];simp[Nat.mod_one]
def hC(H i:Nat):Nat:=38*(H%2^(64*i))/2^(64*i)
theorem wq(H:Nat):hC H 0=0:=by unfold hC;simp[Nat.mod_one]
theorem t6(H i:Nat):hC H i<38:=by
 unfold hC
 have h:=dH H i
 exact (Nat.div_lt_iff_lt_mul (bO i)).mpr (by omega)
theorem wr(H i:Nat):(wd H i*38+hC H i)%18446744073709551616=wd (38*H) i∧(wd H i*38+hC H i)/18446744073709551616=hC H (i+1):=by
 have h1:38*(H%2^(64*(i+1)))/2^(64*i)=wd H i*38+hC H i:=by
  unfold hC
  rw[fp,Nat.mul_add,show 38*(wd H i*2^(64*i))=2^(64*i)*(wd H i*38) by ac_rfl,Nat.add_mul_div_left _ _ (bO i)]
  omega
 constructor
 ·rw[← h1]
  have h2:wd (38*(H%2^(64*(i+1)))) i=wd (38*H) i:=by
   rw[← pd (38*H) i (i+1) (by omega),← pd (38*(H%2^(64*(i+1)))) i (i+1) (by omega),Nat.mul_mod_mod]
  exact h2
 ·rw[← h1,Nat.div_div_eq_div_mul,← dm]
  rfl
theorem Bp(L i:Nat):wd L (i+4)=wd (L/2^256) i:=by
 unfold wd
 rw[Nat.div_div_eq_div_mul,← Nat.pow_add,show 256+64*i=64*(i+4) by omega]
def tm(a b:Nat):Nat:=fv (f1 (a*b))
theorem mK{a b:Nat}(ha:a<2^256)(hb:b<2^256):a*b<2^256*2^256:=by
 rcases Nat.eq_zero_or_pos b with h0 | h0
 ·subst h0;rw[Nat.mul_zero];decide
 ·have h1:a*b<2^256*b:=Nat.mul_lt_mul_of_pos_right ha h0
  have h2:2^256*b≤2^256*2^256:=Nat.mul_le_mul_left _ (Nat.le_of_lt hb)
  exact Nat.lt_of_lt_of_le h1 h2
theorem qE{L:Nat}(h:L<2^256*2^256):f1 L<2^320:=by
 unfold f1
 have h2:L/2^256<2^256:=by omega
 have h3:L%2^256<2^256:=Nat.mod_lt _ (by decide)
 omega
theorem aY{a b:Nat}(ha:a<2^256)(hb:b<2^256):tm a b<2^256:=nY (qE (mK ha hb))
theorem t7(a b:Nat):tm a b%pN=a*b%pN:=by unfold tm;rw[tZ,pe]
theorem zo(L:Nat)(hL:L<2^256*2^256):(L+38*(L/2^256))%2^256+2^256*(hC (L/2^256) 4+cry L (38*(L/2^256)) 4)=f1 L:=by
 have hH:L/2^256<2^256:=by omega
 unfold hC cry f1
 rw[show 64*4=256 from rfl,Nat.mod_eq_of_lt hH]
 generalize hHd:L/2^256=H at *
 generalize hl:L%2^256=l at *
 have e:L=2^256*H+l:=by rw[← hHd,← hl];omega
 have hll:l<2^256:=by rw[← hl];exact Nat.mod_lt _ (by decide)
 rw[e]
 omega
def fq(x b:Nat):Nat:=wd (x*wd b 0) 0+wd (x*wd b 1) 0*2^64+wd (x*wd b 2) 0*2^128+wd (x*wd b 3) 0*2^192
def eo(x b:Nat):Nat:=wd (x*wd b 0) 1*2^64+wd (x*wd b 1) 1*2^128+wd (x*wd b 2) 1*2^192+wd (x*wd b 3) 1*2^256
theorem qF(x b:Nat):wd (fq x b) 0=wd (x*wd b 0) 0∧wd (fq x b) 1=wd (x*wd b 1) 0∧wd (fq x b) 2=wd (x*wd b 2) 0∧wd (fq x b) 3=wd (x*wd b 3) 0∧fq x b<2^256:=by
 have h0:=cg (x*wd b 0) 0
 have h1:=cg (x*wd b 1) 0
 have h2:=cg (x*wd b 2) 0
 have h3:=cg (x*wd b 3) 0
 unfold fq
 generalize wd (x*wd b 0) 0=p0 at *
 generalize wd (x*wd b 1) 0=p1 at *
 generalize wd (x*wd b 2) 0=p2 at *
 generalize wd (x*wd b 3) 0=p3 at *
 unfold wd
 refine ⟨by omega,by omega,by omega,by omega,by omega⟩
theorem n4(x b:Nat):wd (eo x b) 0=0∧wd (eo x b) 1=wd (x*wd b 0) 1∧wd (eo x b) 2=wd (x*wd b 1) 1∧wd (eo x b) 3=wd (x*wd b 2) 1∧eo x b/2^256=wd (x*wd b 3) 1:=by
 have h0:=cg (x*wd b 0) 1
 have h1:=cg (x*wd b 1) 1
 have h2:=cg (x*wd b 2) 1
 have h3:=cg (x*wd b 3) 1
 unfold eo
 generalize wd (x*wd b 0) 1=p0 at *
 generalize wd (x*wd b 1) 1=p1 at *
 generalize wd (x*wd b 2) 1=p2 at *
 generalize wd (x*wd b 3) 1=p3 at *
 unfold wd
 refine ⟨by omega,by omega,by omega,by omega,by omega⟩
theorem gv{P:Nat}(h:P≤18446744073709551615*18446744073709551615):P=wd P 0+wd P 1*2^64:=by
 unfold wd;omega
theorem pg{v:Nat}(h:v<2^256):wd v 0+wd v 1*2^64+wd v 2*2^128+wd v 3*2^192=v:=by
 unfold wd;omega
theorem qG(x b:Nat)(hx:x<18446744073709551616)(hb:b<2^256):fq x b+eo x b=x*b:=by
 have hs:=pg hb
 have k:∀ i,x*wd b i≤18446744073709551615*18446744073709551615:=fun i=>Nat.mul_le_mul (by omega) (by have:=cg b i;omega)
 have t0:=gv (k 0)
 have t1:=gv (k 1)
 have t2:=gv (k 2)
 have t3:=gv (k 3)
 have e:x*b=x*wd b 0+x*wd b 1*2^64+x*wd b 2*2^128+x*wd b 3*2^192:=by
  conv=>lhs;rw[← hs]
  rw[Nat.mul_add,Nat.mul_add,Nat.mul_add,← Nat.mul_assoc,← Nat.mul_assoc,← Nat.mul_assoc]
 rw[e]
 unfold fq eo
 generalize x*wd b 0=q0 at *
 generalize x*wd b 1=q1 at *
 generalize x*wd b 2=q2 at *
 generalize x*wd b 3=q3 at *
 generalize wd q0 0=l0 at *
 generalize wd q1 0=l1 at *
 generalize wd q2 0=l2 at *
 generalize wd q3 0=l3 at *
 generalize wd q0 1=u0 at *
 generalize wd q1 1=u1 at *
 generalize wd q2 1=u2 at *
 generalize wd q3 1=u3 at *
 omega
theorem t8(x b S:Nat)(hx:x<18446744073709551616)(hb:b<2^256)(hS:S<2^256):S+x*b<2^320:=by
 have:x*b≤18446744073709551615*(2^256-1):=Nat.mul_le_mul (by omega) (by omega)
 omega
theorem t9(x b:Nat)(hx:x<18446744073709551616)(hb:b<2^256):cry (fq x b) (eo x b) 1=0∧wd (x*wd b 3) 1+cry (fq x b) (eo x b) 4=wd (x*b) 4∧wd (x*b) 0=wd (fq x b) 0:=by
 obtain ⟨a0,a1,a2,a3,a4⟩:=qF x b
 obtain ⟨b0,b1,b2,b3,b4⟩:=n4 x b
 have hm:=qG x b hx hb
 have hl:=t8 x b 0 hx hb (by decide)
 have hd:=iE (fq x b) (eo x b) 4
 rw[show (2:Nat)^(64*4)=2^256 from rfl,hm,b4,Nat.div_eq_of_lt a4]at hd
 refine ⟨?_,?_,?_⟩
 ·unfold cry
  have e:eo x b%2^(64*1)=0:=by
   have:=b0
   unfold wd at this
   rw[show (2:Nat)^(64*0)=1 from rfl,Nat.div_one]at this
   rw[show (2:Nat)^(64*1)=18446744073709551616 by decide]
   exact this
  rw[e,Nat.add_zero]
  exact Nat.div_eq_of_lt (dH (fq x b) 1)
 ·have:wd (x*b) 4=x*b/2^256:=by
   unfold wd
   rw[show (2:Nat)^(64*4)=2^256 from rfl]
   clear hd hm a0 a1 a2 a3 a4 b0 b1 b2 b3 b4
   generalize x*b=m at *
   omega
  rw[this,hd,Nat.zero_add]
 ·have h1:=ky (fq x b) (eo x b) 0
  rw[hm,b0,iD]at h1
  have h2:=cg (fq x b) 0
  clear hd hm a0 a1 a2 a3 a4 b0 b1 b2 b3 b4 hl
  rw[← h1]
  clear h1
  generalize wd (fq x b) 0=v at *
  omega
theorem ua(x b S:Nat)(hx:x<18446744073709551616)(hb:b<2^256)(hS:S<2^256):wd (x*b) 4+cry (x*b) S 4=wd (x*b+S) 4:=by
 have hl:=t8 x b S hx hb hS
 have hd:=iE (x*b) S 4
 rw[show (2:Nat)^(64*4)=2^256 from rfl,Nat.div_eq_of_lt hS]at hd
 unfold wd
 rw[show (2:Nat)^(64*4)=2^256 from rfl]
 generalize cry (x*b) S 4=c at *
 generalize x*b=m at *
 omega
theorem ep(V i:Nat):wd (V/18446744073709551616) i=wd V (i+1):=by
 unfold wd
 rw[dm,Nat.div_div_eq_div_mul,Nat.mul_comm (2^(64*i))]
theorem uc(a b i:Nat):(a%2^(64*i)*b/2^(64*i)+wd a i*b)=a%2^(64*(i+1))*b/2^(64*i):=by
 rw[fp,Nat.add_mul,show wd a i*2^(64*i)*b=2^(64*i)*(wd a i*b) by ac_rfl,Nat.add_mul_div_left _ _ (bO i)]
theorem ws(a b i:Nat):wd (a%2^(64*(i+1))*b/2^(64*i)) 0=wd (a*b) i:=by
 have h:a*b=a%2^(64*(i+1))*b+a/2^(64*(i+1))*b*2^(64*(i+1)):=by
  have hd:=Nat.div_add_mod a (2^(64*(i+1)))
  generalize 2^(64*(i+1))=K at *
  generalize a/K=q at *
  generalize a%K=r at *
  rw[← hd,Nat.add_mul,Nat.add_comm,show K*q*b=q*b*K by ac_rfl]
 rw[h,kF (a%2^(64*(i+1))*b) (a/2^(64*(i+1))*b) (i+1) i (by omega)]
 unfold wd
 rw[show (2:Nat)^(64*0)=1 from rfl,Nat.div_one]
theorem ud(a b i:Nat):a%2^(64*(i+1))*b/2^(64*i)/18446744073709551616=a%2^(64*(i+1))*b/2^(64*(i+1)):=by
 rw[Nat.div_div_eq_div_mul,← dm]
theorem n5(a b i:Nat)(hb:b<2^256):a%2^(64*i)*b/2^(64*i)<2^256:=by
 have h:=dH a i
 apply (Nat.div_lt_iff_lt_mul (bO i)).mpr
 rcases Nat.eq_zero_or_pos b with h0 | h0
 ·subst h0;rw[Nat.mul_zero];exact Nat.mul_pos (by decide) (bO i)
 ·rw[Nat.mul_comm (2^256)]
  exact Nat.lt_of_lt_of_le (Nat.mul_lt_mul_of_pos_right h h0) (Nat.mul_le_mul_left _ (Nat.le_of_lt hb))
section
structure Edw{n:Nat}[NeZero n](d:Fin n)(iv:Fin n→Fin n):Prop where
 dom:∀ x y:Fin n,x*y=0→x=0∨y=0
 two:(1:Fin n)+1≠0
 inv:∀ x:Fin n,x≠0→x*iv x=1
 nsq:∀ s t:Fin n,s*s=d*(t*t)→t=0
def OnE{n:Nat}[NeZero n](d:Fin n)(P:Fin n×Fin n):Prop:=P.1*P.1+P.2*P.2=1+d*(P.1*P.1)*(P.2*P.2)
def tE{n:Nat}[NeZero n](d:Fin n)(P Q:Fin n×Fin n):Fin n:=d*P.1*Q.1*P.2*Q.2
def dp{n:Nat}[NeZero n](d:Fin n)(iv:Fin n→Fin n)(P Q:Fin n×Fin n):Fin n×Fin n :=
 ((P.1*Q.2+Q.1*P.2)*iv (1+tE d P Q),(P.2*Q.2-P.1*Q.1)*iv (1-tE d P Q))
def zeroE{n:Nat}[NeZero n]:Fin n×Fin n:=(0,1)
def cl{n:Nat}[NeZero n](d:Fin n)(iv:Fin n→Fin n)(P:Fin n×Fin n):Nat→Fin n×Fin n
 | 0=>zeroE
 | k+1=>dp d iv (cl d iv P k) P
section
variable{n:Nat}[NeZero n]{d:Fin n}{iv:Fin n→Fin n}
theorem Edw.cancel(E:Edw d iv){a x y:Fin n}(ha:a≠0)(h:x*a=y*a):x=y:=by
 have h1:a*(x-y)=0:=by grind
 rcases E.dom a (x-y) h1 with h2 | h2
 ·exact absurd h2 ha
 ·grind
theorem Edw.nz2(E:Edw d iv){a b:Fin n}(ha:a≠0)(hb:b≠0):a*b≠0:=by
 intro h
 rcases E.dom a b h with h | h
 ·exact ha h
 ·exact hb h
theorem Edw.ne_aux(E:Edw d iv){x1 y1 x2 y2 e:Fin n}(h1:x1*x1+y1*y1=1+d*(x1*x1)*(y1*y1))(h2:x2*x2+y2*y2=1+d*(x2*x2)*(y2*y2))
  (he:e*e=1) (ht:d*x1*x2*y1*y2=e):False:=by
 have e0:e≠0:=by rintro rfl;have:=E.two;apply this;grind
 have key:∀ s:Fin n,s*s=1→(x1+s*e*y1)*(x1+s*e*y1)=d*((x1*y1*(x2+s*y2))*(x1*y1*(x2+s*y2))):=by
  intro s hs
  grind
 have k1:=E.nsq _ _ (key 1 (by grind))
 have k2:=E.nsq _ _ (key (-1) (by grind))
 have hx1:x1≠0:=by rintro rfl;apply e0;grind
 have hy1:y1≠0:=by rintro rfl;apply e0;grind
 have hx2:x2≠0:=by rintro rfl;apply e0;grind
 have hxy:=E.nz2 hx1 hy1
 have z1:x2+y2=0:=by
  rcases E.dom _ _ k1 with h | h
  ·exact absurd h hxy
  ·grind
 have z2:x2-y2=0:=by
  rcases E.dom _ _ k2 with h | h
  ·exact absurd h hxy
  ·grind
 have z3:(1+1)*x2=0:=by grind
 rcases E.dom _ _ z3 with h | h
 ·exact E.two h
 ·exact hx2 h
theorem Edw.plus_nz(E:Edw d iv){P Q:Fin n×Fin n}(hP:OnE d P)(hQ:OnE d Q):1+tE d P Q≠0:=by
 intro h
 exact E.ne_aux (e := -1) hP hQ (by grind) (by unfold tE at h;grind)
theorem Edw.minus_nz(E:Edw d iv){P Q:Fin n×Fin n}(hP:OnE d P)(hQ:OnE d Q):1-tE d P Q≠0:=by
 intro h
 exact E.ne_aux (e:=1) hP hQ (by grind) (by unfold tE at h;grind)
theorem Edw.sum_x(E:Edw d iv){P Q:Fin n×Fin n}(hP:OnE d P)(hQ:OnE d Q):(dp d iv P Q).1*(1+tE d P Q)=P.1*Q.2+Q.1*P.2:=by
 have h:=E.inv _ (E.plus_nz hP hQ)
 show (P.1*Q.2+Q.1*P.2)*iv (1+tE d P Q)*(1+tE d P Q)=_
 grind
theorem Edw.sum_y(E:Edw d iv){P Q:Fin n×Fin n}(hP:OnE d P)(hQ:OnE d Q):(dp d iv P Q).2*(1-tE d P Q)=P.2*Q.2-P.1*Q.1:=by
 have h:=E.inv _ (E.minus_nz hP hQ)
 show (P.2*Q.2-P.1*Q.1)*iv (1-tE d P Q)*(1-tE d P Q)=_
 grind
theorem ph(d x1 y1 x2 y2:Fin n)(h1:x1*x1+y1*y1=1+d*(x1*x1)*(y1*y1))(h2:x2*x2+y2*y2=1+d*(x2*x2)*(y2*y2)):
  ((x1*y2+x2*y1)*(1-d*x1*x2*y1*y2))*((x1*y2+x2*y1)*(1-d*x1*x2*y1*y2))+((y1*y2-x1*x2)*(1+d*x1*x2*y1*y2))*((y1*y2-x1*x2)*(1+d*x1*x2*y1*y2))
  = ((1+d*x1*x2*y1*y2)*(1-d*x1*x2*y1*y2))*((1+d*x1*x2*y1*y2)*(1-d*x1*x2*y1*y2))+d*(((x1*y2+x2*y1)*(y1*y2-x1*x2))*((x1*y2+x2*y1)*(y1*y2-x1*x2))):=by
 grind
theorem Edw.closed(E:Edw d iv){P Q:Fin n×Fin n}(hP:OnE d P)(hQ:OnE d Q):OnE d (dp d iv P Q):=by
 have hx:=E.sum_x hP hQ
 have hy:=E.sum_y hP hQ
 have n1:=E.plus_nz hP hQ
 have n2:=E.minus_nz hP hQ
 unfold OnE
 generalize (dp d iv P Q).1=x at *
 generalize (dp d iv P Q).2=y at *
 have key:=ph d P.1 P.2 Q.1 Q.2 hP hQ
 unfold tE at *
 generalize P.1*Q.2+Q.1*P.2=a at *
 generalize P.2*Q.2-P.1*Q.1=b at *
 generalize d*P.1*Q.1*P.2*Q.2=t at *
 have nz:=E.nz2 (E.nz2 n1 n2) (E.nz2 n1 n2)
 refine E.cancel nz ?_
 subst hx;subst hy
 grind
theorem wt(d x1 y1 x2 y2 x3 y3:Fin n)(h1:x1*x1+y1*y1=1+d*(x1*x1)*(y1*y1))(h2:x2*x2+y2*y2=1+d*(x2*x2)*(y2*y2))(h3:x3*x3+y3*y3=1+d*(x3*x3)*(y3*y3)):
  ((x1*y2+x2*y1)*y3*(1-d*x1*x2*y1*y2)+x3*(y1*y2-x1*x2)*(1+d*x1*x2*y1*y2)) *
   ((1-(d*x2*x3*y2*y3)*(d*x2*x3*y2*y3))+d*((x2*y3+x3*y2)*(y2*y3-x2*x3)*x1*y1)) =
  ((x2*y3+x3*y2)*y1*(1-d*x2*x3*y2*y3)+x1*(y2*y3-x2*x3)*(1+d*x2*x3*y2*y3)) *
   ((1-(d*x1*x2*y1*y2)*(d*x1*x2*y1*y2))+d*((x1*y2+x2*y1)*(y1*y2-x1*x2)*x3*y3)):=by
 grind
theorem wu(d x1 y1 x2 y2 x3 y3:Fin n)(h1:x1*x1+y1*y1=1+d*(x1*x1)*(y1*y1))(h2:x2*x2+y2*y2=1+d*(x2*x2)*(y2*y2))(h3:x3*x3+y3*y3=1+d*(x3*x3)*(y3*y3)):
  ((y1*y2-x1*x2)*y3*(1+d*x1*x2*y1*y2)-x3*(x1*y2+x2*y1)*(1-d*x1*x2*y1*y2)) *
   ((1-(d*x2*x3*y2*y3)*(d*x2*x3*y2*y3))-d*((x2*y3+x3*y2)*(y2*y3-x2*x3)*x1*y1)) =
  ((y2*y3-x2*x3)*y1*(1+d*x2*x3*y2*y3)-x1*(x2*y3+x3*y2)*(1-d*x2*x3*y2*y3)) *
   ((1-(d*x1*x2*y1*y2)*(d*x1*x2*y1*y2))-d*((x1*y2+x2*y1)*(y1*y2-x1*x2)*x3*y3)):=by
 grind
end
end
section
section
variable{n:Nat}[NeZero n]{d:Fin n}{iv:Fin n→Fin n}
theorem wv:OnE d (zeroE:Fin n×Fin n):=by
 show (0:Fin n)*0+1*1=1+d*(0*0)*(1*1)
 grind
theorem Edw.iv1(E:Edw d iv):iv 1=1:=by
 have h:(1:Fin n)≠0:=by intro h;apply E.two;grind
 have:=E.inv 1 h
 grind
theorem gx(P Q:Fin n×Fin n):dp d iv P Q=dp d iv Q P:=by
 have h:tE d P Q=tE d Q P:=by unfold tE;grind
 have h1:P.1*Q.2+Q.1*P.2=Q.1*P.2+P.1*Q.2:=by grind
 have h2:P.2*Q.2-P.1*Q.1=Q.2*P.2-Q.1*P.1:=by grind
 show ((P.1*Q.2+Q.1*P.2)*iv (1+tE d P Q),(P.2*Q.2-P.1*Q.1)*iv (1-tE d P Q))=((Q.1*P.2+P.1*Q.2)*iv (1+tE d Q P),(Q.2*P.2-Q.1*P.1)*iv (1-tE d Q P))
 rw[h,h1,h2]
theorem Edw.zero_add(E:Edw d iv)(P:Fin n×Fin n):dp d iv zeroE P=P:=by
 have h:tE d zeroE P=0:=by unfold tE zeroE;grind
 show (((0:Fin n)*P.2+P.1*1)*iv (1+tE d zeroE P),((1:Fin n)*P.2-0*P.1)*iv (1-tE d zeroE P))=P
 rw[h]
 have h1:(1:Fin n)+0=1:=by grind
 have h2:(1:Fin n)-0=1:=by grind
 rw[h1,h2,E.iv1]
 have h3:((0:Fin n)*P.2+P.1*1)*1=P.1:=by grind
 have h4:((1:Fin n)*P.2-0*P.1)*1=P.2:=by grind
 rw[h3,h4]
theorem Edw.add_zero(E:Edw d iv)(P:Fin n×Fin n):dp d iv P zeroE=P:=by rw[gx,E.zero_add]
theorem qH{x t1 a b y3 x3 X Y d:Fin n}(hX:X*(1+t1)=a)(hY:Y*(1-t1)=b)(hx:x*(1+d*X*x3*Y*y3)=X*y3+x3*Y):
  x*((1-t1*t1)+d*(a*b*x3*y3))=a*y3*(1-t1)+x3*b*(1+t1):=by
 subst hX;subst hY
 grind
theorem qI{y t1 a b y3 x3 X Y d:Fin n}(hX:X*(1+t1)=a)(hY:Y*(1-t1)=b)(hy:y*(1-d*X*x3*Y*y3)=Y*y3-X*x3):
  y*((1-t1*t1)-d*(a*b*x3*y3))=b*y3*(1+t1)-x3*a*(1-t1):=by
 subst hX;subst hY
 grind
theorem Edw.three_nzp(E:Edw d iv){P Q R:Fin n×Fin n}(hP:OnE d P)(hQ:OnE d Q)(hR:OnE d R):
  (1-tE d P Q*tE d P Q)+d*((P.1*Q.2+Q.1*P.2)*(P.2*Q.2-P.1*Q.1)*R.1*R.2)≠0:=by
 have hx:=E.sum_x hP hQ
 have hy:=E.sum_y hP hQ
 have n1:=E.plus_nz hP hQ
 have n2:=E.minus_nz hP hQ
 have n3:=E.plus_nz (E.closed hP hQ) hR
 unfold tE at n3
 generalize (dp d iv P Q).1=X at *
 generalize (dp d iv P Q).2=Y at *
 generalize tE d P Q=t at *
 rw[← hx,← hy]
 have:=E.nz2 (E.nz2 n1 n2) n3
 intro h;apply this
 clear hx hy n1 n2 n3 this
 grind
theorem Edw.three_nzm(E:Edw d iv){P Q R:Fin n×Fin n}(hP:OnE d P)(hQ:OnE d Q)(hR:OnE d R):
  (1-tE d P Q*tE d P Q)-d*((P.1*Q.2+Q.1*P.2)*(P.2*Q.2-P.1*Q.1)*R.1*R.2)≠0:=by
 have hx:=E.sum_x hP hQ
 have hy:=E.sum_y hP hQ
 have n1:=E.plus_nz hP hQ
 have n2:=E.minus_nz hP hQ
 have n3:=E.minus_nz (E.closed hP hQ) hR
 unfold tE at n3
 generalize (dp d iv P Q).1=X at *
 generalize (dp d iv P Q).2=Y at *
 generalize tE d P Q=t at *
 rw[← hx,← hy]
 have:=E.nz2 (E.nz2 n1 n2) n3
 intro h;apply this
 clear hx hy n1 n2 n3 this
 grind
theorem qJ{L R A B NL NR:Fin n}(h1:L*A=NL)(h2:R*B=NR)(h3:NL*B=NR*A):L*(A*B)=R*(A*B):=by
 subst h1;subst h2
 grind
theorem Edw.assoc(E:Edw d iv){P Q R:Fin n×Fin n}(hP:OnE d P)(hQ:OnE d Q)(hR:OnE d R):
  dp d iv (dp d iv P Q) R=dp d iv P (dp d iv Q R):=by
 have hPQ:=E.closed hP hQ
 have hQR:=E.closed hQ hR
 have l:=E.sum_x hPQ hR
 have l':=E.sum_y hPQ hR
 have r:=E.sum_x hQR hP
 have r':=E.sum_y hQR hP
 unfold tE at l l' r r'
 have lx:=qH (E.sum_x hP hQ) (E.sum_y hP hQ) l
 have ly:=qI (E.sum_x hP hQ) (E.sum_y hP hQ) l'
 have rx:=qH (E.sum_x hQ hR) (E.sum_y hQ hR) r
 have ry:=qI (E.sum_x hQ hR) (E.sum_y hQ hR) r'
 have ax:=wt d P.1 P.2 Q.1 Q.2 R.1 R.2 hP hQ hR
 have ay:=wu d P.1 P.2 Q.1 Q.2 R.1 R.2 hP hQ hR
 have nl:=E.three_nzp hP hQ hR
 have nl':=E.three_nzm hP hQ hR
 have nr:=E.three_nzp hQ hR hP
 have nr':=E.three_nzm hQ hR hP
 rw[gx P (dp d iv Q R)]
 unfold tE at lx ly rx ry nl nl' nr nr'
 have e1:=E.cancel (E.nz2 nl nr) (qJ lx rx ax)
 have e2:=E.cancel (E.nz2 nl' nr') (qJ ly ry ay)
 exact Prod.ext e1 e2
theorem Edw.mul_on(E:Edw d iv){P:Fin n×Fin n}(hP:OnE d P):∀ k,OnE d (cl d iv P k)
 | 0=>wv
 | k+1=>E.closed (E.mul_on hP k) hP
theorem Edw.mul_one(E:Edw d iv)(P:Fin n×Fin n):cl d iv P 1=P:=E.zero_add P
theorem Edw.mul_add(E:Edw d iv){P:Fin n×Fin n}(hP:OnE d P)(a:Nat):∀ b,cl d iv P (a+b)=dp d iv (cl d iv P a) (cl d iv P b)
 | 0=>(E.add_zero _).symm
 | b+1=>by
  show dp d iv (cl d iv P (a+b)) P=dp d iv (cl d iv P a) (dp d iv (cl d iv P b) P)
  rw[E.mul_add hP a b,E.assoc (E.mul_on hP a) (E.mul_on hP b) hP]
theorem Edw.mul_mul(E:Edw d iv){P:Fin n×Fin n}(hP:OnE d P)(a:Nat):∀ b,cl d iv (cl d iv P a) b=cl d iv P (a*b)
 | 0=>rfl
 | b+1=>by
  show dp d iv (cl d iv (cl d iv P a) b) (cl d iv P a)=_
  rw[E.mul_mul hP a b,← E.mul_add hP,Nat.mul_succ]
end
end
section
def jL{n:Nat}[NeZero n](a X Z:Fin n):Fin n×Fin n :=
 (((X+Z)*(X+Z))*((X-Z)*(X-Z)),((X+Z)*(X+Z)-(X-Z)*(X-Z))*((X+Z)*(X+Z)+a*((X+Z)*(X+Z)-(X-Z)*(X-Z))))
def jM{n:Nat}[NeZero n](u X Z X' Z':Fin n):Fin n×Fin n :=
  (((X-Z)*(X'+Z')+(X+Z)*(X'-Z'))*((X-Z)*(X'+Z')+(X+Z)*(X'-Z')),
   u*(((X-Z)*(X'+Z')-(X+Z)*(X'-Z'))*((X-Z)*(X'+Z')-(X+Z)*(X'-Z'))))
def di{n:Nat}[NeZero n](a u:Fin n)(bit:Bool)(S:(Fin n×Fin n)×(Fin n×Fin n)):(Fin n×Fin n)×(Fin n×Fin n) :=
 if bit then (jM u S.2.1 S.2.2 S.1.1 S.1.2,jL a S.2.1 S.2.2) else (jL a S.1.1 S.1.2,jM u S.1.1 S.1.2 S.2.1 S.2.2)
def ladTo{n:Nat}[NeZero n](a u:Fin n)(N k:Nat):Nat→(Fin n×Fin n)×(Fin n×Fin n)
 | 0=>((1,0),(u,1))
 | i+1=>di a u (k/2^(N-(i+1))%2 == 1) (ladTo a u N k i)
def eN{n:Nat}[NeZero n](iv:Fin n→Fin n)(a u:Fin n)(N k:Nat):Fin n:=(ladTo a u N k N).1.1*iv (ladTo a u N k N).1.2
def uOf{n:Nat}[NeZero n](iv:Fin n→Fin n)(P:Fin n×Fin n):Fin n:=(1+P.2)*iv (1-P.2)
def ll{n:Nat}[NeZero n](S P:Fin n×Fin n):Prop:=S.1+S.2≠0∧S.1-S.2=P.2*(S.1+S.2)
section
variable{n:Nat}[NeZero n]{d:Fin n}{iv:Fin n→Fin n}
theorem Edw.one_nz(E:Edw d iv):(1:Fin n)≠0:=by intro h;apply E.two;grind
theorem Edw.d1(E:Edw d iv):1-d≠0:=by
 intro h
 exact E.one_nz (E.nsq 1 1 (by grind))
theorem Edw.dsq(E:Edw d iv)(y:Fin n):1-d*(y*y)≠0:=by
 intro h
 have:=E.nsq 1 y (by grind)
 subst this
 exact E.one_nz (by grind)
theorem ww(d x y Y:Fin n)(hP:x*x+y*y=1+d*(x*x)*(y*y))(hY:Y*(1-d*x*x*y*y)=y*y-x*x):
  (1-d*x*x*y*y)*(1-d*(y*y))*(Y*(y*y*(1-d)+(1-y*y)*(1-d*(y*y)))-(y*y*(1-d)-(1-y*y)*(1-d*(y*y))))=0:=by
 grind
theorem ue(d x y:Fin n)(hP:x*x+y*y=1+d*(x*x)*(y*y)):
  y*y*(1-d)+(1-y*y)*(1-d*(y*y))=(1-d*x*x*y*y)*(1-d*(y*y)):=by
 grind
theorem wx(a d s y Y:Fin n)(ha:a*(1-d)=d)(h:Y*(y*y*(1-d)+(1-y*y)*(1-d*(y*y)))=y*y*(1-d)-(1-y*y)*(1-d*(y*y))):
  ((s*s)*((y*s)*(y*s))-(s*s-(y*s)*(y*s))*(s*s+a*(s*s-(y*s)*(y*s))))*(1-d)
   = Y*((s*s)*((y*s)*(y*s))+(s*s-(y*s)*(y*s))*(s*s+a*(s*s-(y*s)*(y*s))))*(1-d):=by
 have e1:((s*s)*((y*s)*(y*s))-(s*s-(y*s)*(y*s))*(s*s+a*(s*s-(y*s)*(y*s))))*(1-d)=s*s*s*s*(y*y*(1-d)-(1-y*y)*(1-d*(y*y))):=by grind
 have e2:((s*s)*((y*s)*(y*s))+(s*s-(y*s)*(y*s))*(s*s+a*(s*s-(y*s)*(y*s))))*(1-d)=s*s*s*s*(y*y*(1-d)+(1-y*y)*(1-d*(y*y))):=by grind
 grind
theorem Edw.double(E:Edw d iv){a:Fin n}(ha:a*(1-d)=d){P S:Fin n×Fin n}(hP:OnE d P)(h:ll S P):ll (jL a S.1 S.2) (dp d iv P P):=by
 obtain ⟨h1,h2⟩:=h
 have hy:=E.sum_y hP hP
 have n2:=E.minus_nz hP hP
 unfold tE at hy n2
 have n3:=E.dsq P.2
 have k:=ww d P.1 P.2 _ hP hy
 have k2:=ue d P.1 P.2 hP
 have hk:(dp d iv P P).2*(P.2*P.2*(1-d)+(1-P.2*P.2)*(1-d*(P.2*P.2)))=P.2*P.2*(1-d)-(1-P.2*P.2)*(1-d*(P.2*P.2)):=by
  rcases E.dom _ _ k with h | h
  ·exact absurd h (E.nz2 n2 n3)
  ·generalize (dp d iv P P).2*(P.2*P.2*(1-d)+(1-P.2*P.2)*(1-d*(P.2*P.2)))=l at *
   clear k k2 hy n2 n3 hP
   grind
 have al:=wx a d (S.1+S.2) P.2 _ ha hk
 rw[← h2]at al
 refine ⟨?_,E.cancel E.d1 al⟩
 intro h0
 have h0':((S.1+S.2)*(S.1+S.2))*((S.1-S.2)*(S.1-S.2))+((S.1+S.2)*(S.1+S.2)-(S.1-S.2)*(S.1-S.2))*((S.1+S.2)*(S.1+S.2)+a*((S.1+S.2)*(S.1+S.2)-(S.1-S.2)*(S.1-S.2)))=0:=h0
 rw[h2]at h0'
 have nz:=E.nz2 (E.nz2 (E.nz2 h1 h1) (E.nz2 h1 h1)) (E.nz2 n2 n3)
 rw[← k2]at nz
 apply nz
 generalize S.1+S.2=s at *
 generalize P.2=y at *
 clear al hk k k2 hy n2 n3 h2 h0 nz
 grind
def sB(P:Fin n×Fin n):Fin n×Fin n:=(-P.1,P.2)
theorem gT{P:Fin n×Fin n}(h:OnE d P):OnE d (sB P):=by
 unfold OnE at *
 show (-P.1)*(-P.1)+P.2*P.2=1+d*((-P.1)*(-P.1))*(P.2*P.2)
 grind
theorem Edw.add_neg(E:Edw d iv){P:Fin n×Fin n}(h:OnE d P):dp d iv P (sB P)=zeroE:=by
 have hx:=E.sum_x h (gT h)
 have hy:=E.sum_y h (gT h)
 have n1:=E.plus_nz h (gT h)
 have n2:=E.minus_nz h (gT h)
 unfold OnE at h
 unfold tE sB at *
 refine Prod.ext (E.cancel n1 ?_) (E.cancel n2 ?_)
 ·rw[hx];show P.1*P.2+(-P.1)*P.2=0*_;grind
 ·rw[hy];show P.2*P.2-P.1*(-P.1)=1*_;grind
theorem Edw.less(E:Edw d iv){P Q g:Fin n×Fin n}(hP:OnE d P)(hg:OnE d g)(h:Q=dp d iv P g):dp d iv Q (sB P)=g:=by
 rw[h,gx P g,E.assoc hg hP (gT hP),E.add_neg hP,E.add_zero]
theorem uf(d x1 y1 x2 y2 S G:Fin n)(h1:x1*x1+y1*y1=1+d*(x1*x1)*(y1*y1))(h2:x2*x2+y2*y2=1+d*(x2*x2)*(y2*y2))
  (hS:S*(1-d*x1*x2*y1*y2)=y1*y2-x1*x2) (hG:G*(1+d*x1*x2*y1*y2)=y1*y2+x1*x2) :
  ((1+S)*(1+G)*((y1-y2)*(y1-y2)))*((1-d*x1*x2*y1*y2)*(1+d*x1*x2*y1*y2))
   = ((1-S)*(1-G)*((y1+y2)*(y1+y2)))*((1-d*x1*x2*y1*y2)*(1+d*x1*x2*y1*y2)):=by
 have e1:((1+S)*(1+G)*((y1-y2)*(y1-y2)))*((1-d*x1*x2*y1*y2)*(1+d*x1*x2*y1*y2))
   = ((1-d*x1*x2*y1*y2)+(y1*y2-x1*x2))*((1+d*x1*x2*y1*y2)+(y1*y2+x1*x2))*((y1-y2)*(y1-y2)):=by
  rw[← hS,← hG];clear h1 h2 hS hG;grind
 have e2:((1-S)*(1-G)*((y1+y2)*(y1+y2)))*((1-d*x1*x2*y1*y2)*(1+d*x1*x2*y1*y2))
   = ((1-d*x1*x2*y1*y2)-(y1*y2-x1*x2))*((1+d*x1*x2*y1*y2)-(y1*y2+x1*x2))*((y1+y2)*(y1+y2)):=by
  rw[← hS,← hG];clear h1 h2 hS hG;grind
 rw[e1,e2]
 clear e1 e2 hS hG
 grind
theorem ug(u y1 y2 k S G:Fin n)(hu:u*(1-G)=1+G)(h:(1+S)*(1+G)*((y1-y2)*(y1-y2))=(1-S)*(1-G)*((y1+y2)*(y1+y2))):
  (((y1*k+y2*k)*(y1*k+y2*k))-u*((y1*k-y2*k)*(y1*k-y2*k)))*(1-G)
   = S*(((y1*k+y2*k)*(y1*k+y2*k))+u*((y1*k-y2*k)*(y1*k-y2*k)))*(1-G):=by
 have e:u*((y1*k-y2*k)*(y1*k-y2*k))*(1-G)=k*k*((1+G)*((y1-y2)*(y1-y2))):=by rw[← hu];grind
 grind
theorem Edw.diffadd(E:Edw d iv){u:Fin n}{P Q g S T:Fin n×Fin n}(hP:OnE d P)(hQ:OnE d Q)(hg:OnE d g)(hd:Q=dp d iv P g∨P=dp d iv Q g)
  (hu:u*(1-g.2)=1+g.2) (hu0:u≠0) (hS:ll S P) (hT:ll T Q):ll (jM u S.1 S.2 T.1 T.2) (dp d iv P Q):=by
 have n1:=E.plus_nz hP hQ
 have n2:=E.minus_nz hP hQ
 have hs:=E.sum_y hP hQ
 have hG:g.2*(1+d*P.1*Q.1*P.2*Q.2)=P.2*Q.2+P.1*Q.1:=by
  rcases hd with h | h
  ·have:=E.sum_y hQ (gT hP)
   rw[E.less hP hg h]at this
   unfold tE sB at this
   clear hs n1 n2 hS hT hu hu0 h
   have e:g.2*(1-d*Q.1*(-P.1)*Q.2*P.2)=Q.2*P.2-Q.1*(-P.1):=this
   clear this
   grind
  ·have:=E.sum_y hP (gT hQ)
   rw[E.less hQ hg h]at this
   unfold tE sB at this
   clear hs n1 n2 hS hT hu hu0 h
   have e:g.2*(1-d*P.1*(-Q.1)*P.2*Q.2)=P.2*Q.2-P.1*(-Q.1):=this
   clear this
   grind
 have hg1:1-g.2≠0:=by
  intro h
  have:(1:Fin n)+1=0:=by clear hs n1 n2 hS hT hG;grind
  exact E.two this
 unfold tE at n1 n2 hs
 have key:=E.cancel (E.nz2 n2 n1) (uf d P.1 P.2 Q.1 Q.2 _ _ hP hQ hs hG)
 obtain ⟨s1,s2⟩:=hS
 obtain ⟨t1,t2⟩:=hT
 have al:=E.cancel hg1 (ug u P.2 Q.2 ((S.1+S.2)*(T.1+T.2)) _ _ hu key)
 have ev:P.2*((S.1+S.2)*(T.1+T.2))=(S.1-S.2)*(T.1+T.2):=by rw[s2];clear al key hs hG;grind
 have ew:Q.2*((S.1+S.2)*(T.1+T.2))=(S.1+S.2)*(T.1-T.2):=by rw[t2];clear al key hs hG;grind
 have al':=al
 rw[ev,ew]at al'
 refine ⟨?_,al'⟩
 intro h0
 have h0':((S.1-S.2)*(T.1+T.2)+(S.1+S.2)*(T.1-T.2))*((S.1-S.2)*(T.1+T.2)+(S.1+S.2)*(T.1-T.2))+u*(((S.1-S.2)*(T.1+T.2)-(S.1+S.2)*(T.1-T.2))*((S.1-S.2)*(T.1+T.2)-(S.1+S.2)*(T.1-T.2)))=0:=h0
 rw[← ev,← ew]at h0'
 have nk:=E.nz2 s1 t1
 generalize (S.1+S.2)*(T.1+T.2)=k at *
 have hxy:∀ x:Fin n,x*x=0→x=0:=fun x hx=>by rcases E.dom x x hx with h | h<;>exact h
 have htw:∀ x:Fin n,(1+1)*x=0→x=0:=fun x hx=>by
  rcases E.dom _ x hx with h | h
  ·exact absurd h E.two
  ·exact h
 generalize hyP:P.2=y1 at *
 generalize hyQ:Q.2=y2 at *
 have z1:(y1*k+y2*k)*(y1*k+y2*k)=0:=by
  apply htw
  rw[h0']at al
  generalize (y1*k+y2*k)*(y1*k+y2*k)=m at *
  generalize u*((y1*k-y2*k)*(y1*k-y2*k))=l at *
  clear hG hs key al' ev ew n1 n2 hu
  grind
 have z2:u*((y1*k-y2*k)*(y1*k-y2*k))=0:=by
  rw[z1]at h0'
  generalize u*((y1*k-y2*k)*(y1*k-y2*k))=l at *
  clear hG hs key al al' ev ew n1 n2 hu
  grind
 have z3:k*(y1+y2)=0:=by
  have:=hxy _ z1
  clear hG hs key al al' ev ew n1 n2 hu h0 h0' z1 z2
  grind
 have z4:k*(y1-y2)=0:=by
  rcases E.dom _ _ z2 with h | h
  ·exact absurd h hu0
  ·have:=hxy _ h
   clear hG hs key al al' ev ew n1 n2 hu h0 h0' z1 z2 z3
   grind
 have z5:y1+y2=0:=by
  rcases E.dom _ _ z3 with h | h
  ·exact absurd h nk
  ·exact h
 have z6:y1-y2=0:=by
  rcases E.dom _ _ z4 with h | h
  ·exact absurd h nk
  ·exact h
 have z7:y1=0:=by
  apply htw
  clear hG hs key al al' ev ew n1 n2 hu h0 h0' z1 z2 z3 z4
  grind
 have z8:y2=0:=by
  clear hG hs key al al' ev ew n1 n2 hu h0 h0' z1 z2 z3 z4 z6
  grind
 have hP':P.1*P.1=1:=by
  unfold OnE at hP
  rw[hyP,z7]at hP
  clear hG hs key al al' ev ew n1 n2 hu h0 h0' z1 z2 z3 z4
  grind
 have hQ':Q.1*Q.1=1:=by
  unfold OnE at hQ
  rw[hyQ,z8]at hQ
  clear hG hs key al al' ev ew n1 n2 hu h0 h0' z1 z2 z3 z4
  grind
 have hG':g.2=P.1*Q.1:=by
  rw[z7,z8]at hG
  clear hs key al al' ev ew n1 n2 hu h0 h0' z1 z2 z3 z4
  grind
 have hgg:(1-g.2)*(1+g.2)=0:=by
  rw[hG']
  clear hG hG' hs key al al' ev ew n1 n2 hu h0 h0' z1 z2 z3 z4
  grind
 rcases E.dom _ _ hgg with h | h
 ·exact hg1 h
 ·rw[h]at hu
  rcases E.dom _ _ hu with h | h
  ·exact hu0 h
  ·exact hg1 h
end
end
section
section
variable{n:Nat}[NeZero n]{d:Fin n}{iv:Fin n→Fin n}
theorem Edw.iv_uniq(E:Edw d iv){x y:Fin n}(h:x*y=1):iv x=y:=by
 have hx:x≠0:=by rintro rfl;apply E.one_nz;grind
 have:=E.inv x hx
 refine E.cancel hx ?_
 grind
theorem Edw.rel_out(E:Edw d iv)(iv0:iv 0=0){S P:Fin n×Fin n}(h:ll S P):S.1*iv S.2=uOf iv P:=by
 obtain ⟨h1,h2⟩:=h
 unfold uOf
 have e1:(1+1)*S.1=(1+P.2)*(S.1+S.2):=by grind
 have e2:(1+1)*S.2=(1-P.2)*(S.1+S.2):=by grind
 by_cases hz:S.2=0
 ·have:(1-P.2)*(S.1+S.2)=0:=by rw[← e2,hz];grind
  have hp:1-P.2=0:=by
   rcases E.dom _ _ this with h | h
   ·exact h
   ·exact absurd h h1
  rw[hz,hp,iv0];grind
 ·have hp:1-P.2≠0:=by
   intro hp
   rw[hp]at e2
   have:(1+1)*S.2=0:=by rw[e2];grind
   rcases E.dom _ _ this with h | h
   ·exact E.two h
   ·exact hz h
  have i1:=E.inv _ hz
  have i2:=E.inv _ hp
  refine E.cancel (E.nz2 (E.nz2 hz hp) (E.nz2 E.two h1)) ?_
  generalize iv S.2=a at *
  generalize iv (1-P.2)=b at *
  generalize S.1+S.2=s at *
  generalize 1-P.2=q at *
  have l:S.1*a*(S.2*q*((1+1)*s))=S.1*q*((1+1)*s)*(S.2*a):=by grind
  have r:(1+P.2)*b*(S.2*q*((1+1)*s))=(1+P.2)*S.2*((1+1)*s)*(q*b):=by grind
  rw[l,r,i1,i2]
  have l2:S.1*q*((1+1)*s)*1=((1+1)*S.1)*(q*s):=by grind
  have r2:(1+P.2)*S.2*((1+1)*s)*1=((1+P.2)*s)*((1+1)*S.2):=by grind
  rw[l2,r2,e1,e2]
theorem sC(k N i:Nat)(hi:i<N):k/2^(N-i)*2+k/2^(N-(i+1))%2=k/2^(N-(i+1)):=by
 have h:k/2^(N-i)=k/2^(N-(i+1))/2:=by
  rw[Nat.div_div_eq_div_mul,← Nat.pow_succ,show (N-(i+1)).succ=N-i by omega]
 rw[h];omega
theorem Edw.lad_rel(E:Edw d iv){a u:Fin n}(ha:a*(1-d)=d){g:Fin n×Fin n}(hg:OnE d g)(hu:u*(1-g.2)=1+g.2)(hu0:u≠0)(N k:Nat)(hk:k<2^N):
  ∀ i,i≤N→ll (ladTo a u N k i).1 (cl d iv g (k/2^(N-i)))∧ll (ladTo a u N k i).2 (cl d iv g (k/2^(N-i)+1))
 | 0,_=>by
  have e:k/2^(N-0)=0:=Nat.div_eq_of_lt hk
  rw[e]
  refine ⟨⟨?_,?_⟩,?_,?_⟩
  ·show (1:Fin n)+0≠0
   intro h;apply E.one_nz;grind
  ·show (1:Fin n)-0=1*(1+0)
   grind
  ·show u+1≠0
   intro h
   apply E.two
   grind
  ·show u-1=(cl d iv g 1).2*(u+1)
   rw[E.mul_one]
   grind
 | i+1,hi=>by
  obtain ⟨h1,h2⟩:=E.lad_rel ha hg hu hu0 N k hk i (by omega)
  have hb:=sC k N i (by omega)
  have hm:=E.mul_on hg (k/2^(N-i))
  have hm1:=E.mul_on hg (k/2^(N-i)+1)
  have hq:cl d iv g (k/2^(N-i)+1)=dp d iv (cl d iv g (k/2^(N-i))) g:=rfl
  show ll (di a u (k/2^(N-(i+1))%2 == 1) (ladTo a u N k i)).1 _∧ll (di a u (k/2^(N-(i+1))%2 == 1) (ladTo a u N k i)).2 _
  unfold di
  by_cases hbit:k/2^(N-(i+1))%2=1
  ·rw[if_pos (by simp[hbit])]
   rw[← hb,hbit]
   refine ⟨?_,?_⟩
   ·have:=E.diffadd hm1 hm hg (.inr hq) hu hu0 h2 h1
    rw[gx,← E.mul_add hg]at this
    rw[show k/2^(N-i)*2+1=k/2^(N-i)+(k/2^(N-i)+1) by omega]
    exact this
   ·have:=E.double ha hm1 h2
    rw[← E.mul_add hg]at this
    rw[show k/2^(N-i)*2+1+1=(k/2^(N-i)+1)+(k/2^(N-i)+1) by omega]
    exact this
  ·rw[if_neg (by simp[hbit])]
   have h0:k/2^(N-(i+1))%2=0:=by omega
   rw[← hb,h0]
   refine ⟨?_,?_⟩
   ·have:=E.double ha hm h1
    rw[← E.mul_add hg]at this
    rw[show k/2^(N-i)*2+0=k/2^(N-i)+k/2^(N-i) by omega]
    exact this
   ·have:=E.diffadd hm hm1 hg (.inl hq) hu hu0 h1 h2
    rw[← E.mul_add hg]at this
    rw[show k/2^(N-i)*2+0+1=k/2^(N-i)+(k/2^(N-i)+1) by omega]
    exact this
theorem n6(a:Fin n)(N k:Nat):∀ i,(ladTo a 0 N k i).1.1*(ladTo a 0 N k i).1.2=0∧(ladTo a 0 N k i).2.1*(ladTo a 0 N k i).2.2=0∧(0<i→(ladTo a 0 N k i).1.2=0∧(ladTo a 0 N k i).2.2=0)
 | 0=>by
  refine ⟨?_,?_,fun h=>absurd h (by omega)⟩
  ·show (1:Fin n)*0=0
   grind
  ·show (0:Fin n)*1=0
   grind
 | i+1=>by
  obtain ⟨h1,h2,_⟩:=n6 a N k i
  have key:∀ X Z:Fin n,X*Z=0→(jL a X Z).2=0:=by
   intro X Z h
   show ((X+Z)*(X+Z)-(X-Z)*(X-Z))*((X+Z)*(X+Z)+a*((X+Z)*(X+Z)-(X-Z)*(X-Z)))=0
   grind
  have key2:∀ X Z X' Z':Fin n,(jM 0 X Z X' Z').2=0:=by
   intro X Z X' Z'
   show (0:Fin n)*_=0
   grind
  have both:(ladTo a 0 N k (i+1)).1.2=0∧(ladTo a 0 N k (i+1)).2.2=0:=by
   show (di a 0 (k/2^(N-(i+1))%2 == 1) (ladTo a 0 N k i)).1.2=0∧(di a 0 (k/2^(N-(i+1))%2 == 1) (ladTo a 0 N k i)).2.2=0
   unfold di
   split
   ·exact ⟨key2 _ _ _ _,key _ _ h2⟩
   ·exact ⟨key _ _ h1,key2 _ _ _ _⟩
  refine ⟨?_,?_,fun _=>both⟩
  ·rw[both.1];grind
  ·rw[both.2];grind
theorem mL(iv0:iv 0=0)(a:Fin n)(N k:Nat)(hN:0<N):eN iv a 0 N k=0:=by
 have:=((n6 a N k N).2.2 hN).1
 unfold eN
 rw[this,iv0];grind
theorem Edw.mul_flat(E:Edw d iv)(iv0:iv 0=0){g:Fin n×Fin n}(hx:g.1=0)(hy:g.2*g.2=1):∀ k,(cl d iv g k).1=0∧(cl d iv g k).2*(cl d iv g k).2=1
 | 0=>⟨rfl,by show (1:Fin n)*1=1;grind⟩
 | k+1=>by
  obtain ⟨h1,h2⟩:=E.mul_flat iv0 hx hy k
  have ht:tE d (cl d iv g k) g=0:=by unfold tE;rw[hx];grind
  refine ⟨?_,?_⟩
  ·show ((cl d iv g k).1*g.2+g.1*(cl d iv g k).2)*iv (1+tE d (cl d iv g k) g)=0
   rw[h1,hx];grind
  ·show ((cl d iv g k).2*g.2-(cl d iv g k).1*g.1)*iv (1-tE d (cl d iv g k) g)*(((cl d iv g k).2*g.2-(cl d iv g k).1*g.1)*iv (1-tE d (cl d iv g k) g))=1
   have:(1:Fin n)-0=1:=by grind
   rw[ht,this,E.iv1,h1,hx]
   generalize (cl d iv g k).2=z at *
   grind
theorem Edw.flat_u(E:Edw d iv)(iv0:iv 0=0){P:Fin n×Fin n}(hy:P.2*P.2=1):uOf iv P=0:=by
 have h:(1+P.2)*(1-P.2)=0:=by grind
 unfold uOf
 rcases E.dom _ _ h with h | h
 ·rw[h];grind
 ·rw[h,iv0];grind
theorem Edw.u_flat(E:Edw d iv){P:Fin n×Fin n}(hP:OnE d P)(h:uOf iv P=0):P.1=0∧P.2*P.2=1:=by
 have hy:P.2*P.2=1:=by
  unfold uOf at h
  rcases E.dom _ _ h with h | h
  ·grind
  ·have:(1-P.2)=0:=by
    apply Classical.byContradiction
    intro hn
    have:=E.inv _ hn
    rw[h]at this
    apply E.one_nz
    grind
   grind
 refine ⟨?_,hy⟩
 unfold OnE at hP
 rw[hy]at hP
 have h2:(1-d)*(P.1*P.1)=0:=by grind
 rcases E.dom _ _ h2 with h | h
 ·exact absurd h E.d1
 ·rcases E.dom _ _ h with h | h<;>exact h
theorem Edw.lad_is(E:Edw d iv)(iv0:iv 0=0){a:Fin n}(ha:a*(1-d)=d){g:Fin n×Fin n}(hg:OnE d g)(N k:Nat)(hN:0<N)(hk:k<2^N):
  eN iv a (uOf iv g) N k=uOf iv (cl d iv g k):=by
 by_cases h0:uOf iv g=0
 ·obtain ⟨hx,hy⟩:=E.u_flat hg h0
  rw[h0,mL iv0 a N k hN,E.flat_u iv0 (E.mul_flat iv0 hx hy k).2]
 ·have h1:1-g.2≠0:=by
   intro h
   apply h0
   unfold uOf
   rw[h,iv0];grind
  have hu:uOf iv g*(1-g.2)=1+g.2:=by
   have:=E.inv _ h1
   unfold uOf
   grind
  have:=(E.lad_rel ha hg hu h0 N k hk N (by omega)).1
  rw[Nat.sub_self,Nat.pow_zero,Nat.div_one]at this
  exact E.rel_out iv0 this
theorem Edw.iv_neg(E:Edw d iv)(iv0:iv 0=0)(x:Fin n):iv (-x) = -iv x:=by
 by_cases h:x=0
 ·subst h
  have:(-0:Fin n)=0:=by grind
  rw[this,iv0,this]
 ·have:=E.inv x h
  refine E.iv_uniq ?_
  grind
theorem l7(a u:Fin n)(N k:Nat):∀ i,∃ e f:Fin n,e*e=1∧f*f=1 ∧
  ladTo (-1-a) (-u) N k i=((e*(ladTo a u N k i).1.1,-(e*(ladTo a u N k i).1.2)),(f*(ladTo a u N k i).2.1,-(f*(ladTo a u N k i).2.2)))
 | 0=>by
  refine ⟨1,-1,by grind,by grind,?_⟩
  show (((1:Fin n),(0:Fin n)),((-u,(1:Fin n))))=((1*1,-(1*0)),(-1*u,-(-1*1)))
  have h1:(1:Fin n)*1=1:=by grind
  have h2:-((1:Fin n)*0)=0:=by grind
  have h3:-1*u = -u:=by grind
  have h4:-(-1*1:Fin n)=1:=by grind
  rw[h1,h2,h3,h4]
 | i+1=>by
  obtain ⟨e,f,he,hf,h⟩:=l7 a u N k i
  refine ⟨1,1,by grind,by grind,?_⟩
  have kD:∀ X Z c:Fin n,c*c=1→jL (-1-a) (c*X) (-(c*Z))=(1*(jL a X Z).1,-(1*(jL a X Z).2)):=by
   intro X Z c hc
   unfold jL
   have s1:(c*X + -(c*Z))*(c*X + -(c*Z))=(X-Z)*(X-Z):=by grind
   have s2:(c*X - -(c*Z))*(c*X - -(c*Z))=(X+Z)*(X+Z):=by grind
   refine Prod.ext ?_ ?_
   ·show (c*X + -(c*Z))*(c*X + -(c*Z))*((c*X - -(c*Z))*(c*X - -(c*Z)))=1*((X+Z)*(X+Z)*((X-Z)*(X-Z)))
    rw[s1,s2];generalize (X+Z)*(X+Z)=p;generalize (X-Z)*(X-Z)=q;grind
   ·show ((c*X + -(c*Z))*(c*X + -(c*Z))-(c*X - -(c*Z))*(c*X - -(c*Z)))*((c*X + -(c*Z))*(c*X + -(c*Z))+(-1-a)*((c*X + -(c*Z))*(c*X + -(c*Z))-(c*X - -(c*Z))*(c*X - -(c*Z)))) = -(1*(((X+Z)*(X+Z)-(X-Z)*(X-Z))*((X+Z)*(X+Z)+a*((X+Z)*(X+Z)-(X-Z)*(X-Z)))))
    rw[s1,s2];generalize (X+Z)*(X+Z)=p;generalize (X-Z)*(X-Z)=q;grind
  have kA:∀ X Z X' Z' c c':Fin n,c*c=1→c'*c'=1→jM (-u) (c*X) (-(c*Z)) (c'*X') (-(c'*Z'))=(1*(jM u X Z X' Z').1,-(1*(jM u X Z X' Z').2)):=by
   intro X Z X' Z' c c' hc hc'
   unfold jM
   have s1:(c*X - -(c*Z))*(c'*X' + -(c'*Z'))=(c*c')*((X+Z)*(X'-Z')):=by grind
   have s2:(c*X + -(c*Z))*(c'*X' - -(c'*Z'))=(c*c')*((X-Z)*(X'+Z')):=by grind
   have s3:(c*c')*(c*c')=1:=by grind
   refine Prod.ext ?_ ?_
   ·show ((c*X - -(c*Z))*(c'*X' + -(c'*Z'))+(c*X + -(c*Z))*(c'*X' - -(c'*Z')))*((c*X - -(c*Z))*(c'*X' + -(c'*Z'))+(c*X + -(c*Z))*(c'*X' - -(c'*Z')))=1*(((X-Z)*(X'+Z')+(X+Z)*(X'-Z'))*((X-Z)*(X'+Z')+(X+Z)*(X'-Z')))
    rw[s1,s2]
    generalize (X+Z)*(X'-Z')=p;generalize (X-Z)*(X'+Z')=q;generalize c*c'=r at *;clear s1 s2 hc hc' kD h;grind
   ·show -u*(((c*X - -(c*Z))*(c'*X' + -(c'*Z'))-(c*X + -(c*Z))*(c'*X' - -(c'*Z')))*((c*X - -(c*Z))*(c'*X' + -(c'*Z'))-(c*X + -(c*Z))*(c'*X' - -(c'*Z')))) = -(1*(u*(((X-Z)*(X'+Z')-(X+Z)*(X'-Z'))*((X-Z)*(X'+Z')-(X+Z)*(X'-Z')))))
    rw[s1,s2]
    generalize (X+Z)*(X'-Z')=p;generalize (X-Z)*(X'+Z')=q;generalize c*c'=r at *;clear s1 s2 hc hc' kD h;grind
  show di (-1-a) (-u) (k/2^(N-(i+1))%2 == 1) (ladTo (-1-a) (-u) N k i)=((1*(di a u (k/2^(N-(i+1))%2 == 1) (ladTo a u N k i)).1.1,-(1*(di a u (k/2^(N-(i+1))%2 == 1) (ladTo a u N k i)).1.2)),(1*(di a u (k/2^(N-(i+1))%2 == 1) (ladTo a u N k i)).2.1,-(1*(di a u (k/2^(N-(i+1))%2 == 1) (ladTo a u N k i)).2.2)))
  rw[h]
  generalize ladTo a u N k i=S
  generalize (k/2^(N-(i+1))%2 == 1)=b
  cases b
  ·show (jL (-1-a) (e*S.1.1) (-(e*S.1.2)),jM (-u) (e*S.1.1) (-(e*S.1.2)) (f*S.2.1) (-(f*S.2.2)))=_
   rw[kD _ _ _ he,kA _ _ _ _ _ _ he hf]
   rfl
  ·show (jM (-u) (f*S.2.1) (-(f*S.2.2)) (e*S.1.1) (-(e*S.1.2)),jL (-1-a) (f*S.2.1) (-(f*S.2.2)))=_
   rw[kD _ _ _ hf,kA _ _ _ _ _ _ hf he]
   rfl
theorem Edw.out_twist(E:Edw d iv)(iv0:iv 0=0)(a u:Fin n)(N k:Nat):eN iv (-1-a) (-u) N k = -eN iv a u N k:=by
 obtain ⟨e,f,he,hf,h⟩:=l7 a u N k N
 unfold eN
 rw[h]
 generalize (ladTo a u N k N).1.1=X
 generalize (ladTo a u N k N).1.2=Z
 show e*X*iv (-(e*Z)) = -(X*iv Z)
 rw[E.iv_neg iv0]
 have:iv (e*Z)=e*iv Z:=by
  by_cases hz:Z=0
  ·subst hz
   have:e*0=0:=by grind
   rw[this,iv0];exact this.symm
  ·have:=E.inv Z hz
   refine E.iv_uniq ?_
   grind
 rw[this]
 grind
theorem Edw.lad_comm(E:Edw d iv)(iv0:iv 0=0){a:Fin n}(ha:a*(1-d)=d){g:Fin n×Fin n}(hg:OnE d g)(N k l:Nat)(hN:0<N)(hk:k<2^N)(hl:l<2^N):
  eN iv a (eN iv a (uOf iv g) N l) N k=uOf iv (cl d iv g (l*k)):=by
 rw[E.lad_is iv0 ha hg N l hN hl,E.lad_is iv0 ha (E.mul_on hg l) N k hN hk,E.mul_mul hg]
end
end
section
theorem Bq:∀ (m k:Nat) (f:Nat→Nat),(∀ i,i<k→f i<m)→(∀ i j,i<k→j<k→f i=f j→i=j)→k≤m:=by
 intro m
 induction m with
 | zero =>
  intro k f hb _
  rcases Nat.eq_zero_or_pos k with h | h
  ·omega
  ·have:=hb 0 h;omega
 | succ m ih =>
  intro k f hb hi
  by_cases hex:∃ a,a<k∧f a=m
  ·obtain ⟨a,ha,hfa⟩:=hex
   have:k-1≤m:=by
    refine ih (k-1) (fun i=>f (if i<a then i else i+1)) (fun i hik => ?_) (fun i j hik hjk hij => ?_)
    ·have hlt:(if i<a then i else i+1)<k:=by split<;>omega
     have h1:=hb _ hlt
     have h2:f (if i<a then i else i+1)≠m:=by
      intro he
      have:=hi _ _ hlt ha (he.trans hfa.symm)
      split at this<;>omega
     show f (if i<a then i else i+1)<m
     omega
    ·have h1:(if i<a then i else i+1)<k:=by split<;>omega
     have h2:(if j<a then j else j+1)<k:=by split<;>omega
     have:=hi _ _ h1 h2 hij
     split at this<;>split at this<;>omega
   omega
  ·have:k≤m:=ih k f (fun i hik=>by
    have h1:=hb i hik
    have h2:f i≠m:=fun he=>hex ⟨i,hik,he⟩
    omega) hi
   omega
theorem zp(m:Nat)(f:Nat→Nat)(hb:∀ i,i<m→f i<m)(hi:∀ i j,i<m→j<m→f i=f j→i=j)(y:Nat)(hy:y<m):∃ i,i<m∧f i=y:=by
 apply Classical.byContradiction
 intro hn
 have:m≤m-1:=by
  refine Bq (m-1) m (fun i=>if f i<y then f i else f i-1) (fun i him => ?_) (fun i j him hjm hij => ?_)
  ·have h1:=hb i him
   have h2:f i≠y:=fun he=>hn ⟨i,him,he⟩
   show (if f i<y then f i else f i-1)<m-1
   split<;>omega
  ·have h1:f i≠y:=fun he=>hn ⟨i,him,he⟩
   have h2:f j≠y:=fun he=>hn ⟨j,hjm,he⟩
   refine hi i j him hjm ?_
   have hij':(if f i<y then f i else f i-1)=(if f j<y then f j else f j-1):=hij
   split at hij'<;>split at hij'<;>omega
 omega
def n7(n:Nat):Nat→Nat→Nat→Nat→Nat
 | 0,_,_,acc=>acc
 | fuel+1,b,e,acc=>n7 n fuel (b*b%n) (e/2) (if e%2=1 then acc*b%n else acc)
def n8(n b e:Nat):Nat:=n7 n 600 b e 1%n
theorem n9(n:Nat):∀ (fuel b e acc:Nat),e<2^fuel→n7 n fuel b e acc%n=acc*b^e%n
 | 0,b,e,acc,h=>by
  have:e=0:=by simp at h;omega
  subst this;simp[n7]
 | fuel+1,b,e,acc,h=>by
  have he:e/2<2^fuel:=by rw[Nat.pow_succ]at h;omega
  rw[n7,n9 n fuel _ _ _ he]
  have hb:(b*b%n)^(e/2)%n=(b*b)^(e/2)%n:=by rw[← Nat.pow_mod]
  have hp:(b*b)^(e/2)=b^(2*(e/2)):=by rw[Nat.pow_mul,Nat.pow_two]
  by_cases h1:e%2=1
  ·rw[if_pos h1,Nat.mul_mod,hb,Nat.mod_mod,← Nat.mul_mod,hp]
   have:e=2*(e/2)+1:=by omega
   conv=>rhs;rw[this,Nat.pow_succ]
   rw[Nat.mul_assoc,Nat.mul_comm b]
  ·rw[if_neg h1,Nat.mul_mod,hb,← Nat.mul_mod,hp]
   have:e=2*(e/2):=by omega
   conv=>rhs;rw[this]
theorem iH(n b e:Nat)(h:e<2^600):n8 n b e=b^e%n:=by
 rw[n8,n9 n 600 b e 1 h,Nat.one_mul]
theorem wy{m b:Nat}:∀ (k j:Nat),b^k%m=1%m→b^j%m=1%m→b^(Nat.gcd k j)%m=1%m:=by
 intro k
 induction k using Nat.strongRecOn with
 | _ k ih =>
  intro j hk hj
  rcases Nat.eq_zero_or_pos k with h0 | h0
  ·subst h0;rw[Nat.gcd_zero_left];exact hj
  ·rw[Nat.gcd_rec]
   refine ih (j%k) (Nat.mod_lt _ h0) k ?_ hk
   have h1:b^j%m=b^(j%k)%m:=by
    conv=>lhs;rw[← Nat.div_add_mod j k,Nat.pow_add,Nat.mul_mod,Nat.pow_mul,Nat.pow_mod,hk,← Nat.pow_mod,Nat.one_pow,← Nat.mul_mod,Nat.one_mul]
   rw[← h1];exact hj
def Irr(n:Nat):Prop:=1<n ∧ ∀ m,m ∣ n→m=1∨m=n
theorem irr_gcd{q c:Nat}(hq:Irr q):Nat.gcd c q=1∨q ∣ c:=by
 rcases hq.2 (Nat.gcd c q) (Nat.gcd_dvd_right c q) with h | h
 ·exact .inl h
 ·exact .inr (h▸Nat.gcd_dvd_left c q)
theorem irr_mul{q a b:Nat}(hq:Irr q)(h:q ∣ a*b):q ∣ a∨q ∣ b:=by
 rcases irr_gcd (c:=a) hq with h1 | h1
 ·exact .inr (Nat.Coprime.dvd_of_dvd_mul_left (show Nat.gcd q a=1 by rw[Nat.gcd_comm];exact h1) h)
 ·exact .inl h1
def dY:List Nat→Nat
 | []=>1
 | q::r=>q*dY r
theorem oa:∀ (L:List Nat) (x:Nat),x∈L→x ∣ dY L
 | q::r,x,hx=>by
  rw[dY]
  rcases List.mem_cons.mp hx with h | h
  ·subst h;exact Nat.dvd_mul_right _ _
  ·exact Nat.dvd_trans (oa r x h) (Nat.dvd_mul_left _ _)
theorem kG:∀ (L:List Nat),(∀ x∈L,Irr x) → ∀ c,c ∣ dY L→c≠1 → ∃ x∈L,x ∣ c
 | [],_,c,h,hc=>by
  rw[dY]at h
  exact absurd (Nat.eq_one_of_dvd_one h) hc
 | q::r,hL,c,h,hc=>by
  have hq:Irr q:=hL q (by simp)
  rcases irr_gcd (c:=c) hq with h1 | h1
  ·rw[dY]at h
   obtain ⟨x,hx,hxc⟩:=kG r (fun x hx=>hL x (by simp[hx])) c (Nat.Coprime.dvd_of_dvd_mul_left h1 h) hc
   exact ⟨x,by simp[hx],hxc⟩
  ·exact ⟨q,by simp,h1⟩
theorem l8{m b F:Nat}(L:List Nat)(hL:∀ x∈L,Irr x)(hp:dY L=F)
  (h1:b^F%m=1%m) (hno:∀ x∈L,b^(F/x)%m≠1%m) (k:Nat) (hk0:0<k) (hkF:k<F):b^k%m≠1%m:=by
 intro hk
 have hg:=wy k F hk h1
 have hd:Nat.gcd k F ∣ F:=Nat.gcd_dvd_right k F
 have hgk:Nat.gcd k F≤k:=Nat.le_of_dvd hk0 (Nat.gcd_dvd_left k F)
 obtain ⟨c,hc⟩:=hd
 have hc1:c≠1:=by rintro rfl;rw[Nat.mul_one]at hc;omega
 obtain ⟨x,hx,hxc⟩:=kG L hL c (hp▸⟨Nat.gcd k F,by rw[Nat.mul_comm];exact hc⟩) hc1
 obtain ⟨t,ht⟩:=hxc
 refine hno x hx ?_
 have hx0:0<x:=Nat.lt_trans Nat.zero_lt_one (hL x hx).1
 have he:F/x=Nat.gcd k F*t:=by
  conv=>lhs;rw[hc,ht,show Nat.gcd k F*(x*t)=x*(Nat.gcd k F*t) by ac_rfl]
  exact Nat.mul_div_cancel_left _ hx0
 rw[he,Nat.pow_mul,Nat.pow_mod,hg,← Nat.pow_mod,Nat.one_pow]
theorem kH{m a x y:Nat}(hc:Nat.Coprime m a)(h:a*x%m=a*y%m):x%m=y%m:=by
 rcases Nat.le_total x y with hxy | hxy
 ·have hd:m ∣ a*y-a*x:=(Nat.dvd_iff_mod_eq_zero ..).mpr (Nat.sub_mod_eq_zero_of_mod_eq h.symm)
  rw[← Nat.mul_sub]at hd
  obtain ⟨t,ht⟩:=Nat.Coprime.dvd_of_dvd_mul_left hc hd
  rw[show y=x+m*t by omega,Nat.add_mul_mod_self_left]
 ·have hd:m ∣ a*x-a*y:=(Nat.dvd_iff_mod_eq_zero ..).mpr (Nat.sub_mod_eq_zero_of_mod_eq h)
  rw[← Nat.mul_sub]at hd
  obtain ⟨t,ht⟩:=Nat.Coprime.dvd_of_dvd_mul_left hc hd
  rw[show x=y+m*t by omega,Nat.add_mul_mod_self_left]
theorem jD{m b F:Nat}(hb:Nat.gcd b m=1)(hno:∀ k,0<k→k<F→b^k%m≠1%m)(i j:Nat)(hi:i<F)(hj:j<F)(h:b^i%m=b^j%m):i=j:=by
 rcases Nat.lt_trichotomy i j with hlt | heq | hgt
 ·exfalso
  refine hno (j-i) (by omega) (by omega) ?_
  have:(b^i*b^(j-i))%m=(b^i*1)%m:=by rw[← Nat.pow_add,Nat.mul_one,show i+(j-i)=j by omega];exact h.symm
  have hc:Nat.Coprime m (b^i):=Nat.Coprime.pow_right i (by rw[Nat.Coprime,Nat.gcd_comm];exact hb)
  exact kH hc this
 ·exact heq
 ·exfalso
  refine hno (i-j) (by omega) (by omega) ?_
  have:(b^j*b^(i-j))%m=(b^j*1)%m:=by rw[← Nat.pow_add,Nat.mul_one,show j+(i-j)=i by omega];exact h
  have hc:Nat.Coprime m (b^j):=Nat.Coprime.pow_right j (by rw[Nat.Coprime,Nat.gcd_comm];exact hb)
  exact kH hc this
theorem gU{m b k:Nat}(hk:0<k)(h:b^k%m=1%m):Nat.gcd b m=1:=by
 have h1:Nat.gcd b m ∣ b^k:=Nat.dvd_trans (Nat.gcd_dvd_left b m) (by obtain ⟨t,rfl⟩:∃ t,k=t+1:=⟨k-1,by omega⟩;rw[Nat.pow_succ];exact Nat.dvd_mul_left _ _)
 have h2:Nat.gcd b m ∣ m:=Nat.gcd_dvd_right b m
 have h3:Nat.gcd b m ∣ 1:=by
  have h4:Nat.gcd b m ∣ b^k%m:=(Nat.dvd_mod_iff h2).mpr h1
  rw[h]at h4
  exact (Nat.dvd_mod_iff h2).mp h4
 exact Nat.eq_one_of_dvd_one h3
theorem gV(m b i:Nat)(h1:1<m)(hg:Nat.gcd b m=1):b^i%m≠0:=by
 intro h
 have hd:m ∣ b^i:=Nat.dvd_of_mod_eq_zero h
 have hc:Nat.Coprime (b^i) m:=Nat.Coprime.pow_left i hg
 have:Nat.gcd (b^i) m=m:=Nat.gcd_eq_right hd
 rw[Nat.Coprime]at hc
 omega
theorem Br(N a F R:Nat)(L:List Nat)(hN:1<N)(hF:F*R=N-1)(hFF:N≤F*F)(hL:∀ x∈L,Irr x)(hp:dY L=F)
  (ha:a^(N-1)%N=1) (hq:∀ x∈L,Nat.gcd (a^((N-1)/x)%N+(N-1)) N=1):Irr N:=by
 have hF0:0<F:=by rcases Nat.eq_zero_or_pos F with h | h;{ subst h;omega };exact h
 have small:∀ m,m ∣ N→1<m→F<m:=by
  intro m hm h1
  have hm0:0<m:=by omega
  have one:1%m=1:=Nat.mod_eq_of_lt h1
  have down:∀ x y:Nat,x%N=y%N→x%m=y%m:=by
   intro x y h
   obtain ⟨c,hc⟩:=hm
   have:=congrArg (·%m) h
   simp only[hc,Nat.mod_mul_right_mod]at this
   exact this
  have hb1:(a^R)^F%m=1%m:=by
   rw[← Nat.pow_mul,Nat.mul_comm,hF]
   exact down _ _ (by rw[ha,Nat.mod_eq_of_lt hN])
  have hg:Nat.gcd (a^R) m=1:=gU hF0 hb1
  have hno:∀ x∈L,(a^R)^(F/x)%m≠1%m:=by
   intro x hx he
   have hx1:1<x:=(hL x hx).1
   obtain ⟨c,hc⟩:x ∣ F:=hp▸oa L x hx
   have e1:F/x=c:=by rw[hc];exact Nat.mul_div_cancel_left _ (by omega)
   have e2:(N-1)/x=R*c:=by rw[← hF,hc,show x*c*R=x*(R*c) by ac_rfl];exact Nat.mul_div_cancel_left _ (by omega)
   rw[e1,← Nat.pow_mul,← e2]at he
   have h3:m ∣ a^((N-1)/x)%N+(N-1):=by
    have h4:(a^((N-1)/x)%N)%m=1%m:=by
     rw[← he];exact down _ _ (Nat.mod_mod _ _)
    have h5:(a^((N-1)/x)%N+(N-1))%m=0:=by
     rw[Nat.add_mod,h4,← Nat.add_mod,show 1+(N-1)=N by omega]
     exact Nat.mod_eq_zero_of_dvd hm
    exact Nat.dvd_of_mod_eq_zero h5
   have h6:m ∣ 1:=hq x hx▸Nat.dvd_gcd h3 hm
   have:=Nat.eq_one_of_dvd_one h6
   omega
  have hall:=l8 L hL hp hb1 hno
  have hbound:F≤m-1:=by
   refine Bq (m-1) F (fun i=>(a^R)^i%m-1) (fun i _ => ?_) (fun i j hi hj hij => ?_)
   ·have h7:=gV m (a^R) i h1 hg
    have:=Nat.mod_lt ((a^R)^i) hm0
    show (a^R)^i%m-1<m-1
    omega
   ·refine jD hg hall i j hi hj ?_
    have h7:=gV m (a^R) i h1 hg
    have h8:=gV m (a^R) j h1 hg
    have hij':(a^R)^i%m-1=(a^R)^j%m-1:=hij
    omega
  omega
 refine ⟨hN,fun m hm => ?_⟩
 apply Classical.byContradiction
 intro hne
 have hm0:m≠0:=by rintro rfl;have:=Nat.eq_zero_of_zero_dvd hm;omega
 have h1:=small m hm (by omega)
 obtain ⟨c,hc⟩:=hm
 have hc1:1<c:=by
  rcases Nat.lt_or_ge 1 c with h | h
  ·exact h
  ·exfalso
   have:c=0∨c=1:=by omega
   rcases this with rfl | rfl
   ·omega
   ·rw[Nat.mul_one]at hc;omega
 have h2:=small c ⟨m,by rw[Nat.mul_comm];exact hc⟩ hc1
 have h3:(F+1)*(F+1)≤m*c:=Nat.mul_le_mul h1 h2
 have h4:F*F<(F+1)*(F+1):=by rw[Nat.add_mul,Nat.mul_add];omega
 omega
theorem oc(p g:Nat)(hp1:1<p)(L:List Nat)(hL:∀ x∈L,Irr x)(hp:dY L=p-1)
  (h1:g^(p-1)%p=1) (hno:∀ x∈L,g^((p-1)/x)%p≠1) (y:Nat) (hy0:0<y) (hy:y<p):∃ i,i<p-1∧g^i%p=y:=by
 have one:1%p=1:=Nat.mod_eq_of_lt hp1
 have hg:Nat.gcd g p=1:=gU (k:=p-1) (by omega) (by rw[h1,one])
 have hall:=l8 (m:=p) (b:=g) L hL hp (by rw[h1,one]) (fun x hx=>by rw[one];exact hno x hx)
 obtain ⟨i,hi,he⟩:=zp (p-1) (fun i=>g^i%p-1) (fun i _=>by
   have h7:=gV p g i hp1 hg
   have:=Nat.mod_lt (g^i) (show p > 0 by omega)
   show g^i%p-1<p-1
   omega) (fun i j hi hj hij=>by
   refine jD hg hall i j hi hj ?_
   have h7:=gV p g i hp1 hg
   have h8:=gV p g j hp1 hg
   have hij':g^i%p-1=g^j%p-1:=hij
   omega) (y-1) (by omega)
 refine ⟨i,hi,?_⟩
 have h7:=gV p g i hp1 hg
 have he':g^i%p-1=y-1:=he
 omega
theorem uh(p g:Nat)(hp1:1<p)(L:List Nat)(hL:∀ x∈L,Irr x)(hp:dY L=p-1)
  (h1:g^(p-1)%p=1) (hno:∀ x∈L,g^((p-1)/x)%p≠1) (y:Nat) (hy:y%p≠0):y^(p-1)%p=1:=by
 obtain ⟨i,_,he⟩:=oc p g hp1 L hL hp h1 hno (y%p) (by omega) (Nat.mod_lt _ (by omega))
 rw[Nat.pow_mod,← he,← Nat.pow_mod,← Nat.pow_mul,Nat.mul_comm,Nat.pow_mul,Nat.pow_mod,h1,Nat.one_pow,Nat.mod_eq_of_lt hp1]
theorem od(p g:Nat)(hp1:1<p)(L:List Nat)(hL:∀ x∈L,Irr x)(hp:dY L=p-1)
  (h1:g^(p-1)%p=1) (hno:∀ x∈L,g^((p-1)/x)%p≠1):Irr p:=by
 refine ⟨hp1,fun m hm => ?_⟩
 rcases Nat.lt_or_ge m p with hlt | hge
 ·left
  rcases Nat.eq_zero_or_pos m with h0 | h0
  ·subst h0;have:=Nat.eq_zero_of_zero_dvd hm;omega
  ·have hf:=uh p g hp1 L hL hp h1 hno m (by rw[Nat.mod_eq_of_lt hlt];omega)
   have:=gU (m:=p) (b:=m) (k:=p-1) (by omega) (by rw[hf,Nat.mod_eq_of_lt hp1])
   rwa [Nat.gcd_eq_left hm]at this
 ·right
  have:=Nat.le_of_dvd (by omega) hm
  omega
end
section
theorem cz(n k:Nat)(h:(decide (1<n)&&decide (n≤k*k)&&(List.range (k+1)).all (fun m=>decide (m<2)||decide (n≤m)||n%m != 0))=true):Irr n:=by
 simp only[Bool.and_eq_true,decide_eq_true_eq]at h
 obtain ⟨⟨h1,h2⟩,h3⟩:=h
 have no:∀ m,m ∣ n→1<m→m<n→k<m:=by
  intro m hm hm1 hmn
  apply Classical.byContradiction
  intro hk
  have:=List.all_eq_true.mp h3 m (List.mem_range.mpr (by omega))
  simp only[Bool.or_eq_true,decide_eq_true_eq,bne_iff_ne]at this
  rcases this with (h | h) | h
  ·omega
  ·omega
  ·exact h (Nat.mod_eq_zero_of_dvd hm)
 refine ⟨h1,fun m hm => ?_⟩
 apply Classical.byContradiction
 intro hne
 have hm0:m≠0:=by rintro rfl;have:=Nat.eq_zero_of_zero_dvd hm;omega
 have hmn:=Nat.le_of_dvd (by omega) hm
 have ha:=no m hm (by omega) (by omega)
 obtain ⟨c,hc⟩:=hm
 have hc1:c≠0:=by rintro rfl;omega
 have hc2:c≠1:=by rintro rfl;omega
 have hb:=no c ⟨m,by rw[Nat.mul_comm];exact hc⟩ (by omega) (by
  have:c*2≤m*c:=by rw[Nat.mul_comm];exact Nat.mul_le_mul_right c (by omega)
  omega)
 have h3:(k+1)*(k+1)≤m*c:=Nat.mul_le_mul ha hb
 have h4:k*k<(k+1)*(k+1):=by rw[Nat.add_mul,Nat.mul_add];omega
 omega
def yd(N a F R:Nat)(L:List Nat):Bool :=
 decide (1<N)&&decide (F*R=N-1)&&decide (N≤F*F)&&decide (dY L=F)&&decide (N-1<2^600) &&
  n8 N a (N-1) == 1&&L.all (fun x=>Nat.gcd (n8 N a ((N-1)/x)+(N-1)) N == 1)
theorem fh(N a F R:Nat)(L:List Nat)(h:yd N a F R L=true)(hL:∀ x∈L,Irr x):Irr N:=by
 simp only[yd,Bool.and_eq_true,decide_eq_true_eq,beq_iff_eq,List.all_eq_true]at h
 obtain ⟨⟨⟨⟨⟨⟨h1,h2⟩,h3⟩,h4⟩,h5⟩,h6⟩,h7⟩:=h
 refine Br N a F R L h1 h2 h3 hL h4 ?_ (fun x hx => ?_)
 ·rw[← iH N a (N-1) h5];exact h6
 ·rw[← iH N a ((N-1)/x) (Nat.lt_of_le_of_lt (Nat.div_le_self _ _) h5)];exact h7 x hx
def ye(p g:Nat)(L:List Nat):Bool :=
 decide (1<p)&&decide (dY L=p-1)&&decide (p-1<2^600)&&n8 p g (p-1) == 1&&L.all (fun x=>n8 p g ((p-1)/x) != 1)
theorem wz(p g:Nat)(L:List Nat)(h:ye p g L=true)(hL:∀ x∈L,Irr x):Irr p ∧ ∀ y,y%p≠0→y^(p-1)%p=1:=by
 simp only[ye,Bool.and_eq_true,decide_eq_true_eq,beq_iff_eq,bne_iff_ne,List.all_eq_true]at h
 obtain ⟨⟨⟨⟨h1,h2⟩,h5⟩,h6⟩,h7⟩:=h
 have ha:g^(p-1)%p=1:=by rw[← iH p g (p-1) h5];exact h6
 have hn:∀ x∈L,g^((p-1)/x)%p≠1:=fun x hx=>by
  rw[← iH p g ((p-1)/x) (Nat.lt_of_le_of_lt (Nat.div_le_self _ _) h5)];exact h7 x hx
 exact ⟨od p g h1 L hL h2 ha hn,fun y hy=>uh p g h1 L hL h2 ha hn y hy⟩
theorem jE:Irr 2:=cz 2 2 (by decide +kernel)
theorem Bs:Irr 3:=cz 3 2 (by decide +kernel)
theorem sD:Irr 65147:=cz 65147 256 (by decide +kernel)
theorem wA:Irr 353:=cz 353 19 (by decide +kernel)
theorem sE:Irr 57467:=cz 57467 240 (by decide +kernel)
theorem pi:Irr 132049:=cz 132049 364 (by decide +kernel)
theorem ui:Irr 3727:=cz 3727 62 (by decide +kernel)
theorem oe:Irr 1923133 :=
 fh 1923133 2 3727 516 [3727] (by decide +kernel) (by
  intro x hx
  simp only[List.mem_cons,List.not_mem_nil,or_false]at hx
  rcases hx with rfl
  ·exact ui)
theorem zq:Irr 31:=cz 31 6 (by decide +kernel)
theorem wB:Irr 223:=cz 223 15 (by decide +kernel)
theorem uj:Irr 4153:=cz 4153 65 (by decide +kernel)
theorem fW:Irr 31757755568855353 :=
 fh 31757755568855353 5 229677512 138271071 [2,2,2,31,223,4153] (by decide +kernel) (by
  intro x hx
  simp only[List.mem_cons,List.not_mem_nil,or_false]at hx
  rcases hx with rfl | rfl | rfl | rfl | rfl | rfl
  ·exact jE
  ·exact jE
  ·exact jE
  ·exact zq
  ·exact wB
  ·exact uj)
theorem bA:Irr 74058212732561358302231226437062788676166966415465897661863160754340907 :=
 fh 74058212732561358302231226437062788676166966415465897661863160754340907 2 327203142120246897114999953879690702 226337107439344281818252539631594403 [2,353,57467,132049,1923133,31757755568855353] (by decide +kernel) (by
  intro x hx
  simp only[List.mem_cons,List.not_mem_nil,or_false]at hx
  rcases hx with rfl | rfl | rfl | rfl | rfl | rfl
  ·exact jE
  ·exact wA
  ·exact sE
  ·exact pi
  ·exact oe
  ·exact fW)
theorem zt:Irr 23:=cz 23 5 (by decide +kernel)
theorem uk:Irr 3797:=cz 3797 62 (by decide +kernel)
theorem pj:Irr 531581 :=
 fh 531581 2 3797 140 [3797] (by decide +kernel) (by
  intro x hx
  simp only[List.mem_cons,List.not_mem_nil,or_false]at hx
  rcases hx with rfl
  ·exact uk)
theorem gd:Irr 1257559732178653 :=
 fh 1257559732178653 2 48905452 25714101 [2,2,23,531581] (by decide +kernel) (by
  intro x hx
  simp only[List.mem_cons,List.not_mem_nil,or_false]at hx
  rcases hx with rfl | rfl | rfl | rfl
  ·exact jE
  ·exact jE
  ·exact zt
  ·exact pj)
theorem ft:Irr 4434155615661930479 :=
 fh 4434155615661930479 2 1257559732178653 3526 [1257559732178653] (by decide +kernel) (by
  intro x hx
  simp only[List.mem_cons,List.not_mem_nil,or_false]at hx
  rcases hx with rfl
  ·exact gd)
theorem dP:Irr 172054593956031949258510691 :=
 fh 172054593956031949258510691 2 4434155615661930479 38802110 [4434155615661930479] (by decide +kernel) (by
  intro x hx
  simp only[List.mem_cons,List.not_mem_nil,or_false]at hx
  rcases hx with rfl
  ·exact ft)
theorem cQ:Irr 19757330305831588566944191468367130476339 :=
 fh 19757330305831588566944191468367130476339 2 172054593956031949258510691 114831751082918 [172054593956031949258510691] (by decide +kernel) (by
  intro x hx
  simp only[List.mem_cons,List.not_mem_nil,or_false]at hx
  rcases hx with rfl
  ·exact dP)
theorem cL:Irr 276602624281642239937218680557139826668747 :=
 fh 276602624281642239937218680557139826668747 2 19757330305831588566944191468367130476339 14 [19757330305831588566944191468367130476339] (by decide +kernel) (by
  intro x hx
  simp only[List.mem_cons,List.not_mem_nil,or_false]at hx
  rcases hx with rfl
  ·exact cQ)
theorem bt:Irr 7237005577332262213973186563042994240857116359379907606001950938285454250989 :=
 fh 7237005577332262213973186563042994240857116359379907606001950938285454250989 2 276602624281642239937218680557139826668747 26163907866482859529727157400808004 [276602624281642239937218680557139826668747] (by decide +kernel) (by
  intro x hx
  simp only[List.mem_cons,List.not_mem_nil,or_false]at hx
  rcases hx with rfl
  ·exact cL)
def pF:Nat:=57896044618658097711785492504343953926634992332820282019728792003956564819949
def jN:Nat:=7237005577332262213973186563042994240857116359379907606001950938285454250989
theorem ordL_irr:Irr jN:=bt
theorem pF_prime:Irr pF ∧ ∀ y,y%pF≠0→y^(pF-1)%pF=1 :=
 wz pF 2 [2,2,3,65147,74058212732561358302231226437062788676166966415465897661863160754340907] (by decide +kernel) (by
  intro x hx
  simp only[List.mem_cons,List.not_mem_nil,or_false]at hx
  rcases hx with rfl | rfl | rfl | rfl | rfl
  ·exact jE
  ·exact jE
  ·exact Bs
  ·exact sD
  ·exact bA)
end
section
theorem zu:0<pF:=by decide +kernel
instance:NeZero pF:=⟨by decide +kernel⟩
def pw{n:Nat}[NeZero n](x:Fin n):Nat→Fin n
 | 0=>1
 | e+1=>pw x e*x
theorem mM{n:Nat}[NeZero n](x:Fin n):∀ e,(pw x e).val=x.val^e%n
 | 0=>by
  show (1:Fin n).val=_
  rw[Nat.pow_zero];rfl
 | e+1=>by
  show (pw x e*x).val=_
  rw[Fin.val_mul,mM x e,Nat.pow_succ,Nat.mod_mul_mod]
theorem gf{n:Nat}[NeZero n](x:Fin n)(a:Nat):∀ b,pw x (a+b)=pw x a*pw x b
 | 0=>by show pw x a=pw x a*1;grind
 | b+1=>by
  show pw x (a+b)*x=pw x a*(pw x b*x)
  rw[gf x a b];grind
theorem kI{n:Nat}[NeZero n](x y:Fin n):∀ b,pw (x*y) b=pw x b*pw y b
 | 0=>by show (1:Fin n)=1*1;grind
 | b+1=>by
  show pw (x*y) b*(x*y)=(pw x b*x)*(pw y b*y)
  rw[kI x y b];grind
def ivF(x:Fin pF):Fin pF:=pw x (pF-2)
theorem jf{x y:Fin pF}(h:x.val=y.val):x=y:=Fin.ext h
theorem jX{x:Fin pF}(h:x≠0):pw x (pF-1)=1:=by
 refine jf ?_
 rw[mM]
 have:=pF_prime.2 x.val (by
  rw[Nat.mod_eq_of_lt x.isLt]
  intro h0;exact h (jf h0))
 rw[this];decide +kernel
theorem qK(x:Fin pF)(h:x≠0):x*ivF x=1:=by
 have:=jX h
 rw[show pF-1=(pF-2)+1 by decide +kernel]at this
 have e:pw x ((pF-2)+1)=pw x (pF-2)*x:=rfl
 rw[e]at this
 unfold ivF;grind
theorem qL{n:Nat}[NeZero n](e:Nat)(h:0<e):pw (0:Fin n) e=0:=by
 obtain ⟨k,rfl⟩:∃ k,e=k+1:=⟨e-1,by omega⟩
 show pw (0:Fin n) k*0=0
 grind
theorem kJ:ivF 0=0:=qL _ (by decide +kernel)
theorem domF(x y:Fin pF)(h:x*y=0):x=0∨y=0:=by
 have hv:(x.val*y.val)%pF=0:=by rw[← Fin.val_mul,h];rfl
 rcases irr_mul pF_prime.1 (Nat.dvd_of_mod_eq_zero hv) with h1 | h1
 ·left;refine jf ?_;have:=Nat.mod_eq_zero_of_dvd h1;rw[Nat.mod_eq_of_lt x.isLt]at this;exact this
 ·right;refine jf ?_;have:=Nat.mod_eq_zero_of_dvd h1;rw[Nat.mod_eq_of_lt y.isLt]at this;exact this
def hF:Nat:=(pF-1)/2
theorem og(x:Fin pF)(e:Nat)(h:e<2^600):(pw x e).val=n8 pF x.val e:=by rw[mM,iH _ _ _ h]
theorem l9{d:Fin pF}(hd:n8 pF d.val hF=pF-1)(s t:Fin pF)(h:s*s=d*(t*t)):t=0:=by
 apply Classical.byContradiction
 intro ht
 have h1:pw (s*s) hF=pw (d*(t*t)) hF:=by rw[h]
 rw[kI,kI,kI,← gf,← gf,show hF+hF=pF-1 by decide +kernel,jX ht]at h1
 have h2:pw d hF = -1:=by
  refine jf ?_
  rw[og d hF (by decide +kernel),hd];decide +kernel
 rw[h2]at h1
 have h4:(-1*1:Fin pF)≠0:=by decide +kernel
 have h5:(-1*1:Fin pF)≠1:=by decide +kernel
 by_cases hs:s=0
 ·rw[hs,qL _ (by decide +kernel)]at h1
  exact h4 h1.symm
 ·rw[jX hs]at h1
  exact h5 h1.symm
def dF:Fin pF:=⟨20800338683988658368647408995589388737092878452977063003340006470870624536394,by decide +kernel⟩
def dT:Fin pF:=⟨28692721048178265397853269683490922171210976843790175684556505508326675974058,by decide +kernel⟩
def aF:Fin pF:=⟨121665,by decide +kernel⟩
theorem yf:aF*(1-dF)=dF:=by decide +kernel
theorem Bu:dF*dT=1:=by decide +kernel
theorem ul:Edw dF ivF:=⟨domF,by decide +kernel,qK,fun s t h=>l9 (by decide +kernel) s t h⟩
theorem wC:Edw dT ivF:=⟨domF,by decide +kernel,qK,fun s t h=>l9 (by decide +kernel) s t h⟩
theorem yg:(-1-aF)*(1-dT)=dT:=by decide +kernel
def rF:Fin pF:=⟨19681161376707505956807079304988542015446066515923890162744021073123829784752,by decide +kernel⟩
theorem Bv:rF*rF = -1:=by decide +kernel
theorem qM{z:Fin pF}(h:pw z hF=1):∃ w,w*w=z:=by
 have h1:pw z ((pF-1)/4)*pw z ((pF-1)/4)=1:=by
  rw[← gf,show (pF-1)/4+(pF-1)/4=hF by decide +kernel,h]
 have h2:pw z ((pF+3)/8)*pw z ((pF+3)/8)=pw z ((pF-1)/4)*z:=by
  rw[← gf,show (pF+3)/8+(pF+3)/8=(pF-1)/4+1 by decide +kernel]
  rfl
 have h3:(pw z ((pF-1)/4)-1)*(pw z ((pF-1)/4)+1)=0:=by
  generalize pw z ((pF-1)/4)=q at *
  grind
 rcases domF _ _ h3 with h4 | h4
 ·refine ⟨pw z ((pF+3)/8),?_⟩
  rw[h2]
  generalize pw z ((pF-1)/4)=q at *
  clear h1 h2 h3 h
  grind
 ·refine ⟨pw z ((pF+3)/8)*rF,?_⟩
  have h5:pw z ((pF+3)/8)*rF*(pw z ((pF+3)/8)*rF)=(pw z ((pF+3)/8)*pw z ((pF+3)/8))*(rF*rF):=by
   generalize pw z ((pF+3)/8)=q;clear h1 h2 h3 h h4
   grind
  rw[h5,h2,Bv]
  generalize pw z ((pF-1)/4)=q at *
  clear h1 h2 h3 h h5
  grind
theorem square_or(z:Fin pF):(∃ w,w*w=z)∨(∃ w,w*w=dT*z):=by
 by_cases h0:z=0
 ·left;refine ⟨0,?_⟩;rw[h0];decide +kernel
 ·have h1:(pw z hF-1)*(pw z hF+1)=0:=by
   have:pw z hF*pw z hF=1:=by rw[← gf,show hF+hF=pF-1 by decide +kernel,jX h0]
   generalize pw z hF=q at *
   grind
  rcases domF _ _ h1 with h2 | h2
  ·left
   refine qM ?_
   generalize pw z hF=q at *
   grind
  ·right
   refine qM ?_
   have h3:pw dT hF = -1:=by
    refine jf ?_
    rw[og dT hF (by decide +kernel)];decide +kernel
   rw[kI,h3]
   generalize pw z hF=q at *
   clear h1 h0 h3
   grind
theorem Edw.lift{n:Nat}[NeZero n]{d:Fin n}{iv:Fin n→Fin n}(E:Edw d iv){u w:Fin n}(hu:u≠0)(hw:w*w=u*((u+1)*(u+1)-d*((u-1)*(u-1)))):
  ∃ g,OnE d g∧uOf iv g=u:=by
 have hc:(u+1)*(u+1)-d*((u-1)*(u-1))≠0:=by
  intro h
  have h1:=E.nsq (u+1) (u-1) (by clear hw;grind)
  have h2:(1+1)*((1:Fin n)+1)=0:=by clear hw;grind
  rcases E.dom _ _ h2 with h | h<;>exact E.two h
 have hu1:u+1≠0:=by
  intro h
  have h1:=E.nsq w (1+1) (by rw[hw];clear hw hc;grind)
  exact E.two h1
 have hw0:w≠0:=by
  rintro rfl
  have:u*((u+1)*(u+1)-d*((u-1)*(u-1)))=0:=by rw[← hw];clear hw hc;grind
  rcases E.dom _ _ this with h | h
  ·exact hu h
  ·exact hc h
 have i1:=E.inv _ hw0
 have i2:=E.inv _ hu1
 have hy:(u-1)*iv (u+1)*(u+1)=u-1:=by
  generalize iv (u+1)=b at *
  clear hw hc
  grind
 have hx:(1+1)*u*iv w*w=(1+1)*u:=by
  generalize iv w=b at *
  clear hw hc hy i2
  grind
 refine ⟨((1+1)*u*iv w,(u-1)*iv (u+1)),?_,?_⟩
 ·unfold OnE
  show (1+1)*u*iv w*((1+1)*u*iv w)+(u-1)*iv (u+1)*((u-1)*iv (u+1))=1+d*((1+1)*u*iv w*((1+1)*u*iv w))*((u-1)*iv (u+1)*((u-1)*iv (u+1)))
  generalize (1+1)*u*iv w=x at *
  generalize (u-1)*iv (u+1)=y at *
  refine E.cancel (E.nz2 (E.nz2 hw0 hw0) (E.nz2 hu1 hu1)) ?_
  have l:(x*x+y*y)*(w*w*((u+1)*(u+1)))=(x*w)*(x*w)*((u+1)*(u+1))+(y*(u+1))*(y*(u+1))*(w*w):=by clear hw hc hx hy i1 i2;grind
  have r:(1+d*(x*x)*(y*y))*(w*w*((u+1)*(u+1)))=w*w*((u+1)*(u+1))+d*((x*w)*(x*w))*((y*(u+1))*(y*(u+1))):=by clear hw hc hx hy i1 i2;grind
  rw[l,r,hx,hy,hw]
  clear l r hx hy hw hc i1 i2
  grind
 ·unfold uOf
  show (1+(u-1)*iv (u+1))*iv (1-(u-1)*iv (u+1))=u
  generalize (u-1)*iv (u+1)=y at *
  have e1:(1-y)*(u+1)=1+1:=by clear hw hc hx i1 i2;grind
  have e2:(1+y)*(u+1)=(1+1)*u:=by clear hw hc hx i1 i2;grind
  have hn:1-y≠0:=by
   intro h
   rw[h]at e1
   apply E.two
   clear hw hc hx i1 i2 hy e2
   grind
  have i3:=E.inv _ hn
  refine E.cancel (E.nz2 hn hu1) ?_
  generalize iv (1-y)=c at *
  have l:(1+y)*c*((1-y)*(u+1))=((1+y)*(u+1))*((1-y)*c):=by clear hw hc hx i1 i2 hy e1 e2 i3;grind
  rw[l,i3,e1,e2]
  clear hw hc hx i1 i2 hy e1 e2 i3 l
  grind
theorem some_point(u:Fin pF)(hu:u≠0):(∃ g,OnE dF g∧uOf ivF g=u)∨(∃ g,OnE dT g∧uOf ivF g = -u):=by
 rcases square_or (u*((u+1)*(u+1)-dF*((u-1)*(u-1)))) with ⟨w,hw⟩ | ⟨w,hw⟩
 ·left;exact ul.lift hu hw
 ·right
  refine wC.lift (u := -u) (w:=w) (by intro h;apply hu;grind) ?_
  rw[hw]
  have h:=Bu
  generalize dF=d at *
  generalize dT=e at *
  clear hw
  have l:e*(u*((u+1)*(u+1)-d*((u-1)*(u-1))))=u*(e*((u+1)*(u+1))-(d*e)*((u-1)*(u-1))):=by clear h;grind
  rw[l,h]
  clear l h
  grind
def xmul(k:Nat)(u:Fin pF):Fin pF:=eN ivF aF u 255 k
theorem kK(u:Fin pF)(k:Nat):xmul k u = -eN ivF (-1-aF) (-u) 255 k:=by
 have:=ul.out_twist kJ aF u 255 k
 unfold xmul
 rw[this];grind
section
variable{n:Nat}[NeZero n]{d:Fin n}{iv:Fin n→Fin n}
theorem Edw.mul_gcd(E:Edw d iv){g:Fin n×Fin n}(hg:OnE d g):∀ (j k:Nat),cl d iv g j=zeroE→cl d iv g k=zeroE→cl d iv g (Nat.gcd j k)=zeroE:=by
 intro j
 induction j using Nat.strongRecOn with
 | _ j ih =>
  intro k hj hk
  rcases Nat.eq_zero_or_pos j with h0 | h0
  ·subst h0;rw[Nat.gcd_zero_left];exact hk
  ·rw[Nat.gcd_rec]
   refine ih (k%j) (Nat.mod_lt _ h0) j ?_ hj
   have h1:=hk
   have h2:∀ t,cl d iv g (j*t)=zeroE:=by
    intro t
    induction t with
    | zero=>rfl
    | succ t iht=>rw[Nat.mul_succ,E.mul_add hg,iht,hj,E.zero_add]
   rw[← Nat.div_add_mod k j,E.mul_add hg,h2,E.zero_add]at h1
   exact h1
theorem Edw.flat_twice(E:Edw d iv){P:Fin n×Fin n}(hx:P.1=0)(hy:P.2*P.2=1):dp d iv P P=zeroE:=by
 have ht:tE d P P=0:=by unfold tE;rw[hx];grind
 refine Prod.ext ?_ ?_
 ·show (P.1*P.2+P.1*P.2)*iv (1+tE d P P)=0
  rw[hx];grind
 ·show (P.2*P.2-P.1*P.1)*iv (1-tE d P P)=1
  have:(1:Fin n)-0=1:=by grind
  rw[ht,hx,hy,this,E.iv1]
  grind
theorem Edw.never0(E:Edw d iv)(iv0:iv 0=0){g:Fin n×Fin n}(hg:OnE d g)(hu:uOf iv g≠0){q:Nat}(hq:Irr q)(h2:2<q)(hz:cl d iv g q=zeroE){m:Nat}(hm:¬ q ∣ m):uOf iv (cl d iv g m)≠0:=by
 intro h
 obtain ⟨fx,fy⟩:=E.u_flat (E.mul_on hg m) h
 have h2m:cl d iv g (m+m)=zeroE:=by rw[E.mul_add hg];exact E.flat_twice fx fy
 have hgcd:=E.mul_gcd hg (m+m) q h2m hz
 rcases irr_gcd (c:=m+m) hq with h1 | h1
 ·rw[h1,E.mul_one]at hgcd
  apply hu
  rw[hgcd]
  unfold uOf zeroE
  have:(1:Fin n)-1=0:=by grind
  show (1+1)*iv (1-1)=0
  rw[this,iv0];grind
 ·rw[show m+m=2*m by omega]at h1
  rcases irr_mul hq h1 with h3 | h3
  ·have:=Nat.le_of_dvd (by omega) h3;omega
  ·exact hm h3
end
end
section
def nineF:Fin pF:=⟨9,by decide +kernel⟩
theorem pk:(ladTo aF nineF 255 jN 255).1.2=0:=by decide +kernel
theorem mN:(ladTo (-1-aF) (-nineF) 255 jN 255).1.2=0:=by decide +kernel
section
variable{n:Nat}[NeZero n]{d:Fin n}{iv:Fin n→Fin n}
theorem Edw.lad_neutral(E:Edw d iv)(iv0:iv 0=0){a:Fin n}(ha:a*(1-d)=d){g:Fin n×Fin n}(hg:OnE d g)(hu0:uOf iv g≠0)(N k:Nat)(hk:k<2^N)
  (hz:(ladTo a (uOf iv g) N k N).1.2=0):cl d iv g k=zeroE:=by
 have h1:1-g.2≠0:=by
  intro h
  apply hu0
  unfold uOf
  rw[h,iv0];grind
 have hu:uOf iv g*(1-g.2)=1+g.2:=by
  have:=E.inv _ h1
  unfold uOf
  grind
 have hr:=(E.lad_rel ha hg hu hu0 N k hk N (by omega)).1
 rw[Nat.sub_self,Nat.pow_zero,Nat.div_one]at hr
 obtain ⟨h2,h3⟩:=hr
 rw[hz]at h2 h3
 generalize (ladTo a (uOf iv g) N k N).1.1=X at *
 have hy:(cl d iv g k).2=1:=by
  refine E.cancel h2 ?_
  rw[← h3];grind
 have hon:=E.mul_on hg k
 unfold OnE at hon
 rw[hy]at hon
 have h4:(1-d)*((cl d iv g k).1*(cl d iv g k).1)=0:=by
  generalize (cl d iv g k).1=x at *
  clear h3 h2 hu hz
  grind
 have hx:(cl d iv g k).1=0:=by
  rcases E.dom _ _ h4 with h | h
  ·exact absurd h E.d1
  ·rcases E.dom _ _ h with h | h<;>exact h
 exact Prod.ext hx hy
end
theorem pl(k l:Nat)(hk:k<2^255)(hl:l<2^255)(hkl:¬ jN ∣ l*k):xmul k (xmul l nineF)≠0:=by
 have h9:nineF≠0:=by decide +kernel
 have h9':-nineF≠0:=by decide +kernel
 have ho:jN<2^255:=by decide +kernel
 have h2:2<jN:=by decide +kernel
 rcases some_point nineF h9 with ⟨g,hg,h⟩ | ⟨g,hg,h⟩
 ·have hz:=ul.lad_neutral kJ yf hg (by rw[h];exact h9) 255 jN ho (by rw[h];exact pk)
  unfold xmul
  rw[← h,ul.lad_comm kJ yf hg 255 k l (by decide) hk hl]
  exact ul.never0 kJ hg (by rw[h];exact h9) ordL_irr h2 hz hkl
 ·have hz:=wC.lad_neutral kJ yg hg (by rw[h];exact h9') 255 jN ho (by rw[h];exact mN)
  have nn:∀ x:Fin pF,- -x=x:=fun x=>by grind
  rw[kK (xmul l nineF) k,kK nineF l,nn,← h,wC.lad_comm kJ yg hg 255 k l (by decide) hk hl]
  have:=wC.never0 kJ hg (by rw[h];exact h9') ordL_irr h2 hz hkl
  intro h0
  apply this
  have e:- -uOf ivF (cl dT ivF g (l*k)) = -0:=by rw[h0]
  rw[nn]at e
  rw[e];decide +kernel
theorem lm(k l:Nat)(hk:8*k<2^255)(hl:8*l<2^255)(hk0:0<k)(hl0:0<l):¬ jN ∣ 8*l*(8*k):=by
 have h252:2^252≤jN:=by decide +kernel
 have h8:8<jN:=by decide +kernel
 have small:∀ x:Nat,0<x→x<2^252 → ¬ jN ∣ x:=fun x h0 h1 h=>by have:=Nat.le_of_dvd h0 h;omega
 intro h
 rcases irr_mul ordL_irr h with h | h
 ·rcases irr_mul ordL_irr h with h | h
  ·exact small 8 (by omega) (by decide) h
  ·exact small l hl0 (by omega) h
 ·rcases irr_mul ordL_irr h with h | h
  ·exact small 8 (by omega) (by decide) h
  ·exact small k hk0 (by omega) h
end
theorem mO{k:Nat}(h:k<18446744073709551616):wd k 0=k:=by unfold wd;omega
theorem eB{k:Nat}(h:k<18446744073709551616)(m:Nat)(hm:0<m):wd k m=0:=by
 refine eM (Nat.lt_of_lt_of_le h ?_)
 rw[show (18446744073709551616:Nat)=2^64 from rfl]
 exact Nat.pow_le_pow_right (by omega) (by omega)
theorem um(a b m:Nat)(hm:m≤4):brw (a+2^256) b m=brw a b m:=by
 unfold brw
 have e:(a+2^256)%2^(64*m)=a%2^(64*m):=by
  have:(2:Nat)^256=2^(64*m)*2^(256-64*m):=by rw[← Nat.pow_add];congr 1;omega
  rw[this,Nat.add_mul_mod_self_left]
 rw[e]
theorem un(a m:Nat)(hm:m<4):wd (a+2^256) m=wd a m:=by
 unfold wd
 have e:(2:Nat)^256=2^(64*m)*(18446744073709551616*2^(192-64*m)):=by
  rw[show (18446744073709551616:Nat)=2^64 from rfl,← Nat.pow_add,← Nat.pow_add];congr 1;omega
 rw[e,Nat.add_mul_div_left _ _ (bO m),Nat.add_mul_mod_self_left]
theorem qN(a b:Nat)(ha:a<2^256)(hb:b<2^256):brw a b 4=if a<b then 1 else 0:=by
 unfold brw
 rw[Nat.mod_eq_of_lt (show a<2^(64*4) from ha),Nat.mod_eq_of_lt (show b<2^(64*4) from hb)]
theorem pm(x y:Nat)(h:wd x 0+y<18446744073709551616):wd (x+y) 0=wd x 0+y ∧ ∀ i,0<i→wd (x+y) i=wd x i:=by
 unfold wd at *
 refine ⟨by omega,fun i hi => ?_⟩
 have e:2^(64*i)=18446744073709551616*2^(64*(i-1)):=by
  rw[show (18446744073709551616:Nat)=2^64 from rfl,← Nat.pow_add];congr 1;omega
 rw[e,← Nat.div_div_eq_div_mul,← Nat.div_div_eq_div_mul,show (x+y)/18446744073709551616=x/18446744073709551616 by omega]
theorem pn(x y:Nat)(h:y≤wd x 0):wd (x-y) 0=wd x 0-y ∧ ∀ i,0<i→wd (x-y) i=wd x i:=by
 unfold wd at *
 refine ⟨by omega,fun i hi => ?_⟩
 have e:2^(64*i)=18446744073709551616*2^(64*(i-1)):=by
  rw[show (18446744073709551616:Nat)=2^64 from rfl,← Nat.pow_add];congr 1;omega
 rw[e,← Nat.div_div_eq_div_mul,← Nat.div_div_eq_div_mul,show (x-y)/18446744073709551616=x/18446744073709551616 by omega]
theorem zw(n t:Nat)(hn:n<2^256)(ht:38*t+38<18446744073709551616):
  (n+38*t)%2^256+38*((n+38*t)/2^256)=fv (n+2^256*t)∧wd ((n+38*t)%2^256) 0+38*((n+38*t)/2^256)<18446744073709551616∧38*((n+38*t)/2^256)≤38:=by
 have e1:f1 (n+2^256*t)=n+38*t:=by unfold f1;omega
 refine ⟨?_,?_,by omega⟩
 ·unfold fv
  rw[e1]
  rfl
 ·unfold wd
  omega
def mi1(a b:Nat):Nat:=(a+2^256-b)%2^256
def mi2(a b:Nat):Nat:=(mi1 a b+2^256-38*brw a b 4)%2^256
def mi(a b:Nat):Nat:=mi2 a b-38*brw (mi1 a b) (38*brw a b 4) 4
theorem zy(a b:Nat):mi1 a b=(a+2^256-b)%2^256:=by unfold mi1;rfl
theorem zz(a b:Nat):mi2 a b=(mi1 a b+2^256-38*brw a b 4)%2^256:=by unfold mi2;rfl
theorem Bw(a b:Nat):mi a b=mi2 a b-38*brw (mi1 a b) (38*brw a b 4) 4:=by unfold mi;rfl
theorem iI(a b:Nat)(ha:a<2^256)(hb:b<2^256):38*brw (mi1 a b) (38*brw a b 4) 4≤wd (mi2 a b) 0∧mi a b<2^256∧(mi a b+b)%pN=a%pN:=by
 have hk:=je a b 4
 have h1:mi1 a b<2^256:=Nat.mod_lt _ (by decide)
 have e1:mi1 a b+b=a+2^256*brw a b 4:=by
  rw[qN a b ha hb];unfold mi1;split<;>omega
 have hd:mi2 a b=(mi1 a b+2^256-38*brw a b 4)%2^256:=rfl
 have hm:mi a b=mi2 a b-38*brw (mi1 a b) (38*brw a b 4) 4:=rfl
 rw[qN (mi1 a b) (38*brw a b 4) h1 (by omega)]at *
 have h2:mi2 a b<2^256:=by rw[hd];exact Nat.mod_lt _ (by decide)
 have p256:2^256=2*pN+38:=by decide
 generalize pN=P at *
 generalize brw a b 4=k at *
 generalize mi1 a b=x at *
 generalize mi2 a b=y at *
 generalize mi a b=z at *
 refine ⟨?_,?_,?_⟩
 ·unfold wd;split<;>omega
 ·split at hm<;>omega
 ·have:k=0∨k=1:=by omega
  rcases this with rfl | rfl
  ·have:z+b=a:=by split at hm<;>omega
   rw[this]
  ·by_cases hlt:x<38*1
   ·rw[if_pos hlt]at hm
    have e:z+b=a+P*4:=by omega
    rw[e,Nat.add_mul_mod_self_left]
   ·rw[if_neg hlt]at hm
    have e:z+b=a+P*2:=by omega
    rw[e,Nat.add_mul_mod_self_left]
theorem zC{L:Nat}(h:L<2^256*2^256):f1 L/2^256≤38:=by
 unfold f1
 have h2:L/2^256<2^256:=by omega
 have h3:L%2^256<2^256:=Nat.mod_lt _ (by decide)
 omega
theorem sF(n:Nat)(hn:n<2^256):
  wd n 3/9223372036854775808=n/2^255∧n/2^255≤1∧(n%2^255+19*(n/2^255))<2^255+19 ∧
  ((n%2^255+19*(n/2^255))+19*((n%2^255+19*(n/2^255)+19)/2^255))%2^255=n%pN:=by
 have p255:2^255=pN+19:=by decide
 have h1:wd n 3/9223372036854775808=n/2^255:=by unfold wd;omega
 have h2:n/2^255≤1:=by omega
 refine ⟨h1,h2,by omega,?_⟩
 clear h1
 have hP0:40<pN:=by decide
 generalize pN=P at *
 generalize hq:n/2^255=q at *
 generalize hr:n%2^255=r at *
 have hr2:r<2^255:=by omega
 obtain ⟨m,hm⟩:∃ m,m=r+19*q:=⟨_,rfl⟩
 have hnn:n=m+P*q:=by
  have:n=2^255*q+r:=by omega
  rw[this,p255,hm,Nat.add_mul];omega
 have hml:m<2^255+19:=by omega
 rw[← hm,hnn,Nat.add_mul_mod_self_left]
 clear hnn hm hq hr hr2 h2 hn
 rw[p255]at *
 by_cases hs:m+19<P+19
 ·rw[Nat.div_eq_of_lt hs,Nat.mul_zero,Nat.add_zero,Nat.mod_eq_of_lt (by omega),Nat.mod_eq_of_lt (by omega)]
 ·have e:(m+19)/(P+19)=1:=by
   apply Nat.div_eq_of_lt_le<;>omega
  rw[e,Nat.mul_one,Nat.mod_eq_sub_mod (by omega),Nat.mod_eq_of_lt (by omega),Nat.mod_eq_sub_mod (show P≤m by omega),Nat.mod_eq_of_lt (by omega)]
  omega
theorem uo(n:Nat):wd (n%2^255) 3=wd n 3%9223372036854775808 ∧ ∀ i,i<3→wd (n%2^255) i=wd n i:=by
 refine ⟨?_,fun i hi => ?_⟩
 ·unfold wd;omega
 ·have:i=0∨i=1∨i=2:=by omega
  rcases this with rfl | rfl | rfl<;>(unfold wd;omega)
theorem bG(b:Nat→UInt8)(m:Nat)(h:m<8):lv b m|||(b m).toNat*2^(8*m)=lv b (m+1)∧lv b m<18446744073709551616∧(b m).toNat*2^(8*m)<18446744073709551616:=by
 have h1:=gJ b m
 have h2:=(b m).toNat_lt
 have e:(256:Nat)^m=2^(8*m):=by rw[show (256:Nat)=2^8 from rfl,← Nat.pow_mul]
 have h3:(2:Nat)^(8*m)≤2^56:=Nat.pow_le_pow_right (by omega) (by omega)
 have h4:(b m).toNat*2^(8*m)≤255*2^56:=Nat.mul_le_mul (by omega) h3
 rw[e]at h1
 refine ⟨?_,by omega,by omega⟩
 have h5:=Nat.shiftLeft_add_eq_or_of_lt h1 (b m).toNat
 rw[Nat.shiftLeft_eq]at h5
 show _=lv b m+(b m).toNat*256^m
 rw[Nat.or_comm,← h5,e,Nat.add_comm]
theorem pp(b:Nat→UInt8)(m:Nat):∀ n,lv b (m+n)=lv b m+256^m*lv (fun j=>b (m+j)) n
 | 0=>by simp[lv]
 | n+1=>by
  show lv b (m+n)+(b (m+n)).toNat*256^(m+n)=lv b m+256^m*(lv (fun j=>b (m+j)) n+(b (m+n)).toNat*256^n)
  rw[pp b m n,Nat.mul_add,Nat.pow_add]
  rw[show (b (m+n)).toNat*(256^m*256^n)=256^m*((b (m+n)).toNat*256^n) by ac_rfl]
  omega
theorem Bx(b:Nat→UInt8)(i:Nat)(hi:i<4):lv (fun j=>b (8*i+j)) 8=wd (lv b 32) i:=by
 have h1:=pp b (8*i) (32-8*i)
 rw[show 8*i+(32-8*i)=32 by omega]at h1
 have h2:=pp (fun j=>b (8*i+j)) 8 (24-8*i)
 rw[show 8+(24-8*i)=32-8*i by omega]at h2
 have hl:=gJ b (8*i)
 have hl8:=gJ (fun j=>b (8*i+j)) 8
 have e:2^(64*i)=256^(8*i):=by rw[show (256:Nat)=2^8 from rfl,← Nat.pow_mul];congr 1;omega
 unfold wd
 rw[e,h1,Nat.add_mul_div_left _ _ (Nat.pow_pos (by decide)),Nat.div_eq_of_lt hl,Nat.zero_add,h2]
 rw[show (256:Nat)^8=18446744073709551616 by decide]at *
 rw[Nat.add_mul_mod_self_left,Nat.mod_eq_of_lt hl8]
def fX(V i:Nat)(f:Nat→UInt8):Nat→UInt8:=fun j=>if 8*i≤j∧j<8*i+8 then aZ V j else f j
theorem wD(V:Nat)(f:Nat→UInt8)(j:Nat)(hj:j<32):fX V 3 (fX V 2 (fX V 1 (fX V 0 f))) j=aZ V j:=by
 unfold fX
 by_cases h3:8*3≤j∧j<8*3+8
 ·rw[if_pos h3]
 ·rw[if_neg h3]
  by_cases h2:8*2≤j∧j<8*2+8
  ·rw[if_pos h2]
  ·rw[if_neg h2]
   by_cases h1:8*1≤j∧j<8*1+8
   ·rw[if_pos h1]
   ·rw[if_neg h1,if_pos (by omega)]
def rs(n:Nat):Nat→Nat
 | 0=>n
 | m+1=>tm (rs n m) (rs n m)
theorem bZ{n:Nat}(hn:n<2^256):∀ k,rs n k<2^256
 | 0=>hn
 | k+1=>aY (bZ hn k) (bZ hn k)
def o2(n:Nat):Nat:=tm (rs n 1) n
def o4(n:Nat):Nat:=tm (rs (o2 n) 2) (o2 n)
def o5(n:Nat):Nat:=tm (rs (o4 n) 1) n
def o10(n:Nat):Nat:=tm (rs (o5 n) 5) (o5 n)
def o20(n:Nat):Nat:=tm (rs (o10 n) 10) (o10 n)
def o40(n:Nat):Nat:=tm (rs (o20 n) 20) (o20 n)
def o50(n:Nat):Nat:=tm (rs (o40 n) 10) (o10 n)
def jg(n:Nat):Nat:=tm (rs (o50 n) 50) (o50 n)
def pq(n:Nat):Nat:=tm (rs (jg n) 100) (jg n)
def kL(n:Nat):Nat:=tm (rs (pq n) 50) (o50 n)
theorem oh{n:Nat}(h:n<2^256):o2 n<2^256:=aY (bZ h 1) h
theorem uq{n:Nat}(h:n<2^256):o4 n<2^256:=aY (bZ (oh h) 2) (oh h)
theorem ol{n:Nat}(h:n<2^256):o5 n<2^256:=aY (bZ (uq h) 1) h
theorem gW{n:Nat}(h:n<2^256):o10 n<2^256:=aY (bZ (ol h) 5) (ol h)
theorem kN{n:Nat}(h:n<2^256):o20 n<2^256:=aY (bZ (gW h) 10) (gW h)
theorem pr{n:Nat}(h:n<2^256):o40 n<2^256:=aY (bZ (kN h) 20) (kN h)
theorem gX{n:Nat}(h:n<2^256):o50 n<2^256:=aY (bZ (pr h) 10) (gW h)
theorem iJ{n:Nat}(h:n<2^256):jg n<2^256:=aY (bZ (gX h) 50) (gX h)
theorem mP{n:Nat}(h:n<2^256):pq n<2^256:=aY (bZ (iJ h) 100) (iJ h)
theorem gy{n:Nat}(h:n<2^256):kL n<2^256:=aY (bZ (mP h) 50) (gX h)
def i3(n:Nat):Nat:=tm (rs n 1) n
def i11(n:Nat):Nat:=tm (rs n 3) (i3 n)
theorem yh{n:Nat}(h:n<2^256):i3 n<2^256:=aY (bZ h 1) h
theorem ur{n:Nat}(h:n<2^256):i11 n<2^256:=aY (bZ h 3) (yh h)
def iv(n:Nat):Nat:=tm (rs (kL n) 5) (i11 n)
theorem Bz{n:Nat}(h:n<2^256):iv n<2^256:=aY (bZ (gy h) 5) (ur h)
theorem dZ{n a b x y:Nat}(hx:x%pN=n^a%pN)(hy:y%pN=n^b%pN):tm x y%pN=n^(a+b)%pN:=by
 rw[t7,Nat.mul_mod,hx,hy,← Nat.mul_mod,← Nat.pow_add]
theorem dM{n a x:Nat}(hx:x%pN=n^a%pN):∀ k,rs x k%pN=n^(a*2^k)%pN
 | 0=>by rw[Nat.pow_zero,Nat.mul_one];exact hx
 | k+1=>by
  have h:=dZ (dM hx k) (dM hx k)
  rw[show a*2^(k+1)=a*2^k+a*2^k by rw[Nat.pow_succ,← Nat.mul_assoc,Nat.mul_two]]
  exact h
theorem zD(n:Nat):iv n%pN=n^(pN-2)%pN:=by
 have h1:n%pN=n^1%pN:=by rw[Nat.pow_one]
 have h2:=dZ (dM h1 1) h1
 have h4:=dZ (dM h2 2) h2
 have h5:=dZ (dM h4 1) h1
 have h10:=dZ (dM h5 5) h5
 have h20:=dZ (dM h10 10) h10
 have h40:=dZ (dM h20 20) h20
 have h50:=dZ (dM h40 10) h10
 have h100:=dZ (dM h50 50) h50
 have h200:=dZ (dM h100 100) h100
 have h250:=dZ (dM h200 50) h50
 have g11:=dZ (dM h1 3) h2
 have h:=dZ (dM h250 5) g11
 refine Eq.trans h ?_
 congr 2
def toF(v:Nat):Fin pF:=⟨v%pF,Nat.mod_lt _ zu⟩
theorem wE(v:Nat):(toF v).val=v%pN:=rfl
theorem mQ{u v:Nat}(h:u%pN=v%pN):toF u=toF v:=Fin.ext h
theorem wF(v:Nat):toF (v%pN)=toF v:=mQ (Nat.mod_mod _ _)
theorem iK(u v:Nat):toF (u+v)=toF u+toF v:=by
 refine Fin.ext ?_
 rw[Fin.val_add]
 show (u+v)%pF=(u%pF+v%pF)%pF
 rw[← Nat.add_mod]
theorem wG(u v:Nat):toF (u*v)=toF u*toF v:=by
 refine Fin.ext ?_
 rw[Fin.val_mul]
 show (u*v)%pF=(u%pF*(v%pF))%pF
 rw[← Nat.mul_mod]
theorem pt(v:Nat):toF (fv v)=toF v:=mQ (tZ v)
theorem fi(u v:Nat):toF (tm u v)=toF u*toF v:=by rw[← wG];exact mQ (t7 u v)
theorem zG(u v:Nat)(hu:u<2^256)(hv:v<2^256):toF (mi u v)=toF u-toF v:=by
 have h:=mQ (iI u v hu hv).2.2
 rw[iK]at h
 generalize toF (mi u v)=x at *
 rw[← h];grind
theorem sG(u v:Nat):toF (fv (u+(pN-v%pN)))=toF u-toF v:=by
 rw[pt,iK]
 have h:toF (pN-v%pN)+toF v=0:=by
  rw[← iK]
  refine Fin.ext ?_
  have hl:v%pN<pN:=Nat.mod_lt _ (by decide)
  show (pN-v%pN+v)%pN=0
  have e:(pN-v%pN+v)%pN=(pN-v%pN+v%pN)%pN:=by rw[Nat.add_mod_mod]
  rw[e,Nat.sub_add_cancel (Nat.le_of_lt hl),Nat.mod_self]
 generalize toF (pN-v%pN)=x at *
 generalize toF v=y at *
 grind
theorem zH(n:Nat):toF (iv n)=ivF (toF n):=by
 refine Fin.ext ?_
 unfold ivF
 rw[mM]
 show iv n%pN=(n%pF)^(pF-2)%pF
 rw[zD,← Nat.pow_mod]
 rfl
theorem om(v:Nat):lv (aZ (v%pN)) 32=v%pN:=by
 rw[t4]
 exact Nat.mod_eq_of_lt (Nat.lt_of_lt_of_le (Nat.mod_lt _ (by decide)) (by decide))
theorem sH(v:Nat):toF (lv (aZ (v%pN)) 32)=toF v:=by rw[om,wF]
theorem qO(x y c:Nat)(hc:c≤1)(w:World):(callFunc 115 #[.int .u64 (x:Int),.int .u64 (y:Int),.int .u64 (c:Int)]).run Tryz.prog w =
  .ok (.value (.tuple #[.int .u64 (((x+y+c)%18446744073709551616:Nat):Int),.int .u64 (((x+y+c)/18446744073709551616:Nat):Int)])) w:=by
 rw[run_callFunc_extern Tryz.func115 (by kernel_rfl) (by kernel_rfl) (by kernel_rfl) (e:=add64Entry) (by kernel_rfl),run_add64 _ _ _ (by omega) (by omega) (by omega) (by omega)]
 rfl
theorem wH(x y b:Nat)(hb:b≤1)(w:World):(callFunc 152 #[.int .u64 (x:Int),.int .u64 (y:Int),.int .u64 (b:Int)]).run Tryz.prog w =
  .ok (.value (.tuple #[.int .u64 (((x+18446744073709551616-y-b)%18446744073709551616:Nat):Int),.int .u64 ((if x<y+b then 1 else 0:Nat):Int)])) w:=by
 rw[run_callFunc_extern Tryz.func152 (by kernel_rfl) (by kernel_rfl) (by kernel_rfl) (e:=sub64Entry) (by kernel_rfl),run_sub64 x y b hb]
 rfl
theorem mR(a b m:Nat)(w:World):(callFunc 115 #[.int .u64 (wd a m:Int),.int .u64 (wd b m:Int),.int .u64 (cry a b m:Int)]).run Tryz.prog w =
  .ok (.value (.tuple #[.int .u64 (wd (a+b) m:Int),.int .u64 (cry a b (m+1):Int)])) w:=by
 rw[qO _ _ _ (mJ a b m),ky,sy]
theorem qP(a b m:Nat)(hba:b≤a)(w:World):(callFunc 152 #[.int .u64 (wd a m:Int),.int .u64 (wd b m:Int),.int .u64 (brw a b m:Int)]).run Tryz.prog w =
  .ok (.value (.tuple #[.int .u64 (wd (a-b) m:Int),.int .u64 (brw a b (m+1):Int)])) w:=by
 rw[wH _ _ _ (je a b m),tX a b m hba,tW]
theorem wJ(x y:Nat)(hx:x<18446744073709551616)(hy:y<18446744073709551616)(w:World):
  Calls Tryz.prog 120 #[.int .u64 x,.int .u64 y] w fun e w'=>e=.returned (.tuple #[.int .u64 ((x*y/18446744073709551616:Nat):Int),.int .u64 ((x*y%18446744073709551616:Nat):Int)])∧w'=w:=by
 obtain ⟨p0,p1,p2,top⟩:=Lib.mul64_hi x y hx hy
 have le:∀ a b:Nat,a<4294967296→b<4294967296→a*b<18446744073709551616:=fun a b ha hb =>
  Nat.lt_of_le_of_lt (Lib.half_mul_le (by omega) (by omega)) (by decide)
 have q1:=le (x/4294967296) (y%4294967296) (by omega) (by omega)
 have q2:=le (x%4294967296) (y/4294967296) (by omega) (by omega)
 have q3:=le (x/4294967296) (y/4294967296) (by omega) (by omega)
 have whole:x*y/18446744073709551616<18446744073709551616:=by
  have:x*y≤18446744073709551615*18446744073709551615:=Nat.mul_le_mul (by omega) (by omega)
  omega
 have q4:=Nat.lt_of_le_of_lt (Nat.le_add_right _ _) (top▸whole)
 go_enter Tryz.func120,Tryz.ntmps120
 go_wp2
 simp only[Mul64.maskN x hx,Mul64.maskN y hy,Mul64.maskN _ p1,Mul64.divN,Mul64.mulN,Mul64.addN,Mul64.wrapN _ p0,Mul64.wrapN _ p1,Mul64.wrapN _ p2,Mul64.wrapN _ q1,Mul64.wrapN _ q2,Mul64.wrapN _ q3,Mul64.wrapN _ q4,Mul64.wrapN _ (top▸whole),Mul64.wrapM]
 rw[top]
 go_ret2
 exact ⟨rfl,rfl⟩
abbrev cN(n:Nat):Array Value := #[.int .u64 ((wd n 0:Nat):Int),.int .u64 ((wd n 1:Nat):Int),.int .u64 ((wd n 2:Nat):Int),.int .u64 ((wd n 3:Nat):Int)]
abbrev vN(n:Nat):Value:=.agg (cN n)
abbrev z4:Array Value := #[.int .u64 0,.int .u64 0,.int .u64 0,.int .u64 0]
theorem d8(n i:Nat)(h:i<4):wd (n%2^256) i=wd n i:=pd n i 4 h
theorem ji(n:Nat):vN (n%2^256)=vN n:=by
 unfold vN cN
 rw[d8 n 0 (by decide),d8 n 1 (by decide),d8 n 2 (by decide),d8 n 3 (by decide)]
theorem ut(n:Nat):vN n=(cQs 4).val (bc n):=by
 show _=Value.agg #[.int .u64 ((bc n 0).toNat:Int),.int .u64 ((bc n 1).toNat:Int),.int .u64 ((bc n 2).toNat:Int),.int .u64 ((bc n 3).toNat:Int)]
 rw[gu,gu,gu,gu]
theorem CM{P:Program}{a:Act}{o:Oper}{w:World}{f:FuncId}{xs:List Operand}{vs:List Value}{ts:Array TypeId}{v:Value}(ho:o.op=.call { callee:=.value (.func f),args:=xs.toArray,argTypes:=ts })(hx:Evs a xs vs)(hr:(callFunc f vs.toArray).run P w=.ok (.value v) w):(execOp a.eval o).run P w=.ok (.value v) w:=by
 have e:=hx.map
 unfold execOp
 simp only[ho,resolve,Act.eval,Deferred.ofValue,Sem.run_bind,Sem.run_pure,Result.andThen_ok,invoke,List.map_toArray]
 simp[e,hr]
theorem Vl.xt{P:Program}{o:Oper}{n:Sz}{l:aS}{f:FuncId}{xs:List Operand}{vs:List Value}{ts:Array TypeId}{v:Value}(hr:∀ w,(callFunc f vs.toArray).run P w=.ok (.value v) w)(ho:o.op=.call { callee:=.value (.func f),args:=xs.toArray,argTypes:=ts }:=by exact rfl)(hx:vos l xs=some vs:=by exact rfl):Vl P n l o v:=fun _ w hF=>CM ho (hF.vos hx) (hr w)
theorem wK{P:Program}{w:World}{t ty:TypeId}{k g:Nat}{cs:Array Value}{l:aS}{fn:Func}{RR:Ending→World→Prop}{nn:Nat}{p u:Tmp}{v:Value}(i j:Nat)(hb:w.heap[g]?=some (.cells cs t (0,0)))(hf:fn.results = #[.tmp u,.cell p ty])(hi:l[i]?=some (p,.pointer (some ⟨g,0,none⟩)))(hj:l[j]?=some (u,v))(hdd:(P.underlying ty).map (·.isRow)=some true)(hk:cs.size=k)(hs:(P.info? ty).map (·.size)=some k)(hR:RR (.returned (.tuple #[v,.agg cs])) w):QX (bodyPost P fn RR) .ret ⟨nn,[]⟩ l w:=fun a hF=>by
 obtain ⟨d,hu,hdr⟩:=dR hdd
 have hp:a.tmps.getD p undef=.pointer (some ⟨g,0,none⟩):=hF.at i hi
 have hv:a.tmps.getD u undef=v:=hF.at j hj
 refine bodyPost_ret (v:=.tuple #[v,.agg cs]) ?_ hF.defers hR
 have hl:=run_loadVar_row (P:=P) w g t ty cs (0,0) d hb hu (by cases d<;>first | rfl | cases hdr) (by rw[hs,hk])
 simp only[Array.getD_eq_getD_getElem?]at hp hv
 simp[results,hf,hp,hv,asAddr,hl]
theorem jO(a b m:Nat)(w:World):(callFunc 115 #[.int .u64 (wd a m:Int),.int .u64 (wd b m:Int),.int .u64 (cry a b m:Int)]).run Tryz.prog w=.ok (.value (.tuple #[.int .u64 (wd (a+b) m:Int),.int .u64 (cry a b (m+1):Int)])) w:=mR a b m w
theorem wL(a b:Nat)(w:World):(callFunc 115 #[.int .u64 (wd a 0:Int),.int .u64 (wd b 0:Int),.int .u64 0]).run Tryz.prog w=.ok (.value (.tuple #[.int .u64 (wd (a+b) 0:Int),.int .u64 (cry a b 1:Int)])) w:=by
 have:=mR a b 0 w
 rw[iD]at this
 exact this
theorem uu(a b m:Nat)(hb:wd b m=0)(w:World):(callFunc 115 #[.int .u64 (wd a m:Int),.int .u64 0,.int .u64 (cry a b m:Int)]).run Tryz.prog w=.ok (.value (.tuple #[.int .u64 (wd (a+b) m:Int),.int .u64 (cry a b (m+1):Int)])) w:=by
 have:=mR a b m w
 rw[hb]at this
 exact this
theorem CN(n k:Nat)(hk:k<18446744073709551616)(w:World):(callFunc 115 #[.int .u64 (wd n 0:Int),.int .u64 (k:Int),.int .u64 0]).run Tryz.prog w=.ok (.value (.tuple #[.int .u64 (wd (n+k) 0:Int),.int .u64 (cry n k 1:Int)])) w:=by
 have:=wL n k w
 rw[mO hk]at this
 exact this
theorem uv(a b m:Nat)(hb:b≤2^256)(hm:m<4)(w:World):(callFunc 152 #[.int .u64 (wd a m:Int),.int .u64 (wd b m:Int),.int .u64 (brw a b m:Int)]).run Tryz.prog w=.ok (.value (.tuple #[.int .u64 (wd (a+2^256-b) m:Int),.int .u64 (brw a b (m+1):Int)])) w:=by
 have h:=qP (a+2^256) b m (by omega) w
 rw[um a b m (by omega),um a b (m+1) (by omega),un a m hm]at h
 exact h
theorem BA(a b:Nat)(hb:b≤2^256)(w:World):(callFunc 152 #[.int .u64 (wd a 0:Int),.int .u64 (wd b 0:Int),.int .u64 0]).run Tryz.prog w=.ok (.value (.tuple #[.int .u64 (wd (a+2^256-b) 0:Int),.int .u64 (brw a b 1:Int)])) w:=by
 have h:=uv a b 0 hb (by decide) w
 rw[nX]at h
 exact h
theorem CO(n k:Nat)(hk:k<18446744073709551616)(w:World):(callFunc 152 #[.int .u64 (wd n 0:Int),.int .u64 (k:Int),.int .u64 0]).run Tryz.prog w=.ok (.value (.tuple #[.int .u64 (wd (n+2^256-k) 0:Int),.int .u64 (brw n k 1:Int)])) w:=by
 have h:=BA n k (by omega) w
 rw[mO hk]at h
 exact h
theorem zI(n k m:Nat)(hk:k<18446744073709551616)(hz:wd k m=0)(hm:m<4)(w:World):(callFunc 152 #[.int .u64 (wd n m:Int),.int .u64 0,.int .u64 (brw n k m:Int)]).run Tryz.prog w=.ok (.value (.tuple #[.int .u64 (wd (n+2^256-k) m:Int),.int .u64 (brw n k (m+1):Int)])) w:=by
 have h:=uv n k m (by omega) hm w
 rw[hz]at h
 exact h
theorem px(x y:Nat)(hx:x<18446744073709551616)(hy:y<18446744073709551616):Pure Tryz.prog 120 #[.int .u64 (x:Int),.int .u64 (y:Int)] (fun _=>True) (.tuple #[.int .u64 (wd (x*y) 1:Int),.int .u64 (wd (x*y) 0:Int)]):=fun w _=>(wJ x y hx hy w).mono fun e w' ⟨h1,h2⟩=>by
 subst h1 h2
 have h:x*y≤18446744073709551615*18446744073709551615:=Nat.mul_le_mul (by omega) (by omega)
 refine ⟨?_,Below.refl _ _⟩
 unfold wd
 rw[show (2:Nat)^(64*1)=18446744073709551616 by decide,show (2:Nat)^(64*0)=1 by decide,Nat.div_one,Nat.mod_eq_of_lt (a:=x*y/18446744073709551616) (by omega)]
def sNt:Scal Nat:=⟨fun x=>.int .u64 (x:Int),fun _=>rfl⟩
abbrev cNs(n:Nat):Cod (Nat→Nat):=sNt.vec n
abbrev rN(n:Nat):Value:=(cNs 4).val (wd n)
theorem zJ(n:Nat):rN (n%2^256)=rN n:=congrArg Value.agg (aP (S:=sNt) fun i hi=>d8 n i hi)
def kW(v k:Nat):Nat→Nat:=fun i=>if i<k then wd v i else 0
theorem qQ(v k:Nat):stF (kW v k) k (wd v k)=kW v (k+1):=by
 funext j
 unfold stF kW
 by_cases h:j=k
 ·subst h;simp
 ·by_cases h2:j<k
  ·simp[h,h2,Nat.lt_succ_of_lt h2]
  ·have h3:¬ j<k+1:=by omega
   simp[h,h2,h3]
theorem uw{v i:Nat}(h:i<4):wd v i=kW v 4 i:=(if_pos h).symm
theorem qR(a b:Nat)(hba:b≤a):Pure Tryz.prog 117 #[((cNs 4).val (wd a)),((cNs 4).val (wd b))] (fun _=>True) (rN (a-b)):=by
 refine pU Tryz.func117 Tryz.ntmps117 ?_
 intro w0 hH hR
 refine zr (zB hH (cNs 4) (wd a) 1 ?_)
 clear hH
 intro g1 w hH
 refine zB hH (cNs 4) (wd b) 2 ?_
 clear hH
 intro g2 w hH
 refine zA hH (cNs 4) (fun _=>0) 0 ?_
 clear hH
 intro g3 w hH
 refine zn (zr (zA hH (cNs 4) (fun _=>0) 0 ?_))
 clear hH
 intro g4 w hH
 refine zn (zr (zv .mv 0 ?_))
 refine zn (aj ?_)
 replace hH:HH w0 [] [[bl g1 97 ((cNs 4).enc (wd a))],[bl g2 97 ((cNs 4).enc (wd b))],[bl g3 97 ((cNs 4).enc (fun _=>0))],[bl g4 97 ((cNs 4).enc (kW (a-b) 0))]] w:=by exact hH
 refine zr (zv .mv 0 ?_)
 refine zn (ai (zL2 (fun (i:Nat) (cc:Nat)=>[(8,(.int .i64 i)),(6,(.int .u64 cc)),(5,(.pointer (some ⟨g4,0,none⟩))),(4,(.pointer (some ⟨g3,0,none⟩))),(3,(.pointer (some ⟨g2,0,none⟩))),(2,(.pointer (some ⟨g1,0,none⟩)))]) (fun i cc w=>HH w0 [] [[bl g1 97 ((cNs 4).enc (wd a))],[bl g2 97 ((cNs 4).enc (wd b))],[bl g3 97 ((cNs 4).enc (fun _=>0))],[bl g4 97 ((cNs 4).enc (kW (a-b) i))]] w∧(i≤4)∧(cc=brw a b i)) (fun i _=>4-i) 0 0 ⟨hH,(Nat.zero_le _),(nX a b).symm⟩ ?_))
 clear hH
 rintro i cc w ⟨hH,hi,hcc⟩
 refine zr (zv (.lt (i<4)) 0 ?_)
 refine zn (aj ?_)
 refine zP (fun hc5 => ?_) (fun hc5 => ?_)
 refine aA (ag (aj (ai ?_)))
 subst hcc
 refine zr (zv .mv 1 ?_)
 refine zv .mv 1 ?_
 refine zn (br mixedOrders (by kernel_rfl) ?_)
 replace hH:=hH.drew
 refine rv 0 .mv 0 ?_
 refine rv 1 .mv 0 ?_
 have hi6:i<4:=by omega
 refine rv 2 (.ia 1 4 i (hi:=hi6)) 1 ?_
 refine rld 3 (hH.q 0 rfl) (.ld sNt.cod ((wd a) i) (fun _ hS=>((ae hS).eltV hi6))) 1 ?_
 refine rv 4 .mv 4 ?_
 have hi7:i<4:=by omega
 refine rv 5 (.ia 1 4 i (hi:=hi7)) 1 ?_
 refine rld 6 (hH.q 1 rfl) (.ld sNt.cod ((wd b) i) (fun _ hS=>((ae hS).eltV hi7))) 1 ?_
 refine rv 7 .mv 0 ?_
 refine rv 8 (.xt (qP a b i hba)) 7 ?_
 refine rv 9 .mv 1 ?_
 refine rv 10 .ext 0 ?_
 refine rv 11 .ext 2 ?_
 have hi8:i<4:=by omega
 refine rv 12 (.ia 1 4 i (hi:=hi8)) 4 ?_
 refine ao 13 ?_
 refine re0 13 3 hH rfl (.st sNt.cod (wd (a-b) i) (aU (S:=sNt) (C:=(cNs 4)) rfl hi8) (bE (kW (a-b) i) (wd (a-b) i) hi8)) trivial (pgo [] (pgo [] (.nil _ []))) ?_
 clear hH
 rintro _ _ w rfl hH
 refine ⟨an,rv 14 .mv 23 ?_⟩
 refine bQ (by kernel_rfl) ?_
 refine aN (ag ?_)
 replace hH:HH w0 [] [[bl g1 97 ((cNs 4).enc (wd a))],[bl g2 97 ((cNs 4).enc (wd b))],[bl g3 97 ((cNs 4).enc (fun _=>0))],[bl g4 97 ((cNs 4).enc (kW (a-b) (i+1)))]] w:=by rw[qQ]at hH;exact hH
 refine aC (zv (.add ((i+1:Nat):Int)) 2 ?_)
 refine zv .mv 1 ?_
 refine aD ?_
 exact zR2 (i+1) (brw a b (i+1)) ⟨hH,(by omega),rfl⟩ (by omega)
 refine aJ (ak (ak (aR (ag ?_))))
 obtain rfl:i=4:=by omega
 subst hcc
 have he9:(cNs 4).enc (wd (a-b))=(cNs 4).enc (kW (a-b) 4):=aP (fun _ hj=>uw hj)
 replace hH:HH w0 [] [[bl g1 97 ((cNs 4).enc (wd a))],[bl g2 97 ((cNs 4).enc (wd b))],[bl g3 97 ((cNs 4).enc (fun _=>0))],[bl g4 97 ((cNs 4).enc (wd (a-b)))]] w:=by rw[he9];exact hH
 refine zr (zs (hH.q 3 rfl) (.l0 (cNs 4) (wd (a-b))) 111 ?_)
 refine zW 2 hH rfl (wd (a-b)) ?_
 clear hH
 intro w hH
 refine zn (ar (aI 1 (hH.blk 2 rfl) rfl rfl (by kernel_rfl) (Cod.size _ _) (by kernel_rfl) ?_))
 exact zE hH
theorem wM(f:Nat→Nat)(V:Nat):∀ i,i<4→wd (V%2^256) i=stF (stF (stF (stF f 0 (wd V 0)) 1 (wd V 1)) 2 (wd V 2)) 3 (wd V 3) i:=fun i hi=>by
 rw[d8 V i hi]
 have:i=0∨i=1∨i=2∨i=3:=by omega
 rcases this with rfl | rfl | rfl | rfl<;>rfl
theorem sI{m k:Nat}(hm:m<2^256)(hk:k<18446744073709551616):cry m (k*38) 4=(m+k*38)/2^256∧fv ((m+k*38)%2^256+2^256*cry m (k*38) 4)=fv (m+2^256*k):=by
 have hc:cry m (k*38) 4=(m+k*38)/2^256:=jW m (k*38) 4 hm (by show k*38<2^256;omega)
 refine ⟨hc,?_⟩
 have e1:f1 (m+2^256*k)=m+k*38:=by unfold f1;omega
 have e3:(m+k*38)%2^256+2^256*((m+k*38)/2^256)=f1 (m+2^256*k):=by rw[e1];omega
 rw[hc,e3]
 show f1 (f1 (f1 (m+2^256*k)))=f1 (f1 (m+2^256*k))
 exact kz (nY (by omega))
theorem qS(n h:Nat)(hn:n<2^256)(hh:h<18446744073709551616):Pure Tryz.prog 116 #[((cNs 4).val (wd n)),(.int .u64 h)] (fun _=>True) (rN (fv (n+2^256*h))):=by
 refine pU Tryz.func116 Tryz.ntmps116 ?_
 intro w0 hH hR
 refine zr (zB hH (cNs 4) (wd n) 1 ?_)
 clear hH
 intro g1 w hH
 refine zA hH (cNs 4) (fun _=>0) 0 ?_
 clear hH
 intro g2 w hH
 refine zn (aj (ai (zL2 (fun (_:Nat) (k:Nat)=>[(4,(.pointer (some ⟨g2,0,none⟩))),(2,(.pointer (some ⟨g1,0,none⟩))),(1,(.int .u64 k))]) (fun m k w=>HH w0 [] [[bl g1 97 ((cNs 4).enc (wd m))],[bl g2 97 ((cNs 4).enc (fun _=>0))]] w∧(m<2^256)∧(k<18446744073709551616)∧(fv (m+2^256*k)=fv (n+2^256*h))) (fun m k=>m+2^256*k) n h ⟨hH,hn,hh,rfl⟩ ?_)))
 clear hH
 rintro m k w ⟨hH,hm,hk,he⟩
 refine aj (zr (zv .mv 0 ?_))
 refine zv (.ne (k≠0)) 1 ?_
 refine zn ?_
 refine zP (fun hc3 => ?_) (fun hc3 => ?_)
 refine aA (ag (ai ?_))
 have z2:wd (k*38) 2=0:=eM (by omega)
 have z3:wd (k*38) 3=0:=eM (by omega)
 obtain ⟨e1,e2⟩:=sI hm hk
 refine zr (zv .mv 9 ?_)
 refine zc Tryz.func120 (px k 38 hk (by decide)) trivial hH 1 ?_
 clear hH
 intro w hH
 refine zv .mv 1 ?_
 refine zv .ext 0 ?_
 refine zv .ext 2 ?_
 refine zv .mv 2 ?_
 refine zv .mv 2 ?_
 refine zn (zr (zv .mv 0 ?_))
 refine zn (zr ?_)
 have hi4:0<4:=by omega
 refine zv (.ia 1 4 0 (hi:=hi4)) 1 ?_
 refine zs (hH.q 0 rfl) (.ld sNt.cod ((wd m) 0) (fun _ hS=>((ae hS).eltV hi4))) 1 ?_
 refine zv .mv 2 ?_
 refine zv (.xt (wL m (k*38))) 3 ?_
 refine zv .mv 1 ?_
 refine zv .ext 0 ?_
 refine zv .ext 2 ?_
 have hi5:0<4:=by omega
 refine zv (.ia 1 4 0 (hi:=hi5)) 0 ?_
 refine ze0 0 hH rfl (.st sNt.cod (wd (m+k*38) 0) (aU (S:=sNt) (C:=(cNs 4)) rfl hi5) (bE (wd m) (wd (m+k*38) 0) hi5)) trivial ?_
 clear hH
 rintro _ _ w rfl hH
 refine zv .mv 7 ?_
 refine zn (zr ?_)
 have hi6:1<4:=by omega
 refine zv (.ia 1 4 1 (hi:=hi6)) 0 ?_
 refine zs (hH.q 0 rfl) (.ld sNt.cod ((stF (wd m) 0 (wd (m+k*38) 0)) 1) (fun _ hS=>((ae hS).eltV hi6))) 1 ?_
 refine zv .mv 4 ?_
 refine zv .mv 4 ?_
 refine zv (.xt (jO m (k*38) 1)) 7 ?_
 refine zv .mv 1 ?_
 refine zv .ext 0 ?_
 refine zv .ext 2 ?_
 have hi7:1<4:=by omega
 refine zv (.ia 1 4 1 (hi:=hi7)) 0 ?_
 refine ze0 0 hH rfl (.st sNt.cod (wd (m+k*38) 1) (aU (S:=sNt) (C:=(cNs 4)) rfl hi7) (bE (stF (wd m) 0 (wd (m+k*38) 0)) (wd (m+k*38) 1) hi7)) trivial ?_
 clear hH
 rintro _ _ w rfl hH
 refine zv .mv 7 ?_
 refine zn (zr ?_)
 have hi8:2<4:=by omega
 refine zv (.ia 1 4 2 (hi:=hi8)) 0 ?_
 refine zs (hH.q 0 rfl) (.ld sNt.cod ((stF (stF (wd m) 0 (wd (m+k*38) 0)) 1 (wd (m+k*38) 1)) 2) (fun _ hS=>((ae hS).eltV hi8))) 1 ?_
 refine zv .mv 2 ?_
 refine zv (.xt (uu m (k*38) 2 z2)) 3 ?_
 refine zv .mv 1 ?_
 refine zv .ext 0 ?_
 refine zv .ext 2 ?_
 have hi9:2<4:=by omega
 refine zv (.ia 1 4 2 (hi:=hi9)) 0 ?_
 refine ze0 0 hH rfl (.st sNt.cod (wd (m+k*38) 2) (aU (S:=sNt) (C:=(cNs 4)) rfl hi9) (bE (stF (stF (wd m) 0 (wd (m+k*38) 0)) 1 (wd (m+k*38) 1)) (wd (m+k*38) 2) hi9)) trivial ?_
 clear hH
 rintro _ _ w rfl hH
 refine zv .mv 7 ?_
 refine zn (aC ?_)
 have hi10:3<4:=by omega
 refine zv (.ia 1 4 3 (hi:=hi10)) 0 ?_
 refine zs (hH.q 0 rfl) (.ld sNt.cod ((stF (stF (stF (wd m) 0 (wd (m+k*38) 0)) 1 (wd (m+k*38) 1)) 2 (wd (m+k*38) 2)) 3) (fun _ hS=>((ae hS).eltV hi10))) 1 ?_
 refine zv .mv 2 ?_
 refine zv (.xt (uu m (k*38) 3 z3)) 3 ?_
 refine zv .mv 1 ?_
 refine zv .ext 0 ?_
 refine zv .ext 2 ?_
 have hi11:3<4:=by omega
 refine zv (.ia 1 4 3 (hi:=hi11)) 0 ?_
 refine ze0 0 hH rfl (.st sNt.cod (wd (m+k*38) 3) (aU (S:=sNt) (C:=(cNs 4)) rfl hi11) (bE (stF (stF (stF (wd m) 0 (wd (m+k*38) 0)) 1 (wd (m+k*38) 1)) 2 (wd (m+k*38) 2)) (wd (m+k*38) 3) hi11)) trivial ?_
 clear hH
 rintro _ _ w rfl hH
 refine zv .mv 7 ?_
 refine aD (aN ?_)
 have he12:(cNs 4).enc (wd ((m+k*38)%2^256))=(cNs 4).enc (stF (stF (stF (stF (wd m) 0 (wd (m+k*38) 0)) 1 (wd (m+k*38) 1)) 2 (wd (m+k*38) 2)) 3 (wd (m+k*38) 3)):=aP (wM _ _)
 replace hH:HH w0 [] [[bl g1 97 ((cNs 4).enc (wd ((m+k*38)%2^256)))],[bl g2 97 ((cNs 4).enc (fun _=>0))]] w:=by rw[he12];exact hH
 exact zR2 ((m+k*38)%2^256) (cry m (k*38) 4) ⟨hH,(Nat.mod_lt _ (by decide)),(by omega),(by rw[e2,he])⟩ (by omega)
 refine aJ (ak (ak (aR (ag ?_))))
 have hk0:k=0:=by omega
 subst hk0
 rw[Nat.mul_zero,Nat.add_zero,tY hm]at he
 subst he
 refine zr (zs (hH.q 0 rfl) (.l0 (cNs 4) (wd (fv (n+2^256*h)))) 13 ?_)
 refine zW 1 hH rfl (wd (fv (n+2^256*h))) ?_
 clear hH
 intro w hH
 refine zn (ar (aI 1 (hH.blk 1 rfl) rfl rfl (by kernel_rfl) (Cod.size _ _) (by kernel_rfl) ?_))
 exact zE hH
theorem dt(a b:Nat)(ha:a<2^256)(hb:b<2^256):Pure Tryz.prog 73 #[((cNs 4).val (wd a)),((cNs 4).val (wd b))] (fun _=>True) (rN (fv (a+b))):=by
 refine pU Tryz.func73 Tryz.ntmps73 ?_
 intro w0 hH hR
 have hcr:cry a b 4=(a+b)/2^256:=jW a b 4 ha hb
 have hf:=qS ((a+b)%2^256) (cry a b 4) (Nat.mod_lt _ (by decide)) (by have:=mJ a b 4;omega)
 rw[show (a+b)%2^256+2^256*cry a b 4=a+b by rw[hcr];omega,show (cNs 4).val (wd ((a+b)%2^256))=rN (a+b) from zJ _]at hf
 clear hcr
 refine zr (zB hH (cNs 4) (wd a) 1 ?_)
 clear hH
 intro g1 w hH
 refine zB hH (cNs 4) (wd b) 2 ?_
 clear hH
 intro g2 w hH
 refine zA hH (cNs 4) (fun _=>0) 0 ?_
 clear hH
 intro g3 w hH
 refine zn (zr (zA hH (cNs 4) (fun _=>0) 0 ?_))
 clear hH
 intro g4 w hH
 refine zn (zr (zv .mv 0 ?_))
 refine zn (aj ?_)
 replace hH:HH w0 [] [[bl g1 97 ((cNs 4).enc (wd a))],[bl g2 97 ((cNs 4).enc (wd b))],[bl g3 97 ((cNs 4).enc (fun _=>0))],[bl g4 97 ((cNs 4).enc (kW (a+b) 0))]] w:=by exact hH
 refine zr (zv .mv 0 ?_)
 refine zn (ai (zL2 (fun (i:Nat) (cc:Nat)=>[(8,(.int .i64 i)),(6,(.int .u64 cc)),(5,(.pointer (some ⟨g4,0,none⟩))),(4,(.pointer (some ⟨g3,0,none⟩))),(3,(.pointer (some ⟨g2,0,none⟩))),(2,(.pointer (some ⟨g1,0,none⟩)))]) (fun i cc w=>HH w0 [] [[bl g1 97 ((cNs 4).enc (wd a))],[bl g2 97 ((cNs 4).enc (wd b))],[bl g3 97 ((cNs 4).enc (fun _=>0))],[bl g4 97 ((cNs 4).enc (kW (a+b) i))]] w∧(i≤4)∧(cc=cry a b i)) (fun i _=>4-i) 0 0 ⟨hH,(Nat.zero_le _),(iD a b).symm⟩ ?_))
 clear hH
 rintro i cc w ⟨hH,hi,hcc⟩
 refine zr (zv (.lt (i<4)) 0 ?_)
 refine zn (aj ?_)
 refine zP (fun hc5 => ?_) (fun hc5 => ?_)
 refine aA (ag (aj (ai ?_)))
 subst hcc
 refine zr (zv .mv 1 ?_)
 refine zv .mv 1 ?_
 refine zn (br mixedOrders (by kernel_rfl) ?_)
 replace hH:=hH.drew
 refine rv 0 .mv 0 ?_
 refine rv 1 .mv 0 ?_
 have hi6:i<4:=by omega
 refine rv 2 (.ia 1 4 i (hi:=hi6)) 1 ?_
 refine rld 3 (hH.q 0 rfl) (.ld sNt.cod ((wd a) i) (fun _ hS=>((ae hS).eltV hi6))) 1 ?_
 refine rv 4 .mv 4 ?_
 have hi7:i<4:=by omega
 refine rv 5 (.ia 1 4 i (hi:=hi7)) 1 ?_
 refine rld 6 (hH.q 1 rfl) (.ld sNt.cod ((wd b) i) (fun _ hS=>((ae hS).eltV hi7))) 1 ?_
 refine rv 7 .mv 0 ?_
 refine rv 8 (.xt (jO a b i)) 7 ?_
 refine rv 9 .mv 1 ?_
 refine rv 10 .ext 0 ?_
 refine rv 11 .ext 2 ?_
 have hi8:i<4:=by omega
 refine rv 12 (.ia 1 4 i (hi:=hi8)) 4 ?_
 refine ao 13 ?_
 refine re0 13 3 hH rfl (.st sNt.cod (wd (a+b) i) (aU (S:=sNt) (C:=(cNs 4)) rfl hi8) (bE (kW (a+b) i) (wd (a+b) i) hi8)) trivial (pgo [] (pgo [] (.nil _ []))) ?_
 clear hH
 rintro _ _ w rfl hH
 refine ⟨an,rv 14 .mv 23 ?_⟩
 refine bQ (by kernel_rfl) ?_
 refine aN (ag ?_)
 replace hH:HH w0 [] [[bl g1 97 ((cNs 4).enc (wd a))],[bl g2 97 ((cNs 4).enc (wd b))],[bl g3 97 ((cNs 4).enc (fun _=>0))],[bl g4 97 ((cNs 4).enc (kW (a+b) (i+1)))]] w:=by rw[qQ]at hH;exact hH
 refine aC (zv (.add ((i+1:Nat):Int)) 2 ?_)
 refine zv .mv 1 ?_
 refine aD ?_
 exact zR2 (i+1) (cry a b (i+1)) ⟨hH,(by omega),rfl⟩ (by omega)
 refine aJ (ak (ak (aR (ag ?_))))
 obtain rfl:i=4:=by omega
 subst hcc
 have he9:(cNs 4).enc (wd (a+b))=(cNs 4).enc (kW (a+b) 4):=aP (fun _ hj=>uw hj)
 replace hH:HH w0 [] [[bl g1 97 ((cNs 4).enc (wd a))],[bl g2 97 ((cNs 4).enc (wd b))],[bl g3 97 ((cNs 4).enc (fun _=>0))],[bl g4 97 ((cNs 4).enc (wd (a+b)))]] w:=by rw[he9];exact hH
 refine zr (zs (hH.q 3 rfl) (.l0 (cNs 4) (wd (a+b))) 107 ?_)
 refine zv .mv 2 ?_
 refine zm hH (.call Tryz.func116 (hf.does)) trivial 3 ?_
 clear hH
 rintro _ _ w ⟨rfl,rfl⟩ hH
 replace hH:HH w0 [] [[bl g1 97 ((cNs 4).enc (wd a))],[bl g2 97 ((cNs 4).enc (wd b))],[bl g3 97 ((cNs 4).enc (fun _=>0))],[bl g4 97 ((cNs 4).enc (wd (a+b)))]] w:=hH.unpad
 refine zW 2 hH rfl (wd (fv (a+b))) ?_
 clear hH
 intro w hH
 refine zn (ar (aI 1 (hH.blk 2 rfl) rfl rfl (by kernel_rfl) (Cod.size _ _) (by kernel_rfl) ?_))
 exact zE hH
theorem ux  : Pure Tryz.prog 118 #[] (fun _=>True) (rN pN):=by
 refine pU Tryz.func118 Tryz.ntmps118 ?_
 intro w0 hH hR
 refine zr (zA hH (cNs 4) (fun _=>0) 0 ?_)
 clear hH
 intro g1 w hH
 refine zn (zr (zv (v:=((cNs 4).val (wd pN))) (fun _ _ hF=>aE (cells:=(cNs 4).enc (wd pN)) (vals:=[(0,(.int .u64 18446744073709551597)),(1,(.int .u64 18446744073709551615)),(2,(.int .u64 18446744073709551615)),(3,(.int .u64 9223372036854775807))]) rfl (EvP.cons (v:=(.int .u64 18446744073709551597)) rfl (EvP.cons (v:=(.int .u64 18446744073709551615)) rfl (EvP.cons (v:=(.int .u64 18446744073709551615)) rfl (EvP.cons (v:=(.int .u64 9223372036854775807)) rfl EvP.nil)))) (by kernel_rfl) _) 0 ?_))
 refine zW 0 hH rfl (wd pN) ?_
 clear hH
 intro w hH
 refine zn (ar (aI 1 (hH.blk 0 rfl) rfl rfl (by kernel_rfl) (Cod.size _ _) (by kernel_rfl) ?_))
 exact zE hH
theorem oo{a b m:Nat}(h:a/2^(64*(m+1))=b/2^(64*(m+1)))(hw:wd a m=wd b m):a/2^(64*m)=b/2^(64*m):=by
 rw[dm,← Nat.div_div_eq_div_mul,← Nat.div_div_eq_div_mul]at h
 unfold wd at hw
 omega
theorem BB{a b m:Nat}(h:a/2^(64*(m+1))=b/2^(64*(m+1)))(hw:wd a m≠wd b m):decide (a<b)=decide (wd a m<wd b m):=by
 rw[dm,← Nat.div_div_eq_div_mul,← Nat.div_div_eq_div_mul]at h
 have e:a<b↔wd a m<wd b m:=by
  unfold wd at *
  have h1:=Nat.div_add_mod a (2^(64*m))
  have h2:=Nat.div_add_mod b (2^(64*m))
  have h3:=dH a m
  have h4:=dH b m
  generalize a%2^(64*m)=p at *
  generalize b%2^(64*m)=q at *
  generalize 2^(64*m)=K at *
  generalize a/K=x at *
  generalize b/K=y at *
  have e1:a<b↔x<y:=by
   constructor
   ·intro hab
    apply Classical.byContradiction
    intro hn
    have:x≠y:=by rintro rfl;exact hw rfl
    have h5:(y+1)*K≤x*K:=Nat.mul_le_mul_right K (by omega)
    rw[Nat.add_mul,Nat.one_mul,Nat.mul_comm y,Nat.mul_comm x]at h5
    omega
   ·intro hxy
    have h5:(x+1)*K≤y*K:=Nat.mul_le_mul_right K hxy
    rw[Nat.add_mul,Nat.one_mul,Nat.mul_comm y,Nat.mul_comm x]at h5
    omega
  rw[e1];omega
 rw[decide_eq_decide,e]
theorem ot(a b:Nat)(ha:a<2^256)(hb:b<2^256):Pure Tryz.prog 153 #[((cNs 4).val (wd a)),((cNs 4).val (wd b))] (fun _=>True) (.bool (decide (a<b))):=by
 refine pU Tryz.func153 Tryz.ntmps153 ?_
 intro w0 hH hR
 refine zr (zB hH (cNs 4) (wd a) 1 ?_)
 clear hH
 intro g1 w hH
 refine zB hH (cNs 4) (wd b) 2 ?_
 clear hH
 intro g2 w hH
 refine zv .mv 0 ?_
 refine zn (aj (zr (zv .mv 1 ?_)))
 refine zn (ai (zL1 (fun (m:Nat)=>[(5,(.int .i64 ((m:Int)-1))),(3,(.pointer (some ⟨g2,0,none⟩))),(2,(.pointer (some ⟨g1,0,none⟩)))]) (fun m w=>HH w0 [] [[bl g1 97 ((cNs 4).enc (wd a))],[bl g2 97 ((cNs 4).enc (wd b))]] w∧(m≤4)∧(a/2^(64*m)=b/2^(64*m))) (fun m=>m) 4 ⟨hH,(by decide),(by rw[Nat.div_eq_of_lt ha,Nat.div_eq_of_lt hb])⟩ ?_))
 clear hH
 rintro m w ⟨hH,hm,he⟩
 refine aj (zr (zv .mv 0 ?_))
 refine zv (v:=(.bool (decide (((m:Int)-1) ≥ 0)))) (fun _ _ hF=>fL rfl (hF.ev 0 rfl) rfl rfl) 1 ?_
 refine zn ?_
 refine zP (fun hc3 => ?_) (fun hc3 => ?_)
 refine aA (ag (aj (ai ?_)))
 obtain ⟨k,rfl⟩:∃ k,m=k+1:=⟨m-1,by omega⟩
 rw[show ((k+1:Nat):Int)-1=(k:Int) by omega]
 refine zx ?_
 replace hH:=hH.drew
 refine rv 0 .mv 1 ?_
 have hi4:k<4:=by omega
 refine rv 1 (.ia 1 4 k (hi:=hi4)) 1 ?_
 refine rld 2 (hH.q 0 rfl) (.ld sNt.cod ((wd a) k) (fun _ hS=>((ae hS).eltV hi4))) 1 ?_
 refine rv 3 .mv 0 ?_
 have hi5:k<4:=by omega
 refine rv 4 (.ia 1 4 k (hi:=hi5)) 1 ?_
 refine rld 5 (hH.q 1 rfl) (.ld sNt.cod ((wd b) k) (fun _ hS=>((ae hS).eltV hi5))) 1 ?_
 refine rv 6 (.ne (((wd a) k)≠((wd b) k))) 3 ?_
 refine rn ?_
 refine zP (fun hc6 => ?_) (fun hc6 => ?_)
 refine zx ?_
 replace hH:=hH.drew
 refine rv 0 .mv 1 ?_
 have hi7:k<4:=by omega
 refine rv 1 (.ia 1 4 k (hi:=hi7)) 9 ?_
 refine rld 2 (hH.q 0 rfl) (.ld sNt.cod ((wd a) k) (fun _ hS=>((ae hS).eltV hi7))) 1 ?_
 refine rv 3 .mv 2 ?_
 have hi8:k<4:=by omega
 refine rv 4 (.ia 1 4 k (hi:=hi8)) 5 ?_
 refine rld 5 (hH.q 1 rfl) (.ld sNt.cod ((wd b) k) (fun _ hS=>((ae hS).eltV hi8))) 1 ?_
 refine rv 6 (.lt (((wd a) k)<((wd b) k))) 3 ?_
 refine rv 7 .mv 1 ?_
 refine rn ?_
 refine ar (qf ?_)
 refine bj ?_
 refine bj ?_
 refine qf ?_
 refine bj ?_
 refine aW 0 rfl rfl ?_
 exact ⟨by rw[BB he hc6],HH.toBelow hH⟩
 refine aA (aN (ag (aC (zv .mv 3 ?_))))
 refine zv (.sub ((k:Int)-1)) 1 ?_
 refine zv .mv 1 ?_
 refine aD ?_
 exact zR1 k ⟨hH,(by omega),(oo he (Decidable.of_not_not hc6))⟩ (by omega)
 refine aJ (ak (ak (aR (ag (zr (zv .mv 15 ?_))))))
 refine zn (ar (aW 0 rfl rfl ?_))
 obtain rfl:m=0:=by omega
 rw[Nat.mul_zero,Nat.pow_zero,Nat.div_one,Nat.div_one]at he
 subst he
 exact ⟨by rw[decide_eq_false (Nat.lt_irrefl _)],HH.toBelow hH⟩
theorem fR:pN<2^256:=by decide
theorem er(a:Nat)(ha:a<2^256):Pure Tryz.prog 119 #[((cNs 4).val (wd a))] (fun _=>True) (rN (a%pN)):=by
 refine pU Tryz.func119 Tryz.ntmps119 ?_
 intro w0 hH hR
 refine zr (zB hH (cNs 4) (wd a) 1 ?_)
 clear hH
 intro g1 w hH
 refine zA hH (cNs 4) (fun _=>0) 0 ?_
 clear hH
 intro g2 w hH
 refine zn (aj (ai (zL1 (fun (_:Nat)=>[(2,(.pointer (some ⟨g2,0,none⟩))),(1,(.pointer (some ⟨g1,0,none⟩)))]) (fun m w=>HH w0 [] [[bl g1 97 ((cNs 4).enc (wd m))],[bl g2 97 ((cNs 4).enc (fun _=>0))]] w∧(m<2^256)∧(m%pN=a%pN)) (fun m=>m) a ⟨hH,ha,rfl⟩ ?_)))
 clear hH
 rintro m w ⟨hH,hm,he⟩
 refine aj (zx ?_)
 replace hH:=hH.drew
 refine rld 0 (hH.q 0 rfl) (.l0 (cNs 4) (wd m)) 0 ?_
 refine ao 1 ?_
 refine rm 1 hH (.call Tryz.func118 (ux.does)) trivial 0 (.keep (.nil _ [])) ?_
 clear hH
 rintro _ _ w ⟨rfl,rfl⟩ hH
 replace hH:HH w0 [] [[bl g1 97 ((cNs 4).enc (wd m))],[bl g2 97 ((cNs 4).enc (fun _=>0))]] w:=hH.unpad
 refine ⟨am (hH.blk 0 rfl) an,?_⟩
 refine ao 2 (rpc 2 Tryz.func153 (ot m pN hm fR) trivial hH 3 (pgo [] (.nil _ [])) ?_)
 clear hH
 intro w hH
 refine ⟨an,rv 3 (v:=(.bool (decide (¬ (m<pN))))) (fun _ _ hF=>ej rfl (hF.ev 0 rfl) decide_not.symm) 1 ?_⟩
 refine rn ?_
 refine zP (fun hc3 => ?_) (fun hc3 => ?_)
 refine aA (ag (ai (br mixedOrders (by kernel_rfl) ?_)))
 replace hH:=hH.drew
 refine rld 0 (hH.q 0 rfl) (.l0 (cNs 4) (wd m)) 1 ?_
 refine ao 1 ?_
 refine rm 1 hH (.call Tryz.func118 (ux.does)) trivial 0 (.keep (.nil _ [])) ?_
 clear hH
 rintro _ _ w ⟨rfl,rfl⟩ hH
 replace hH:HH w0 [] [[bl g1 97 ((cNs 4).enc (wd m))],[bl g2 97 ((cNs 4).enc (fun _=>0))]] w:=hH.unpad
 refine ⟨am (hH.blk 0 rfl) an,?_⟩
 refine ao 2 (rpc 2 Tryz.func117 (qR m pN (by omega)) trivial hH 3 (pgo [] (.nil _ [])) ?_)
 clear hH
 intro w hH
 refine ⟨an,ao 3 ?_⟩
 refine re0 3 0 hH rfl (.sw (cNs 4) (wd m) (wd (m-pN))) trivial (.nil _ []) ?_
 clear hH
 rintro _ _ w rfl hH
 refine ⟨an,bQ (by kernel_rfl) ?_⟩
 refine aN ?_
 exact zR1 (m-pN) ⟨hH,(by omega),(by rw[← he];exact (Nat.mod_eq_sub_mod (by omega)).symm)⟩ (by have:0<pN:=(by decide);omega)
 refine aJ (ak (ak (aR (ag ?_))))
 have hlt:m<pN:=by omega
 rw[Nat.mod_eq_of_lt hlt]at he
 subst he
 refine zr (zs (hH.q 0 rfl) (.l0 (cNs 4) (wd (a%pN))) 5 ?_)
 refine zW 1 hH rfl (wd (a%pN)) ?_
 clear hH
 intro w hH
 refine zn (ar (aI 1 (hH.blk 1 rfl) rfl rfl (by kernel_rfl) (Cod.size _ _) (by kernel_rfl) ?_))
 exact zE hH
theorem dg(a b:Nat)(ha:a<2^256)(hb:b<2^256):Pure Tryz.prog 74 #[((cNs 4).val (wd a)),((cNs 4).val (wd b))] (fun _=>True) (rN (fv (a+(pN-b%pN)))):=by
 refine pU Tryz.func74 Tryz.ntmps74 ?_
 intro w0 hH hR
 refine zr (zB hH (cNs 4) (wd a) 1 ?_)
 clear hH
 intro g1 w hH
 refine zB hH (cNs 4) (wd b) 2 ?_
 clear hH
 intro g2 w hH
 refine zA hH (cNs 4) (fun _=>0) 0 ?_
 clear hH
 intro g3 w hH
 refine zn (zx ?_)
 replace hH:=hH.drew
 refine rld 0 (hH.q 0 rfl) (.l0 (cNs 4) (wd a)) 4 ?_
 refine rld 2 (hH.q 1 rfl) (.l0 (cNs 4) (wd b)) 4 ?_
 refine ao 1 ?_
 refine rm 1 hH (.call Tryz.func118 (ux.does)) trivial 0 (.keep (.keep (.nil _ []))) ?_
 clear hH
 rintro _ _ w ⟨rfl,rfl⟩ hH
 replace hH:HH w0 [] [[bl g1 97 ((cNs 4).enc (wd a))],[bl g2 97 ((cNs 4).enc (wd b))],[bl g3 97 ((cNs 4).enc (fun _=>0))]] w:=hH.unpad
 refine ⟨am (hH.blk 1 rfl) (am (hH.blk 0 rfl) an),?_⟩
 refine ao 3 (rpc 3 Tryz.func119 (er b hb) trivial hH 2 (pgo [] (.keep (.nil _ []))) ?_)
 clear hH
 intro w hH
 refine ⟨am (hH.blk 0 rfl) an,?_⟩
 refine ao 4 (rpc 4 Tryz.func117 (qR pN (b%pN) (Nat.le_of_lt (Nat.mod_lt _ (by decide)))) trivial hH 3 (.keep (.nil _ [])) ?_)
 clear hH
 intro w hH
 refine ⟨am (hH.blk 0 rfl) an,?_⟩
 refine ao 5 (rpc 5 Tryz.func73 (dt a (pN-b%pN) ha (by have:pN<2^256:=fR;omega)) trivial hH 3 (pgo [] (.nil _ [])) ?_)
 clear hH
 intro w hH
 refine ⟨an,ao 6 ?_⟩
 refine re0 6 2 hH rfl (.sw (cNs 4) (fun _=>0) (wd (fv (a+(pN-b%pN))))) trivial (.nil _ []) ?_
 clear hH
 rintro _ _ w rfl hH
 refine ⟨an,rn ?_⟩
 refine ar (aI 1 (hH.blk 2 rfl) rfl rfl (by kernel_rfl) (Cod.size _ _) (by kernel_rfl) ?_)
 exact zE hH
theorem wN(b:Nat→UInt8)(m:Nat):stF (wd (lv b m)) (m/8) (wd (lv b (m+1)) (m/8))=wd (lv b (m+1)):=by
 funext i
 unfold stF
 by_cases h:i=m/8
 ·rw[if_pos h,h]
 ·rw[if_neg h];exact (nZ b m i h).symm
def kB(v k:Nat):Nat→UInt8:=fun i=>if i<k then aZ v i else 0
theorem wO(v k:Nat):stF (kB v k) k (aZ v k)=kB v (k+1):=by
 funext j
 unfold stF kB
 by_cases h:j=k
 ·subst h;simp
 ·by_cases h2:j<k
  ·simp[h,h2,Nat.lt_succ_of_lt h2]
  ·have h3:¬ j<k+1:=by omega
   simp[h,h2,h3]
theorem zK{v i:Nat}(h:i<32):aZ v i=kB v 32 i:=(if_pos h).symm
theorem wP(v m:Nat):UInt8.ofNat (wd v (m/8)/2^(8*(m%8)))=aZ v m:=by
 apply UInt8.toNat_inj.1
 rw[UInt8.toNat_ofNat',dX,← iF]
theorem mS(b:Nat→UInt8):Pure Tryz.prog 71 #[((ac 32).val b)] (fun _=>True) (rN (lv b 32)):=by
 refine pU Tryz.func71 Tryz.ntmps71 ?_
 intro w0 hH hR
 refine zr (zB hH (ac 32) b 1 ?_)
 clear hH
 intro g1 w hH
 refine zA hH (cNs 4) (fun _=>0) 0 ?_
 clear hH
 intro g2 w hH
 refine zn (zr (zA hH (cNs 4) (fun _=>0) 0 ?_))
 clear hH
 intro g3 w hH
 refine zn (aj ?_)
 have he4:(cNs 4).enc (wd (lv b 0))=(cNs 4).enc (fun _=>0):=aP (fun i _=>(by unfold wd;simp[lv]))
 replace hH:HH w0 [] [[bl g1 22 ((ac 32).enc b)],[bl g2 97 ((cNs 4).enc (fun _=>0))],[bl g3 97 ((cNs 4).enc (wd (lv b 0)))]] w:=by rw[he4];exact hH
 refine zr (zv .mv 0 ?_)
 refine zn (ai (zL1 (fun (m:Nat)=>[(5,(.int .i64 m)),(3,(.pointer (some ⟨g3,0,none⟩))),(2,(.pointer (some ⟨g2,0,none⟩))),(1,(.pointer (some ⟨g1,0,none⟩)))]) (fun m w=>HH w0 [] [[bl g1 22 ((ac 32).enc b)],[bl g2 97 ((cNs 4).enc (fun _=>0))],[bl g3 97 ((cNs 4).enc (wd (lv b m)))]] w∧(m≤32)) (fun m=>32-m) 0 ⟨hH,(Nat.zero_le _)⟩ ?_))
 clear hH
 rintro m w ⟨hH,hm⟩
 refine zr (zv (.lt (m<32)) 0 ?_)
 refine zn (aj ?_)
 refine zP (fun hc5 => ?_) (fun hc5 => ?_)
 refine aA (ag (aj (ai (zr (zv .mv 1 ?_)))))
 refine zv .mv 1 ?_
 refine zn ?_
 have hor:=Bo b m
 obtain ⟨hat,hfar⟩:=kC b m
 have hw:=cg (lv b (m+1)) (m/8)
 have hw0:wd (lv b m) (m/8)<2^64:=cg _ _
 have hx0:(b m).toNat*2^(8*(m%8))<2^64:=by omega
 have hb8:=(b m).toNat_lt
 refine br mixedOrders (by kernel_rfl) ?_
 replace hH:=hH.drew
 refine rv 0 .mv 0 ?_
 refine rv 1 (v:=(.int .i64 (((m/8):Nat):Int))) (fun _ _ hF=>cM (z:=((m/8:Nat):Int)) rfl (hF.ev 0 rfl) rfl (by omega) (wI dO (by omega) (by omega))) 1 ?_
 refine rv 2 .mv 0 ?_
 refine rv 3 (v:=(.int .i64 (((m/8):Nat):Int))) (fun _ _ hF=>cM (z:=((m/8:Nat):Int)) rfl (hF.ev 0 rfl) rfl (by omega) (wI dO (by omega) (by omega))) 1 ?_
 have hi6:m/8<4:=by omega
 refine rv 4 (.ia 1 4 (m/8) (hi:=hi6)) 1 ?_
 refine rld 5 (hH.q 2 rfl) (.ld sNt.cod ((wd (lv b m)) (m/8)) (fun _ hS=>((ae hS).eltV hi6))) 1 ?_
 refine rv 6 .mv 0 ?_
 have hi7:m<32:=by omega
 refine rv 7 (.ia 1 32 m (hi:=hi7)) 1 ?_
 refine rld 8 (hH.q 0 rfl) (.ld af (b m) (fun _ hS=>((ae hS).elt hi7))) 1 ?_
 refine rv 9 (.cu .u64) 1 ?_
 refine rv 10 .mv 8 ?_
 refine rv 11 (v:=(.int .i64 (((m%8):Nat):Int))) (fun _ _ hF=>bm (z:=((m%8:Nat):Int)) rfl (hF.ev 0 rfl) rfl (by omega) bW) 1 ?_
 refine rv 12 (.mul ((8*(m%8):Nat):Int)) 1 ?_
 refine rv 13 (.cu .u64) 1 ?_
 refine rv 14 (v:=(.int .u64 ((((b m).toNat*2^(8*(m%8))):Nat):Int))) (fun _ _ hF=>f9 (n:=8*(m%8)) (z:=((b m).toNat*2^(8*(m%8)))) rfl rfl (hF.ev 1 rfl) (hF.ev 0 rfl) (by show _≤64;omega) (Nat.mod_eq_of_lt hx0)) 3 ?_
 refine rv 15 (.ou (wd (lv b (m+1)) (m/8)) (kk:=.u64) hw0 hx0 hor) 3 ?_
 have hi8:m/8<4:=by omega
 refine rv 16 (.ia 1 4 (m/8) (hi:=hi8)) 2 ?_
 refine ao 17 ?_
 refine re0 17 2 hH rfl (.st sNt.cod (wd (lv b (m+1)) (m/8)) (aU (S:=sNt) (C:=(cNs 4)) rfl hi8) (bE (wd (lv b m)) (wd (lv b (m+1)) (m/8)) hi8)) trivial (pgo [] (pgo [] (.nil _ []))) ?_
 clear hH
 rintro _ _ w rfl hH
 refine ⟨an,bQ (by kernel_rfl) ?_⟩
 refine aN (ag ?_)
 replace hH:HH w0 [] [[bl g1 22 ((ac 32).enc b)],[bl g2 97 ((cNs 4).enc (fun _=>0))],[bl g3 97 ((cNs 4).enc (wd (lv b (m+1))))]] w:=by rw[wN]at hH;exact hH
 refine aC (zv (.add ((m+1:Nat):Int)) 7 ?_)
 refine zv .mv 1 ?_
 refine aD ?_
 exact zR1 (m+1) ⟨hH,(by omega)⟩ (by omega)
 refine aJ (ak (ak (aR (ag ?_))))
 obtain rfl:m=32:=by omega
 refine zr (zs (hH.q 2 rfl) (.l0 (cNs 4) (wd (lv b 32))) 23 ?_)
 refine zW 1 hH rfl (wd (lv b 32)) ?_
 clear hH
 intro w hH
 refine zn (ar (aI 1 (hH.blk 1 rfl) rfl rfl (by kernel_rfl) (Cod.size _ _) (by kernel_rfl) ?_))
 exact zE hH
theorem ov(a:Nat)(ha:a<2^256):Pure Tryz.prog 76 #[((cNs 4).val (wd a))] (fun _=>True) ((ac 32).val (aZ (a%pN))):=by
 refine pU Tryz.func76 Tryz.ntmps76 ?_
 intro w0 hH hR
 refine zr (zB hH (cNs 4) (wd a) 1 ?_)
 clear hH
 intro g1 w hH
 refine zA hH (ac 32) (fun _=>0) 0 ?_
 clear hH
 intro g2 w hH
 refine zn (zr (zs (hH.q 0 rfl) (.l0 (cNs 4) (wd a)) 0 ?_))
 refine zc Tryz.func119 (er a ha) trivial hH 1 ?_
 clear hH
 intro w hH
 refine zW 0 hH rfl (wd (a%pN)) ?_
 clear hH
 intro w hH
 refine zn (zr (zA hH (ac 32) (fun _=>0) 1 ?_))
 clear hH
 intro g3 w hH
 refine zn (aj ?_)
 replace hH:HH w0 [] [[bl g1 97 ((cNs 4).enc (wd (a%pN)))],[bl g2 22 ((ac 32).enc (fun _=>0))],[bl g3 22 ((ac 32).enc (kB (a%pN) 0))]] w:=by exact hH
 refine zr (zv .mv 0 ?_)
 refine zn (ai (zL1 (fun (m:Nat)=>[(7,(.int .i64 m)),(3,(.pointer (some ⟨g3,0,none⟩))),(2,(.pointer (some ⟨g2,0,none⟩))),(1,(.pointer (some ⟨g1,0,none⟩)))]) (fun m w=>HH w0 [] [[bl g1 97 ((cNs 4).enc (wd (a%pN)))],[bl g2 22 ((ac 32).enc (fun _=>0))],[bl g3 22 ((ac 32).enc (kB (a%pN) m))]] w∧(m≤32)) (fun m=>32-m) 0 ⟨hH,(Nat.zero_le _)⟩ ?_))
 clear hH
 rintro m w ⟨hH,hm⟩
 refine zr (zv (.lt (m<32)) 0 ?_)
 refine zn (aj ?_)
 refine zP (fun hc4 => ?_) (fun hc4 => ?_)
 refine aA (ag (aj (ai (zr (zv .mv 1 ?_)))))
 refine zv .mv 1 ?_
 refine zn (aC (zv .mv 0 ?_))
 refine zv .mv 0 ?_
 refine zv (v:=(.int .i64 (((m/8):Nat):Int))) (fun _ _ hF=>cM (z:=((m/8:Nat):Int)) rfl (hF.ev 0 rfl) rfl (by omega) (wI dO (by omega) (by omega))) 1 ?_
 have hi5:m/8<4:=by omega
 refine zv (.ia 1 4 (m/8) (hi:=hi5)) 1 ?_
 refine zs (hH.q 0 rfl) (.ld sNt.cod ((wd (a%pN)) (m/8)) (fun _ hS=>((ae hS).eltV hi5))) 1 ?_
 refine zv .mv 4 ?_
 refine zv (v:=(.int .i64 (((m%8):Nat):Int))) (fun _ _ hF=>bm (z:=((m%8:Nat):Int)) rfl (hF.ev 0 rfl) rfl (by omega) bW) 1 ?_
 refine zv (.mul ((8*(m%8):Nat):Int)) 1 ?_
 refine zv (.cu .u64) 1 ?_
 refine zv (v:=(.int .u64 (((wd (a%pN) (m/8)/2^(8*(m%8))):Nat):Int))) (fun _ _ hF=>du (n:=8*(m%8)) (z:=(wd (a%pN) (m/8)/2^(8*(m%8)))) rfl (hF.ev 1 rfl) (hF.ev 0 rfl) (by show _≤64;omega) (rfl)) 3 ?_
 refine zv .cb 1 ?_
 have hi6:m<32:=by omega
 refine zv (.ia 1 32 m (hi:=hi6)) 2 ?_
 refine ze0 2 hH rfl (.st af (UInt8.ofNat (wd (a%pN) (m/8)/2^(8*(m%8)))) (aU (S:=sBy) (C:=(ac 32)) rfl hi6) (aQ (kB (a%pN) m) (UInt8.ofNat (wd (a%pN) (m/8)/2^(8*(m%8)))) hi6)) trivial ?_
 clear hH
 rintro _ _ w rfl hH
 refine aD (aN (ag ?_))
 replace hH:HH w0 [] [[bl g1 97 ((cNs 4).enc (wd (a%pN)))],[bl g2 22 ((ac 32).enc (fun _=>0))],[bl g3 22 ((ac 32).enc (kB (a%pN) (m+1)))]] w:=by rw[wP,wO]at hH;exact hH
 refine aC (zv (.add ((m+1:Nat):Int)) 7 ?_)
 refine zv .mv 1 ?_
 refine aD ?_
 exact zR1 (m+1) ⟨hH,(by omega)⟩ (by omega)
 refine aJ (ak (ak (aR (ag ?_))))
 obtain rfl:m=32:=by omega
 have he:(ac 32).enc (aZ (a%pN))=(ac 32).enc (kB (a%pN) 32):=aB fun j hj=>zK hj
 replace hH:HH w0 [] [[bl g1 97 ((cNs 4).enc (wd (a%pN)))],[bl g2 22 ((ac 32).enc (fun _=>0))],[bl g3 22 ((ac 32).enc (aZ (a%pN)))]] w:=by rw[he];exact hH
 refine zr (zs (hH.q 2 rfl) (.l0 (ac 32) (aZ (a%pN))) 23 ?_)
 refine zW 1 hH rfl (aZ (a%pN)) ?_
 clear hH
 intro w hH
 refine zn (ar (aI 1 (hH.blk 1 rfl) rfl rfl (by kernel_rfl) (Cod.size _ _) (by kernel_rfl) ?_))
 exact zE hH
def nW(a b i j:Nat):Nat→Nat:=fun k=>if k<i+j then wd (pX a b i j) k else wd (pX a b i 0) k
theorem wQ(a b i:Nat):nW a b i 0=wd (pX a b i 0):=by funext k;unfold nW;split<;>rfl
theorem yi(a b i j:Nat):nW a b i j (i+j)=wd (pX a b i 0) (i+j):=if_neg (by omega)
theorem zL(a b i j:Nat):stF (nW a b i j) (i+j) (wd (pX a b i (j+1)) (i+j))=nW a b i (j+1):=by
 funext k
 unfold stF nW
 by_cases h:k=i+j
 ·subst h
  rw[if_pos rfl,if_pos (by omega)]
 ·rw[if_neg h]
  by_cases h2:k<i+j
  ·rw[if_pos h2,if_pos (by omega),qz,kF _ _ _ _ h2]
  ·rw[if_neg h2,if_neg (by omega)]
theorem zM(a b i:Nat)(hb:b<2^256):stF (nW a b i 4) (i+4) (pC a b i 4)=wd (pX a b (i+1) 0):=by
 funext k
 have h0:=t5 a b i hb
 have h1:=t5 a b (i+1) hb
 have hc:=qD a b i 4
 unfold stF nW
 by_cases h:k=i+4
 ·subst h
  rw[if_pos rfl]
  unfold pC at *
  rw[Nat.div_eq_of_lt h0,qA a b i hb,Nat.sub_zero]at *
  unfold wd
  rw[Nat.mod_eq_of_lt hc]
 ·rw[if_neg h,qA a b i hb]
  by_cases h2:k<i+4
  ·rw[if_pos h2]
  ·rw[if_neg h2]
   have e:2^(64*(i+4))≤2^(64*k):=Nat.pow_le_pow_right (by omega) (by omega)
   have e1:2^(64*(i+1+4))≤2^(64*k):=Nat.pow_le_pow_right (by omega) (by omega)
   rw[eM (Nat.lt_of_lt_of_le h0 e),eM (Nat.lt_of_lt_of_le h1 e1)]
theorem zN(x y:Nat)(w:World):(callFunc 115 #[.int .u64 (x:Int),.int .u64 (y:Int),.int .u64 0]).run Tryz.prog w=.ok (.value (.tuple #[.int .u64 (((x+y)%18446744073709551616:Nat):Int),.int .u64 (((x+y)/18446744073709551616:Nat):Int)])) w:=qO x y 0 (by decide) w
theorem zO(P W C:Nat)(hP:P≤18446744073709551615*18446744073709551615)(hW:W<18446744073709551616)(hC:C<18446744073709551616):
  ((wd P 0+W)%18446744073709551616+C)%18446744073709551616=(P+W+C)%18446744073709551616 ∧
  wd P 1+(wd P 0+W)/18446744073709551616<18446744073709551616 ∧
  wd P 1+(wd P 0+W)/18446744073709551616+((wd P 0+W)%18446744073709551616+C)/18446744073709551616=(P+W+C)/18446744073709551616 ∧
  (P+W+C)/18446744073709551616<18446744073709551616:=by
 unfold wd
 refine ⟨by omega,by omega,by omega,by omega⟩
def kU(L i:Nat):Nat→Nat:=fun j=>if j<i then wd (L+38*(L/2^256)) j else wd L j
theorem wR(L i:Nat):stF (kU L i) i (wd (L+38*(L/2^256)) i)=kU L (i+1):=by
 funext j
 unfold stF kU
 by_cases h:j=i
 ·subst h;simp
 ·by_cases h2:j<i
  ·simp[h,h2,Nat.lt_succ_of_lt h2]
  ·have h3:¬ j<i+1:=by omega
   simp[h,h2,h3]
theorem zQ{L i:Nat}(h:i<4):wd ((L+38*(L/2^256))%2^256) i=kU L 4 i:=(d8 _ i h).trans (if_pos h).symm
theorem qT(L i:Nat):(wd (wd L (i+4)*38) 0+hC (L/2^256) i)%18446744073709551616=wd (38*(L/2^256)) i∧wd (wd L (i+4)*38) 1+(wd (wd L (i+4)*38) 0+hC (L/2^256) i)/18446744073709551616=hC (L/2^256) (i+1):=by
 obtain ⟨t1,t2⟩:=wr (L/2^256) i
 have hw:=cg (L/2^256) i
 have hc:=t6 (L/2^256) i
 have hP:wd (L/2^256) i*38≤18446744073709551615*38:=by omega
 rw[Bp,← t1,← t2]
 generalize wd (L/2^256) i*38=P at *
 generalize hC (L/2^256) i=C at *
 unfold wd
 constructor<;>omega
theorem CP(L i:Nat)(w:World):(callFunc 115 #[.int .u64 ((wd (wd L (i+4)*38) 0:Nat):Int),.int .u64 ((hC (L/2^256) i:Nat):Int),.int .u64 0]).run Tryz.prog w=.ok (.value (.tuple #[.int .u64 ((wd (38*(L/2^256)) i:Nat):Int),.int .u64 (((wd (wd L (i+4)*38) 0+hC (L/2^256) i)/18446744073709551616:Nat):Int)])) w:=by
 have h:=zN (wd (wd L (i+4)*38) 0) (hC (L/2^256) i) w
 rw[(qT L i).1]at h
 exact h
theorem CQ(L i:Nat)(w:World):(callFunc 115 #[.int .u64 ((kU L i i:Nat):Int),.int .u64 ((wd (38*(L/2^256)) i:Nat):Int),.int .u64 ((cry L (38*(L/2^256)) i:Nat):Int)]).run Tryz.prog w=.ok (.value (.tuple #[.int .u64 ((wd (L+38*(L/2^256)) i:Nat):Int),.int .u64 ((cry L (38*(L/2^256)) (i+1):Nat):Int)])) w:=by
 rw[show kU L i i=wd L i from if_neg (Nat.lt_irrefl _)]
 exact jO L (38*(L/2^256)) i w
theorem ba(a b:Nat)(ha:a<2^256)(hb:b<2^256):Pure Tryz.prog 75 #[((cNs 4).val (wd a)),((cNs 4).val (wd b))] (fun _=>True) (rN (tm a b)):=by
 refine pU Tryz.func75 Tryz.ntmps75 ?_
 intro w0 hH hR
 obtain ⟨L,hL⟩:∃ L,L=a*b:=⟨_,rfl⟩
 have hLt:=mK ha hb
 rw[← hL]at hLt
 have hc1:=t6 (L/2^256) 4
 have hc2:=mJ L (38*(L/2^256)) 4
 have hf:=qS ((L+38*(L/2^256))%2^256) (hC (L/2^256) 4+cry L (38*(L/2^256)) 4) (Nat.mod_lt _ (by decide)) (by omega)
 rw[zo L hLt,show fv (f1 L)=tm a b by rw[hL];rfl]at hf
 refine zr (zB hH (cNs 4) (wd a) 1 ?_)
 clear hH
 intro g1 w hH
 refine zB hH (cNs 4) (wd b) 2 ?_
 clear hH
 intro g2 w hH
 refine zA hH (cNs 4) (fun _=>0) 0 ?_
 clear hH
 intro g3 w hH
 refine zn (zr (zA hH (cNs 8) (fun _=>0) 0 ?_))
 clear hH
 intro g4 w hH
 refine zn (aj ?_)
 have he5:(cNs 8).enc (wd (pX a b 0 0))=(cNs 8).enc (fun _=>0):=aP (fun k _=>(by rw[wo];unfold wd;simp))
 replace hH:HH w0 [] [[bl g1 97 ((cNs 4).enc (wd a))],[bl g2 97 ((cNs 4).enc (wd b))],[bl g3 97 ((cNs 4).enc (fun _=>0))],[bl g4 141 ((cNs 8).enc (wd (pX a b 0 0)))]] w:=by rw[he5];exact hH
 refine zr (zv .mv 0 ?_)
 refine zn (ai (zL1 (fun (i:Nat)=>[(19,(.int .i64 i)),(5,(.pointer (some ⟨g4,0,none⟩))),(4,(.pointer (some ⟨g3,0,none⟩))),(3,(.pointer (some ⟨g2,0,none⟩))),(2,(.pointer (some ⟨g1,0,none⟩)))]) (fun i w=>HH w0 [] [[bl g1 97 ((cNs 4).enc (wd a))],[bl g2 97 ((cNs 4).enc (wd b))],[bl g3 97 ((cNs 4).enc (fun _=>0))],[bl g4 141 ((cNs 8).enc (wd (pX a b i 0)))]] w∧(i≤4)) (fun i=>4-i) 0 ⟨hH,(Nat.zero_le _)⟩ ?_))
 clear hH
 rintro i w ⟨hH,hi⟩
 refine zr (zv (.lt (i<4)) 0 ?_)
 refine zn (aj ?_)
 refine zP (fun hc6 => ?_) (fun hc6 => ?_)
 refine aA (ag (aj (ai (zr (zv .mv 1 ?_)))))
 refine zv .mv 1 ?_
 refine zn (zr (zv .mv 0 ?_))
 refine zn (aj ?_)
 replace hH:HH w0 [] [[bl g1 97 ((cNs 4).enc (wd a))],[bl g2 97 ((cNs 4).enc (wd b))],[bl g3 97 ((cNs 4).enc (fun _=>0))],[bl g4 141 ((cNs 8).enc (nW a b i 0))]] w:=by rw[wQ];exact hH
 refine zr (zv .mv 0 ?_)
 refine zn (ai (zL2 (fun (j:Nat) (cc:Nat)=>[(22,(.int .i64 j)),(19,(.int .i64 i)),(7,(.int .u64 cc)),(6,(.int .i64 i)),(5,(.pointer (some ⟨g4,0,none⟩))),(4,(.pointer (some ⟨g3,0,none⟩))),(3,(.pointer (some ⟨g2,0,none⟩))),(2,(.pointer (some ⟨g1,0,none⟩)))]) (fun j cc w=>HH w0 [] [[bl g1 97 ((cNs 4).enc (wd a))],[bl g2 97 ((cNs 4).enc (wd b))],[bl g3 97 ((cNs 4).enc (fun _=>0))],[bl g4 141 ((cNs 8).enc (nW a b i j))]] w∧(j≤4)∧(cc=pC a b i j)) (fun j _=>4-j) 0 0 ⟨hH,(Nat.zero_le _),(qB a b i).symm⟩ ?_))
 clear hH
 rintro j cc w ⟨hH,hj,hcc⟩
 refine zr (zv (.lt (j<4)) 0 ?_)
 refine zn (aj ?_)
 refine zP (fun hc7 => ?_) (fun hc7 => ?_)
 refine aA (ag (aj (ai ?_)))
 subst hcc
 obtain ⟨q1,q2,q3,q4⟩:=zO (wd a i*wd b j) (nW a b i j (i+j)) (pC a b i j) (lZ a b i j) (yi a b i j▸cg _ _) (qD a b i j)
 obtain ⟨t1,t2⟩:=qC a b i j
 rw[← yi]at t1 t2
 refine zr (zv .mv 1 ?_)
 refine zv .mv 1 ?_
 refine zn (zx ?_)
 replace hH:=hH.drew
 refine rv 0 .mv 0 ?_
 have hi8:i<4:=by omega
 refine rv 1 (.ia 1 4 i (hi:=hi8)) 1 ?_
 refine rld 2 (hH.q 0 rfl) (.ld sNt.cod ((wd a) i) (fun _ hS=>((ae hS).eltV hi8))) 1 ?_
 refine rv 3 .mv 0 ?_
 have hi9:j<4:=by omega
 refine rv 4 (.ia 1 4 j (hi:=hi9)) 1 ?_
 refine rld 5 (hH.q 1 rfl) (.ld sNt.cod ((wd b) j) (fun _ hS=>((ae hS).eltV hi9))) 1 ?_
 refine ao 6 (rpc 6 Tryz.func120 (px (((wd a) i)) (((wd b) j)) (cg _ _) (cg _ _)) trivial hH 3 (pgo [] (pgo [] (.nil _ []))) ?_)
 clear hH
 intro w hH
 refine ⟨an,rv 7 .mv 1 ?_⟩
 refine rv 8 .ext 0 ?_
 refine rv 9 .ext 2 ?_
 refine rv 10 .mv 2 ?_
 refine rv 11 .mv 2 ?_
 refine rn ?_
 refine zr (zv .mv 0 ?_)
 refine zn (zr (zv .mv 3 ?_))
 refine zv .mv 0 ?_
 refine zv .mv 0 ?_
 refine zv (.add ((i+j:Nat):Int)) 3 ?_
 have hi10:i+j<8:=by omega
 refine zv (.ia 1 8 (i+j) (hi:=hi10)) 1 ?_
 refine zs (hH.q 3 rfl) (.ld sNt.cod ((nW a b i j) (i+j)) (fun _ hS=>((ae hS).eltV hi10))) 1 ?_
 refine zv (.xt (zN (wd (wd a i*wd b j) 0) (nW a b i j (i+j)))) 3 ?_
 refine zv .mv 1 ?_
 refine zv .ext 0 ?_
 refine zv .ext 2 ?_
 refine zv .mv 2 ?_
 refine zv .mv 2 ?_
 refine zn (zr (zv .mv 4 ?_))
 refine zv .mv 2 ?_
 refine zv (.pu (wd (wd a i*wd b j) 1+(wd (wd a i*wd b j) 0+nW a b i j (i+j))/18446744073709551616) (hz:=by exact Nat.mod_eq_of_lt q2)) 3 ?_
 refine zv .mv 1 ?_
 refine zn (zr (zv .mv 2 ?_))
 refine zv .mv 32 ?_
 refine zv (.xt (zN ((wd (wd a i*wd b j) 0+nW a b i j (i+j))%18446744073709551616) (pC a b i j))) 3 ?_
 refine zv .mv 1 ?_
 refine zv .ext 0 ?_
 refine zv .ext 2 ?_
 refine zv .mv 2 ?_
 refine zv .mv 2 ?_
 refine zn (zr (zv .mv 4 ?_))
 refine zv .mv 2 ?_
 refine zv (.pu (pC a b i (j+1)) (hz:=(by rw[q3,t2];exact Nat.mod_eq_of_lt (qD _ _ _ _)))) 3 ?_
 refine zv .mv 1 ?_
 refine zn (zr (zv .mv 0 ?_))
 refine zv .mv 8 ?_
 refine zv (.add ((i+j:Nat):Int)) 3 ?_
 refine zv .mv 4 ?_
 have hi11:i+j<8:=by omega
 refine zv (.ia 1 8 (i+j) (hi:=hi11)) 2 ?_
 refine ze0 3 hH rfl (.st sNt.cod (((wd (wd a i*wd b j) 0+nW a b i j (i+j))%18446744073709551616+pC a b i j)%18446744073709551616) (aU (S:=sNt) (C:=(cNs 8)) rfl hi11) (bE (nW a b i j) (((wd (wd a i*wd b j) 0+nW a b i j (i+j))%18446744073709551616+pC a b i j)%18446744073709551616) hi11)) trivial ?_
 clear hH
 rintro _ _ w rfl hH
 refine zn ?_
 replace hH:HH w0 [] [[bl g1 97 ((cNs 4).enc (wd a))],[bl g2 97 ((cNs 4).enc (wd b))],[bl g3 97 ((cNs 4).enc (fun _=>0))],[bl g4 141 ((cNs 8).enc (nW a b i (j+1)))]] w:=by rw[q1,t1,zL]at hH;exact hH
 refine aC (zv .mv 7 ?_)
 refine zv .mv 1 ?_
 refine aD (aN (ag (aC (zv (.add ((j+1:Nat):Int)) 2 ?_))))
 refine zv .mv 1 ?_
 refine aD ?_
 exact zR2 (j+1) (pC a b i (j+1)) ⟨hH,(by omega),rfl⟩ (by omega)
 refine aJ (ak (ak (aR (ag ?_))))
 obtain rfl:j=4:=by omega
 subst hcc
 refine aC (zv .mv 19 ?_)
 refine zv (.add ((i+4:Nat):Int)) 1 ?_
 refine zv .mv 4 ?_
 have hi12:i+4<8:=by omega
 refine zv (.ia 1 8 (i+4) (hi:=hi12)) 2 ?_
 refine ze0 3 hH rfl (.st sNt.cod (pC a b i 4) (aU (S:=sNt) (C:=(cNs 8)) rfl hi12) (bE (nW a b i 4) (pC a b i 4) hi12)) trivial ?_
 clear hH
 rintro _ _ w rfl hH
 refine aD (aN (ag ?_))
 replace hH:HH w0 [] [[bl g1 97 ((cNs 4).enc (wd a))],[bl g2 97 ((cNs 4).enc (wd b))],[bl g3 97 ((cNs 4).enc (fun _=>0))],[bl g4 141 ((cNs 8).enc (wd (pX a b (i+1) 0)))]] w:=by rw[zM a b i hb]at hH;exact hH
 refine aC (zv (.add ((i+1:Nat):Int)) 7 ?_)
 refine zv .mv 1 ?_
 refine aD ?_
 exact zR1 (i+1) ⟨hH,(by omega)⟩ (by omega)
 refine aJ (ak (ak (aR (ag ?_))))
 obtain rfl:i=4:=by omega
 replace hH:HH w0 [] [[bl g1 97 ((cNs 4).enc (wd a))],[bl g2 97 ((cNs 4).enc (wd b))],[bl g3 97 ((cNs 4).enc (fun _=>0))],[bl g4 141 ((cNs 8).enc (wd L))]] w:=by rw[zl a b ha,← hL]at hH;exact hH
 refine zr ?_
 have hi13:0<8:=by omega
 refine zv (.ia 1 8 0 (hi:=hi13)) 51 ?_
 refine zs (hH.q 3 rfl) (.ld sNt.cod ((wd L) 0) (fun _ hS=>((ae hS).eltV hi13))) 1 ?_
 have hi14:1<8:=by omega
 refine zv (.ia 1 8 1 (hi:=hi14)) 0 ?_
 refine zs (hH.q 3 rfl) (.ld sNt.cod ((wd L) 1) (fun _ hS=>((ae hS).eltV hi14))) 1 ?_
 have hi15:2<8:=by omega
 refine zv (.ia 1 8 2 (hi:=hi15)) 0 ?_
 refine zs (hH.q 3 rfl) (.ld sNt.cod ((wd L) 2) (fun _ hS=>((ae hS).eltV hi15))) 1 ?_
 have hi16:3<8:=by omega
 refine zv (.ia 1 8 3 (hi:=hi16)) 0 ?_
 refine zs (hH.q 3 rfl) (.ld sNt.cod ((wd L) 3) (fun _ hS=>((ae hS).eltV hi16))) 1 ?_
 refine zv (v:=((cNs 4).val (wd L))) (fun _ _ hF=>aE (cells:=(cNs 4).enc (wd L)) (vals:=[(0,(.int .u64 (((((wd L) 0)):Nat):Int))),(1,(.int .u64 (((((wd L) 1)):Nat):Int))),(2,(.int .u64 (((((wd L) 2)):Nat):Int))),(3,(.int .u64 (((((wd L) 3)):Nat):Int)))]) rfl (EvP.cons (v:=(.int .u64 (((((wd L) 0)):Nat):Int))) (hF.ev 3 rfl) (EvP.cons (v:=(.int .u64 (((((wd L) 1)):Nat):Int))) (hF.ev 2 rfl) (EvP.cons (v:=(.int .u64 (((((wd L) 2)):Nat):Int))) (hF.ev 1 rfl) (EvP.cons (v:=(.int .u64 (((((wd L) 3)):Nat):Int))) (hF.ev 0 rfl) EvP.nil)))) (by kernel_rfl) _) 15 ?_
 refine zA hH (cNs 4) (fun _=>0) 0 ?_
 clear hH
 intro g17 w hH
 refine zW 4 hH rfl (wd L) ?_
 clear hH
 intro w hH
 refine zn (zr (zv .mv 2 ?_))
 refine zn (zr (zv .mv 0 ?_))
 refine zn (aj ?_)
 replace hH:HH w0 [] [[bl g1 97 ((cNs 4).enc (wd a))],[bl g2 97 ((cNs 4).enc (wd b))],[bl g3 97 ((cNs 4).enc (fun _=>0))],[bl g4 141 ((cNs 8).enc (wd L))],[bl g17 97 ((cNs 4).enc (kU L 0))]] w:=by exact hH
 refine zr (zv .mv 0 ?_)
 refine zn (ai (zL3 (fun (i:Nat) (hh:Nat) (cc:Nat)=>[(78,(.int .i64 i)),(14,(.int .u64 cc)),(13,(.int .u64 hh)),(12,(.pointer (some ⟨g17,0,none⟩))),(5,(.pointer (some ⟨g4,0,none⟩))),(4,(.pointer (some ⟨g3,0,none⟩)))]) (fun i hh cc w=>HH w0 [] [[bl g1 97 ((cNs 4).enc (wd a))],[bl g2 97 ((cNs 4).enc (wd b))],[bl g3 97 ((cNs 4).enc (fun _=>0))],[bl g4 141 ((cNs 8).enc (wd L))],[bl g17 97 ((cNs 4).enc (kU L i))]] w∧(i≤4)∧(hh=hC (L/2^256) i)∧(cc=cry L (38*(L/2^256)) i)) (fun i _ _=>4-i) 0 0 0 ⟨hH,(Nat.zero_le _),(wq _).symm,(iD _ _).symm⟩ ?_))
 clear hH
 rintro i hh cc w ⟨hH,hi,hhh,hcc⟩
 refine zr (zv (.lt (i<4)) 0 ?_)
 refine zn (aj ?_)
 refine zP (fun hc18 => ?_) (fun hc18 => ?_)
 refine aA (ag (aj (ai ?_)))
 subst hhh hcc
 have hcw:=(qT L i).2
 have hcl:=t6 (L/2^256) (i+1)
 refine zr (zv .mv 1 ?_)
 refine zv .mv 1 ?_
 refine zn (zr (zv .mv 0 ?_))
 refine zv (.add ((i+4:Nat):Int)) 1 ?_
 have hi19:i+4<8:=by omega
 refine zv (.ia 1 8 (i+4) (hi:=hi19)) 1 ?_
 refine zs (hH.q 3 rfl) (.ld sNt.cod ((wd L) (i+4)) (fun _ hS=>((ae hS).eltV hi19))) 1 ?_
 refine zc Tryz.func120 (px (((wd L) (i+4))) (38) (cg _ _) (by decide)) trivial hH 1 ?_
 clear hH
 intro w hH
 refine zv .mv 1 ?_
 refine zv .ext 0 ?_
 refine zv .ext 2 ?_
 refine zv .mv 2 ?_
 refine zv .mv 2 ?_
 refine zn (zr (zv .mv 0 ?_))
 refine zn (zr (zv .mv 3 ?_))
 refine zv .mv 32 ?_
 refine zv (.xt (CP L i)) 3 ?_
 refine zv .mv 1 ?_
 refine zv .ext 0 ?_
 refine zv .ext 2 ?_
 refine zv .mv 2 ?_
 refine zv .mv 2 ?_
 refine zn (zr (zv .mv 4 ?_))
 refine zv .mv 2 ?_
 refine zv (.pu (hC (L/2^256) (i+1)) (hz:=(by rw[hcw];exact Nat.mod_eq_of_lt (show _<18446744073709551616 by omega)))) 3 ?_
 refine zv .mv 1 ?_
 refine zn (aC (zv .mv 0 ?_))
 refine zv .mv 8 ?_
 have hi20:i<4:=by omega
 refine zv (.ia 1 4 i (hi:=hi20)) 1 ?_
 refine zs (hH.q 4 rfl) (.ld sNt.cod ((kU L i) i) (fun _ hS=>((ae hS).eltV hi20))) 1 ?_
 refine zv .mv 8 ?_
 refine zv .mv 32 ?_
 refine zv (.xt (CQ L i)) 7 ?_
 refine zv .mv 1 ?_
 refine zv .ext 0 ?_
 refine zv .ext 2 ?_
 have hi21:i<4:=by omega
 refine zv (.ia 1 4 i (hi:=hi21)) 4 ?_
 refine ze0 4 hH rfl (.st sNt.cod (wd (L+38*(L/2^256)) i) (aU (S:=sNt) (C:=(cNs 4)) rfl hi21) (bE (kU L i) (wd (L+38*(L/2^256)) i) hi21)) trivial ?_
 clear hH
 rintro _ _ w rfl hH
 refine zv .mv 7 ?_
 refine aD (aN (ag ?_))
 replace hH:HH w0 [] [[bl g1 97 ((cNs 4).enc (wd a))],[bl g2 97 ((cNs 4).enc (wd b))],[bl g3 97 ((cNs 4).enc (fun _=>0))],[bl g4 141 ((cNs 8).enc (wd L))],[bl g17 97 ((cNs 4).enc (kU L (i+1)))]] w:=by rw[wR]at hH;exact hH
 refine aC (zv (.add ((i+1:Nat):Int)) 4 ?_)
 refine zv .mv 1 ?_
 refine aD ?_
 exact zR3 (i+1) (hC (L/2^256) (i+1)) (cry L (38*(L/2^256)) (i+1)) ⟨hH,(by omega),rfl,rfl⟩ (by omega)
 refine aJ (ak (ak (aR (ag ?_))))
 obtain rfl:i=4:=by omega
 subst hhh hcc
 have he22:(cNs 4).enc (wd ((L+38*(L/2^256))%2^256))=(cNs 4).enc (kU L 4):=aP (fun _ hj=>zQ hj)
 replace hH:HH w0 [] [[bl g1 97 ((cNs 4).enc (wd a))],[bl g2 97 ((cNs 4).enc (wd b))],[bl g3 97 ((cNs 4).enc (fun _=>0))],[bl g4 141 ((cNs 8).enc (wd L))],[bl g17 97 ((cNs 4).enc (wd ((L+38*(L/2^256))%2^256)))]] w:=by rw[he22];exact hH
 refine zr (zs (hH.q 4 rfl) (.l0 (cNs 4) (wd ((L+38*(L/2^256))%2^256))) 51 ?_)
 refine zv .mv 4 ?_
 refine zv .mv 4 ?_
 refine zv (.pu (hC (L/2^256) 4+cry L (38*(L/2^256)) 4) (hz:=by exact Nat.mod_eq_of_lt (by show _<18446744073709551616;omega))) 3 ?_
 refine zm hH (.call Tryz.func116 (hf.does)) trivial 3 ?_
 clear hH
 rintro _ _ w ⟨rfl,rfl⟩ hH
 replace hH:HH w0 [] [[bl g1 97 ((cNs 4).enc (wd a))],[bl g2 97 ((cNs 4).enc (wd b))],[bl g3 97 ((cNs 4).enc (fun _=>0))],[bl g4 141 ((cNs 8).enc (wd L))],[bl g17 97 ((cNs 4).enc (wd ((L+38*(L/2^256))%2^256)))]] w:=hH.unpad
 refine zW 2 hH rfl (wd (tm a b)) ?_
 clear hH
 intro w hH
 refine zn (ar (aI 1 (hH.blk 2 rfl) rfl rfl (by kernel_rfl) (Cod.size _ _) (by kernel_rfl) ?_))
 exact zE hH
def cG(a e:Nat):Nat→Nat
 | 0=>1
 | i+1=>if e/2^(255-i)%2=1 then tm (tm (cG a e i) (cG a e i)) a else tm (cG a e i) (cG a e i)
theorem fH{a e:Nat}(ha:a<2^256):∀ i,cG a e i<2^256
 | 0=>by show 1<2^256;decide
 | i+1=>by
  have h:=fH (e:=e) ha i
  show (if _ then _ else _)<2^256
  split
  ·exact aY (aY h h) ha
  ·exact aY h h
theorem ox{a e:Nat}(he:e<2^256):∀ i,i≤256→toF (cG a e i)=pw (toF a) (e/2^(256-i))
 | 0,_=>by
  rw[Nat.sub_zero,Nat.div_eq_of_lt he]
  show toF 1=1
  decide +kernel
 | i+1,hi=>by
  have h:=ox (a:=a) he i (by omega)
  have e1:256-i=(255-i)+1:=by omega
  have e2:256-(i+1)=255-i:=by omega
  rw[e1,Nat.pow_succ,← Nat.div_div_eq_div_mul]at h
  rw[e2]
  generalize hx:e/2^(255-i)=x at *
  have hd:=Nat.div_add_mod x 2
  show toF (if e/2^(255-i)%2=1 then tm (tm (cG a e i) (cG a e i)) a else tm (cG a e i) (cG a e i))=_
  rw[hx]
  split
  ·rename_i hb
   have e3:x=(x/2+x/2)+1:=by omega
   rw[fi,fi,h,← gf]
   conv=>rhs;rw[e3]
   rfl
  ·rename_i hb
   have e3:x=x/2+x/2:=by omega
   rw[fi,h,← gf]
   conv=>rhs;rw[e3]
theorem ma{a e j b:Nat}(hj:j<256)(hb:e/2^j%2=b):cG a e (256-j)=if b=1 then tm (tm (cG a e (256-(j+1))) (cG a e (256-(j+1)))) a else tm (cG a e (256-(j+1))) (cG a e (256-(j+1))):=by
 have e1:256-j=(256-(j+1))+1:=by omega
 have e2:255-(256-(j+1))=j:=by omega
 rw[e1]
 show (if e/2^(255-(256-(j+1)))%2=1 then _ else _)=_
 rw[e2,hb]
theorem zR(e j:Nat):wd e (j/64)/2^(j%64)%2=e/2^j%2:=by
 unfold wd
 have e1:(2:Nat)^j=2^(64*(j/64))*2^(j%64):=by rw[← Nat.pow_add];congr 1;omega
 rw[e1,← Nat.div_div_eq_div_mul]
 generalize e/2^(64*(j/64))=v
 have hr:j%64<64:=Nat.mod_lt _ (by decide)
 generalize j%64=r at *
 have e2:(18446744073709551616:Nat)=2^r*(2*2^(63-r)):=by
  rw[show (18446744073709551616:Nat)=2^64 from rfl,← Nat.pow_succ',← Nat.pow_add]
  congr 1;omega
 rw[e2,Nat.mod_mul_right_div_self,Nat.mod_mul_right_mod]
theorem wS{n:Nat}(hn:n<18446744073709551616){i:Nat}(hi:i<4):[n,0,0,0].getD i 0=wd n i:=by
 have:i=0∨i=1∨i=2∨i=3:=by omega
 rcases this with rfl | rfl | rfl | rfl
 ·exact (mO hn).symm
 ·exact (eB hn 1 (by decide)).symm
 ·exact (eB hn 2 (by decide)).symm
 ·exact (eB hn 3 (by decide)).symm
theorem wT:∀ i,i<4→wd (pN-2) i=stF (wd pN) 0 18446744073709551595 i:=fun i hi=>by
 have:i=0∨i=1∨i=2∨i=3:=by omega
 rcases this with rfl | rfl | rfl | rfl<;>decide
def riv(a:Nat):Nat:=cG a (pN-2) 256
theorem kO{a:Nat}(ha:a<2^256):riv a<2^256:=fH ha 256
theorem qU(a:Nat):toF (riv a)=ivF (toF a):=by
 have h:=ox (a:=a) (e:=pN-2) (by decide) 256 (Nat.le_refl _)
 rw[Nat.sub_self,Nat.pow_zero,Nat.div_one]at h
 exact h
theorem cm(n:Nat)(hn:n<18446744073709551616):Pure Tryz.prog 72 #[(.int .u64 n)] (fun _=>True) (rN n):=by
 refine pU Tryz.func72 Tryz.ntmps72 ?_
 intro w0 hH hR
 refine zr (zA hH (cNs 4) (fun _=>0) 0 ?_)
 clear hH
 intro g1 w hH
 refine zn (zr (zv .mv 2 ?_))
 refine zv (v:=((cNs 4).val (fun i=>[n,0,0,0].getD i 0))) (fun _ _ hF=>aE (cells:=(cNs 4).enc (fun i=>[n,0,0,0].getD i 0)) (vals:=[(0,(.int .u64 n)),(1,(.int .u64 0)),(2,(.int .u64 0)),(3,(.int .u64 0))]) rfl (EvP.cons (v:=(.int .u64 n)) (hF.ev 0 rfl) (EvP.cons (v:=(.int .u64 0)) rfl (EvP.cons (v:=(.int .u64 0)) rfl (EvP.cons (v:=(.int .u64 0)) rfl EvP.nil)))) (by kernel_rfl) _) 1 ?_
 refine zW 0 hH rfl (fun i=>[n,0,0,0].getD i 0) ?_
 clear hH
 intro w hH
 refine zn (ar (aI 1 (hH.blk 0 rfl) rfl rfl (by kernel_rfl) (Cod.size _ _) (by kernel_rfl) ?_))
 exact ⟨congrArg (fun c=>Ending.returned (.agg c)) (aP (S:=sNt) fun i hi=>wS hn hi),HH.toBelow hH⟩
theorem oy(a e:Nat)(ha:a<2^256):Pure Tryz.prog 121 #[((cNs 4).val (wd a)),((cNs 4).val (wd e))] (fun _=>True) (rN (cG a e 256)):=by
 refine pU Tryz.func121 Tryz.ntmps121 ?_
 intro w0 hH hR
 refine zr (zB hH (cNs 4) (wd a) 1 ?_)
 clear hH
 intro g1 w hH
 refine zB hH (cNs 4) (wd e) 2 ?_
 clear hH
 intro g2 w hH
 refine zA hH (cNs 4) (fun _=>0) 0 ?_
 clear hH
 intro g3 w hH
 refine zn (zr (zc Tryz.func72 (cm 1 (by decide)) trivial hH 0 ?_))
 clear hH
 intro w hH
 refine zA hH (cNs 4) (fun _=>0) 0 ?_
 clear hH
 intro g4 w hH
 refine zW 3 hH rfl (wd 1) ?_
 clear hH
 intro w hH
 refine zn (aj ?_)
 replace hH:HH w0 [] [[bl g1 97 ((cNs 4).enc (wd a))],[bl g2 97 ((cNs 4).enc (wd e))],[bl g3 97 ((cNs 4).enc (fun _=>0))],[bl g4 97 ((cNs 4).enc (wd (cG a e (256-256))))]] w:=by exact hH
 refine zr (zv .mv 2 ?_)
 refine zn (ai (zL1 (fun (j:Nat)=>[(6,(.int .i64 ((j:Int)-1))),(5,(.pointer (some ⟨g4,0,none⟩))),(4,(.pointer (some ⟨g3,0,none⟩))),(3,(.pointer (some ⟨g2,0,none⟩))),(2,(.pointer (some ⟨g1,0,none⟩)))]) (fun j w=>HH w0 [] [[bl g1 97 ((cNs 4).enc (wd a))],[bl g2 97 ((cNs 4).enc (wd e))],[bl g3 97 ((cNs 4).enc (fun _=>0))],[bl g4 97 ((cNs 4).enc (wd (cG a e (256-j))))]] w∧(j≤256)) (fun j=>j) 256 ⟨hH,(Nat.le_refl _)⟩ ?_))
 clear hH
 rintro j w ⟨hH,hj⟩
 refine aj (zr (zv .mv 0 ?_))
 refine zv (v:=(.bool (decide (((j:Int)-1) ≥ 0)))) (fun _ _ hF=>fL rfl (hF.ev 0 rfl) rfl rfl) 1 ?_
 refine zn ?_
 refine zP (fun hc5 => ?_) (fun hc5 => ?_)
 refine aA (ag (aj (ai ?_)))
 obtain ⟨k,rfl⟩:∃ k,j=k+1:=⟨j-1,by omega⟩
 rw[show ((k+1:Nat):Int)-1=(k:Int) by omega]
 replace hH:HH w0 [] [[bl g1 97 ((cNs 4).enc (wd a))],[bl g2 97 ((cNs 4).enc (wd e))],[bl g3 97 ((cNs 4).enc (fun _=>0))],[bl g4 97 ((cNs 4).enc (wd (cG a e (256-(k+1)))))]] w:=by exact hH
 have hsl:wd e (k/64)/2^(k%64)<2^64:=Nat.lt_of_le_of_lt (Nat.div_le_self _ _) (cg _ _)
 refine zr (zs (hH.q 3 rfl) (.l0 (cNs 4) (wd (cG a e (256-(k+1))))) 1 ?_)
 refine zs (hH.q 3 rfl) (.l0 (cNs 4) (wd (cG a e (256-(k+1))))) 0 ?_
 refine zc Tryz.func75 (ba (cG a e (256-(k+1))) (cG a e (256-(k+1))) (fH ha _) (fH ha _)) trivial hH 3 ?_
 clear hH
 intro w hH
 refine zW 3 hH rfl (wd (tm (cG a e (256-(k+1))) (cG a e (256-(k+1))))) ?_
 clear hH
 intro w hH
 refine zn (zr (zv .mv 1 ?_))
 refine zv (v:=(.int .i64 (((k/64):Nat):Int))) (fun _ _ hF=>cM (z:=((k/64:Nat):Int)) rfl (hF.ev 0 rfl) rfl (by omega) (wI dO (by omega) (by omega))) 1 ?_
 have hi6:k/64<4:=by omega
 refine zv (.ia 1 4 (k/64) (hi:=hi6)) 1 ?_
 refine zs (hH.q 1 rfl) (.ld sNt.cod ((wd e) (k/64)) (fun _ hS=>((ae hS).eltV hi6))) 1 ?_
 refine zv .mv 0 ?_
 refine zv (v:=(.int .i64 (((k%64):Nat):Int))) (fun _ _ hF=>bm (z:=((k%64:Nat):Int)) rfl (hF.ev 0 rfl) rfl (by omega) bW) 1 ?_
 refine zv (.cu .u64) 1 ?_
 refine zv (v:=(.int .u64 (((wd e (k/64)/2^(k%64)):Nat):Int))) (fun _ _ hF=>du (n:=k%64) (z:=(wd e (k/64)/2^(k%64))) rfl (hF.ev 1 rfl) (hF.ev 0 rfl) (by show _≤64;omega) (rfl)) 3 ?_
 refine zv (.nu (e/2^k%2) hsl (by decide) (by rw[Nat.and_one_is_mod,zR]) (j:=1) (kk:=.u64)) 1 ?_
 refine zv (.eq (e/2^k%2=1)) 1 ?_
 refine zn ?_
 refine zP (fun hc7 => ?_) (fun hc7 => ?_)
 refine aC (zs (hH.q 3 rfl) (.l0 (cNs 4) (wd (tm (cG a e (256-(k+1))) (cG a e (256-(k+1)))))) 1 ?_)
 refine zs (hH.q 0 rfl) (.l0 (cNs 4) (wd a)) 0 ?_
 refine zc Tryz.func75 (ba (tm (cG a e (256-(k+1))) (cG a e (256-(k+1)))) a (aY (fH ha _) (fH ha _)) ha) trivial hH 3 ?_
 clear hH
 intro w hH
 refine zW 3 hH rfl (wd (tm (tm (cG a e (256-(k+1))) (cG a e (256-(k+1)))) a)) ?_
 clear hH
 intro w hH
 refine aD (aN (ag ?_))
 replace hH:HH w0 [] [[bl g1 97 ((cNs 4).enc (wd a))],[bl g2 97 ((cNs 4).enc (wd e))],[bl g3 97 ((cNs 4).enc (fun _=>0))],[bl g4 97 ((cNs 4).enc (wd (cG a e (256-k))))]] w:=by rw[ma (by omega) rfl,if_pos hc7];exact hH
 refine aC (zv .mv 3 ?_)
 refine zv (.sub ((k:Int)-1)) 1 ?_
 refine zv .mv 1 ?_
 refine aD ?_
 exact zR1 k ⟨hH,(by omega)⟩ (by omega)
 refine aA (aN (ag ?_))
 replace hH:HH w0 [] [[bl g1 97 ((cNs 4).enc (wd a))],[bl g2 97 ((cNs 4).enc (wd e))],[bl g3 97 ((cNs 4).enc (fun _=>0))],[bl g4 97 ((cNs 4).enc (wd (cG a e (256-k))))]] w:=by rw[ma (by omega) rfl,if_neg hc7];exact hH
 refine aC (zv .mv 3 ?_)
 refine zv (.sub ((k:Int)-1)) 1 ?_
 refine zv .mv 1 ?_
 refine aD ?_
 exact zR1 k ⟨hH,(by omega)⟩ (by omega)
 refine aJ (ak (ak (aR (ag ?_))))
 obtain rfl:j=0:=by omega
 replace hH:HH w0 [] [[bl g1 97 ((cNs 4).enc (wd a))],[bl g2 97 ((cNs 4).enc (wd e))],[bl g3 97 ((cNs 4).enc (fun _=>0))],[bl g4 97 ((cNs 4).enc (wd (cG a e 256)))]] w:=by exact hH
 refine zr (zs (hH.q 3 rfl) (.l0 (cNs 4) (wd (cG a e 256))) 55 ?_)
 refine zW 2 hH rfl (wd (cG a e 256)) ?_
 clear hH
 intro w hH
 refine zn (ar (aI 1 (hH.blk 2 rfl) rfl rfl (by kernel_rfl) (Cod.size _ _) (by kernel_rfl) ?_))
 exact zE hH
theorem gY(a:Nat)(ha:a<2^256):Pure Tryz.prog 77 #[((cNs 4).val (wd a))] (fun _=>True) (rN (riv a)):=by
 refine pU Tryz.func77 Tryz.ntmps77 ?_
 intro w0 hH hR
 refine zr (zB hH (cNs 4) (wd a) 1 ?_)
 clear hH
 intro g1 w hH
 refine zA hH (cNs 4) (fun _=>0) 0 ?_
 clear hH
 intro g2 w hH
 refine zn (zr (zm hH (.call Tryz.func118 (ux.does)) trivial 0 ?_))
 clear hH
 rintro _ _ w ⟨rfl,rfl⟩ hH
 replace hH:HH w0 [] [[bl g1 97 ((cNs 4).enc (wd a))],[bl g2 97 ((cNs 4).enc (fun _=>0))]] w:=hH.unpad
 refine zA hH (cNs 4) (fun _=>0) 0 ?_
 clear hH
 intro g3 w hH
 refine zW 2 hH rfl (wd pN) ?_
 clear hH
 intro w hH
 refine zn (zr ?_)
 have hi4:0<4:=by omega
 refine zv (.ia 1 4 0 (hi:=hi4)) 2 ?_
 refine zs (hH.q 2 rfl) (.ld sNt.cod ((wd pN) 0) (fun _ hS=>((ae hS).eltV hi4))) 1 ?_
 refine zv (v:=(.int .u64 18446744073709551595)) (fun _ _ hF=>f8 (m:=((wd pN) 0)) (j:=2) (z:=18446744073709551595) rfl rfl (hF.ev 0 rfl) rfl (by show 2≤18446744073709551616;omega) (by show (wd pN 0+(18446744073709551616-2))%18446744073709551616=18446744073709551595;decide)) 1 ?_
 have hi5:0<4:=by omega
 refine zv (.ia 1 4 0 (hi:=hi5)) 0 ?_
 refine ze0 2 hH rfl (.st sNt.cod 18446744073709551595 (aU (S:=sNt) (C:=(cNs 4)) rfl hi5) (bE (wd pN) 18446744073709551595 hi5)) trivial ?_
 clear hH
 rintro _ _ w rfl hH
 refine zn ?_
 have he6:(cNs 4).enc (wd (pN-2))=(cNs 4).enc (stF (wd pN) 0 18446744073709551595):=aP wT
 replace hH:HH w0 [] [[bl g1 97 ((cNs 4).enc (wd a))],[bl g2 97 ((cNs 4).enc (fun _=>0))],[bl g3 97 ((cNs 4).enc (wd (pN-2)))]] w:=by rw[he6];exact hH
 refine zr (zs (hH.q 0 rfl) (.l0 (cNs 4) (wd a)) 19 ?_)
 refine zs (hH.q 2 rfl) (.l0 (cNs 4) (wd (pN-2))) 2 ?_
 refine zc Tryz.func121 (oy a (pN-2) ha) trivial hH 3 ?_
 clear hH
 intro w hH
 refine zW 1 hH rfl (wd (cG a (pN-2) 256)) ?_
 clear hH
 intro w hH
 refine zn (ar (aI 1 (hH.blk 1 rfl) rfl rfl (by kernel_rfl) (Cod.size _ _) (by kernel_rfl) ?_))
 exact zE hH
theorem fJ(n k:Nat)(hk:k<18446744073709551616):Pure Tryz.prog 174 #[(vN n),(.int .u64 k)] (fun _=>True) (.tuple #[vN (n+k),.int .u64 ((cry n k 4:Nat):Int)]):=by
 refine pU Tryz.func174 Tryz.ntmps174 ?_
 intro w0 hH hR
 refine zr (zm hH .bg trivial 1 ?_)
 clear hH
 rintro _ _ w ⟨g1,rfl,rfl⟩ hH
 refine zm hH (.az (.agg z4)) trivial 0 ?_
 clear hH
 rintro _ _ w ⟨g2,rfl,rfl⟩ hH
 refine zv .mv 0 ?_
 refine zn (zr (zv .mv 1 ?_))
 refine zn (zr (zv (.fld 0) 1 ?_))
 refine zs (hH.q 0 rfl) .lc 1 ?_
 refine zv .mv 8 ?_
 refine zv (.xt (CN n k hk)) 3 ?_
 refine zv .mv 1 ?_
 refine zv .ext 0 ?_
 refine zv .ext 2 ?_
 refine zv (.fld 0) 0 ?_
 refine ze0 0 hH rfl .sc trivial ?_
 clear hH
 rintro _ _ w rfl hH
 refine zv .mv 7 ?_
 refine zn (zr (zv (.fld 1) 0 ?_))
 refine zs (hH.q 0 rfl) .lc 1 ?_
 refine zv .mv 2 ?_
 refine zv (.xt (uu n k 1 (eB hk 1 (by decide)))) 3 ?_
 refine zv .mv 1 ?_
 refine zv .ext 0 ?_
 refine zv .ext 2 ?_
 refine zv (.fld 1) 0 ?_
 refine ze0 0 hH rfl .sc trivial ?_
 clear hH
 rintro _ _ w rfl hH
 refine zv .mv 7 ?_
 refine zn (zr (zv (.fld 2) 0 ?_))
 refine zs (hH.q 0 rfl) .lc 1 ?_
 refine zv .mv 2 ?_
 refine zv (.xt (uu n k 2 (eB hk 2 (by decide)))) 3 ?_
 refine zv .mv 1 ?_
 refine zv .ext 0 ?_
 refine zv .ext 2 ?_
 refine zv (.fld 2) 0 ?_
 refine ze0 0 hH rfl .sc trivial ?_
 clear hH
 rintro _ _ w rfl hH
 refine zv .mv 7 ?_
 refine zn (zr (zv (.fld 3) 0 ?_))
 refine zs (hH.q 0 rfl) .lc 1 ?_
 refine zv .mv 2 ?_
 refine zv (.xt (uu n k 3 (eB hk 3 (by decide)))) 3 ?_
 refine zv .mv 1 ?_
 refine zv .ext 0 ?_
 refine zv .ext 2 ?_
 refine zv (.fld 3) 0 ?_
 refine ze0 0 hH rfl .sc trivial ?_
 clear hH
 rintro _ _ w rfl hH
 refine zv .mv 7 ?_
 refine zn (zr (zs (hH.q 0 rfl) (.lr 4) 4 ?_))
 refine zv .mv 2 ?_
 refine ze0 1 hH rfl (.sr 4) trivial ?_
 clear hH
 rintro _ _ w rfl hH
 refine zv .mv 3 ?_
 refine zn (ar (aX 1 0 (hH.blk 1 rfl) rfl rfl rfl (by kernel_rfl) rfl (by kernel_rfl) ?_))
 exact zE hH
theorem py(n k:Nat)(hk:k<18446744073709551616):Pure Tryz.prog 173 #[(vN n),(.int .u64 k)] (fun _=>True) (.tuple #[vN (n+2^256-k),.int .u64 ((brw n k 4:Nat):Int)]):=by
 refine pU Tryz.func173 Tryz.ntmps173 ?_
 intro w0 hH hR
 refine zr (zm hH .bg trivial 1 ?_)
 clear hH
 rintro _ _ w ⟨g1,rfl,rfl⟩ hH
 refine zm hH (.az (.agg z4)) trivial 0 ?_
 clear hH
 rintro _ _ w ⟨g2,rfl,rfl⟩ hH
 refine zv .mv 0 ?_
 refine zn (zr (zv .mv 1 ?_))
 refine zn (zr (zv (.fld 0) 1 ?_))
 refine zs (hH.q 0 rfl) .lc 1 ?_
 refine zv .mv 8 ?_
 refine zv (.xt (CO n k hk)) 3 ?_
 refine zv .mv 1 ?_
 refine zv .ext 0 ?_
 refine zv .ext 2 ?_
 refine zv (.fld 0) 0 ?_
 refine ze0 0 hH rfl .sc trivial ?_
 clear hH
 rintro _ _ w rfl hH
 refine zv .mv 7 ?_
 refine zn (zr (zv (.fld 1) 0 ?_))
 refine zs (hH.q 0 rfl) .lc 1 ?_
 refine zv .mv 2 ?_
 refine zv (.xt (zI n k 1 hk (eB hk 1 (by decide)) (by decide))) 3 ?_
 refine zv .mv 1 ?_
 refine zv .ext 0 ?_
 refine zv .ext 2 ?_
 refine zv (.fld 1) 0 ?_
 refine ze0 0 hH rfl .sc trivial ?_
 clear hH
 rintro _ _ w rfl hH
 refine zv .mv 7 ?_
 refine zn (zr (zv (.fld 2) 0 ?_))
 refine zs (hH.q 0 rfl) .lc 1 ?_
 refine zv .mv 2 ?_
 refine zv (.xt (zI n k 2 hk (eB hk 2 (by decide)) (by decide))) 3 ?_
 refine zv .mv 1 ?_
 refine zv .ext 0 ?_
 refine zv .ext 2 ?_
 refine zv (.fld 2) 0 ?_
 refine ze0 0 hH rfl .sc trivial ?_
 clear hH
 rintro _ _ w rfl hH
 refine zv .mv 7 ?_
 refine zn (zr (zv (.fld 3) 0 ?_))
 refine zs (hH.q 0 rfl) .lc 1 ?_
 refine zv .mv 2 ?_
 refine zv (.xt (zI n k 3 hk (eB hk 3 (by decide)) (by decide))) 3 ?_
 refine zv .mv 1 ?_
 refine zv .ext 0 ?_
 refine zv .ext 2 ?_
 refine zv (.fld 3) 0 ?_
 refine ze0 0 hH rfl .sc trivial ?_
 clear hH
 rintro _ _ w rfl hH
 refine zv .mv 7 ?_
 refine zn (zr (zs (hH.q 0 rfl) (.lr 4) 4 ?_))
 refine zv .mv 2 ?_
 refine ze0 1 hH rfl (.sr 4) trivial ?_
 clear hH
 rintro _ _ w rfl hH
 refine zv .mv 3 ?_
 refine zn (ar (aX 1 0 (hH.blk 1 rfl) rfl rfl rfl (by kernel_rfl) rfl (by kernel_rfl) ?_))
 exact zE hH
theorem uy(n k:Nat)(hn:n<2^256)(hk:38*k+38<18446744073709551616):Pure Tryz.prog 161 #[(vN n),(.int .u64 k)] (fun _=>True) (vN (fv (n+2^256*k))):=by
 refine pU Tryz.func161 Tryz.ntmps161 ?_
 intro w0 hH hR
 obtain ⟨t1,t2,t3⟩:=zw n k hn hk
 have hp:=fJ n (38*k) (by omega)
 rw[← ji (n+38*k),jW n (38*k) 4 hn (by show _<2^256;omega)]at hp
 obtain ⟨r1,r2⟩:=pm _ _ t2
 rw[t1]at r1 r2
 generalize fv (n+2^256*k)=V at *
 generalize (n+38*k)%2^256=u at *
 rw[show (2:Nat)^(64*4)=2^256 from rfl]at hp
 generalize (n+38*k)/2^256=c at *
 have q1:=r2 1 (by decide);have q2:=r2 2 (by decide);have q3:=r2 3 (by decide)
 have e2:(38*c)%2^64=38*c:=Nat.mod_eq_of_lt (by omega)
 have e3:(wd u 0+38*c)%2^64=wd V 0:=by rw[r1];exact Nat.mod_eq_of_lt t2
 clear r1 r2 t1 t2 t3
 refine zr (zm hH .bg trivial 1 ?_)
 clear hH
 rintro _ _ w ⟨g1,rfl,rfl⟩ hH
 refine zm hH (.az (.agg z4)) trivial 0 ?_
 clear hH
 rintro _ _ w ⟨g2,rfl,rfl⟩ hH
 refine zn (zr (zs (hH.q 0 rfl) (.lr 4) 0 ?_))
 refine zv .mv 8 ?_
 refine zv (.mu (38*k) (m:=38) (hz:=Nat.mod_eq_of_lt (by show _<18446744073709551616;omega))) 1 ?_
 refine zm hH (.call Tryz.func174 (hp.does)) trivial 3 ?_
 clear hH
 rintro _ _ w ⟨rfl,rfl⟩ hH
 replace hH:HH w0 [] [[bl g1 170 (cN n)],[bl g2 170 z4]] w:=hH.unpad
 refine zv .mv 1 ?_
 refine zv .ext 0 ?_
 refine zv .ext 2 ?_
 refine ze0 0 hH rfl (.sr 4) trivial ?_
 clear hH
 rintro _ _ w rfl hH
 refine zv .mv 3 ?_
 refine zn (zr (zv (.fld 0) 0 ?_))
 refine zs (hH.q 0 rfl) .lc 1 ?_
 refine zv .mv 2 ?_
 refine zv (.mu (38*c) (m:=38) (hz:=e2)) 1 ?_
 refine zv (.pu (wd V 0) (hz:=e3)) 3 ?_
 refine zv (.fld 0) 0 ?_
 refine ze0 0 hH rfl .sc trivial ?_
 clear hH
 rintro _ _ w rfl hH
 refine zn ?_
 replace hH:HH w0 [] [[bl g1 170 (cN V)],[bl g2 170 z4]] w:=by unfold cN;rw[q1,q2,q3];exact hH
 refine zr (zs (hH.q 0 rfl) (.lr 4) 11 ?_)
 refine ze0 1 hH rfl (.sr 4) trivial ?_
 clear hH
 rintro _ _ w rfl hH
 refine zn (ar (aI 1 (hH.blk 1 rfl) rfl rfl (by kernel_rfl) rfl (by kernel_rfl) ?_))
 exact zE hH
theorem zS(a b:Nat)(ha:a<2^256)(hb:b<2^256):Pure Tryz.prog 156 #[(vN a),(vN b)] (fun _=>True) (vN (fv (a+b))):=by
 refine pU Tryz.func156 Tryz.ntmps156 ?_
 intro w0 hH hR
 have hcr:cry a b 4=(a+b)/2^256:=jW a b 4 ha hb
 have hf:=uy ((a+b)%2^256) (cry a b 4) (Nat.mod_lt _ (by decide)) (by have:=mJ a b 4;omega)
 rw[show (a+b)%2^256+2^256*cry a b 4=a+b by rw[hcr];omega,ji]at hf
 clear hcr
 refine zr (zm hH .bg trivial 1 ?_)
 clear hH
 rintro _ _ w ⟨g1,rfl,rfl⟩ hH
 refine zm hH .bg trivial 2 ?_
 clear hH
 rintro _ _ w ⟨g2,rfl,rfl⟩ hH
 refine zm hH (.az (.agg z4)) trivial 0 ?_
 clear hH
 rintro _ _ w ⟨g3,rfl,rfl⟩ hH
 refine zn (zr (zv .mv 0 ?_))
 refine zn (zr (zv (.fld 0) 1 ?_))
 refine zs (hH.q 0 rfl) .lc 1 ?_
 refine zv (.fld 0) 0 ?_
 refine zs (hH.q 1 rfl) .lc 1 ?_
 refine zv (.xt (wL a b)) 3 ?_
 refine zv .mv 1 ?_
 refine zv .ext 0 ?_
 refine zv .ext 2 ?_
 refine zv (.fld 0) 0 ?_
 refine ze0 0 hH rfl .sc trivial ?_
 clear hH
 rintro _ _ w rfl hH
 refine zv .mv 7 ?_
 refine zn (zr (zv (.fld 1) 0 ?_))
 refine zs (hH.q 0 rfl) .lc 1 ?_
 refine zv (.fld 1) 0 ?_
 refine zs (hH.q 1 rfl) .lc 1 ?_
 refine zv .mv 4 ?_
 refine zv (.xt (jO a b 1)) 7 ?_
 refine zv .mv 1 ?_
 refine zv .ext 0 ?_
 refine zv .ext 2 ?_
 refine zv (.fld 1) 0 ?_
 refine ze0 0 hH rfl .sc trivial ?_
 clear hH
 rintro _ _ w rfl hH
 refine zv .mv 7 ?_
 refine zn (zr (zv (.fld 2) 0 ?_))
 refine zs (hH.q 0 rfl) .lc 1 ?_
 refine zv (.fld 2) 0 ?_
 refine zs (hH.q 1 rfl) .lc 1 ?_
 refine zv .mv 4 ?_
 refine zv (.xt (jO a b 2)) 7 ?_
 refine zv .mv 1 ?_
 refine zv .ext 0 ?_
 refine zv .ext 2 ?_
 refine zv (.fld 2) 0 ?_
 refine ze0 0 hH rfl .sc trivial ?_
 clear hH
 rintro _ _ w rfl hH
 refine zv .mv 7 ?_
 refine zn (zr (zv (.fld 3) 0 ?_))
 refine zs (hH.q 0 rfl) .lc 1 ?_
 refine zv (.fld 3) 8 ?_
 refine zs (hH.q 1 rfl) .lc 1 ?_
 refine zv .mv 4 ?_
 refine zv (.xt (jO a b 3)) 7 ?_
 refine zv .mv 1 ?_
 refine zv .ext 0 ?_
 refine zv .ext 2 ?_
 refine zv (.fld 3) 0 ?_
 refine ze0 0 hH rfl .sc trivial ?_
 clear hH
 rintro _ _ w rfl hH
 refine zv .mv 7 ?_
 refine zn (zr (zs (hH.q 0 rfl) (.lr 4) 4 ?_))
 refine zv .mv 2 ?_
 refine zm hH (.call Tryz.func161 (hf.does)) trivial 3 ?_
 clear hH
 rintro _ _ w ⟨rfl,rfl⟩ hH
 replace hH:HH w0 [] [[bl g1 170 (cN (a+b))],[bl g2 170 (cN b)],[bl g3 170 z4]] w:=hH.unpad
 refine ze0 2 hH rfl (.sr 4) trivial ?_
 clear hH
 rintro _ _ w rfl hH
 refine zn (ar (aI 1 (hH.blk 2 rfl) rfl rfl (by kernel_rfl) rfl (by kernel_rfl) ?_))
 exact zE hH
theorem qV(a b:Nat)(ha:a<2^256)(hb:b<2^256):Pure Tryz.prog 157 #[(vN a),(vN b)] (fun _=>True) (vN (mi a b)):=by
 refine pU Tryz.func157 Tryz.ntmps157 ?_
 intro w0 hH hR
 obtain ⟨t1,_,_⟩:=iI a b ha hb
 obtain ⟨r1,r2⟩:=pn _ _ t1
 have hk:=je a b 4
 have hk2:=je (mi1 a b) (38*brw a b 4) 4
 have hbz:b≤2^256:=Nat.le_of_lt hb
 have hl:=py (mi1 a b) (38*brw a b 4) (by omega)
 have hm1:vN (a+2^256-b)=vN (mi1 a b):=by rw[zy,ji]
 rw[← ji (mi1 a b+2^256-38*brw a b 4),← zz]at hl
 rw[← Bw]at r1 r2
 have h0:=cg (mi2 a b) 0
 generalize mi a b=V at *
 generalize mi2 a b=u at *
 generalize brw (mi1 a b) (38*brw a b 4) 4=k2 at *
 generalize mi1 a b=z at *
 have q1:=r2 1 (by decide);have q2:=r2 2 (by decide);have q3:=r2 3 (by decide)
 have e2:(38*k2)%2^64=38*k2:=Nat.mod_eq_of_lt (by omega)
 have e1:(38*brw a b 4)%2^64=38*brw a b 4:=Nat.mod_eq_of_lt (by omega)
 have e3:(wd u 0+(18446744073709551616-38*k2))%18446744073709551616=wd V 0:=by rw[r1];omega
 rw[hm1.symm]at hl
 clear r1 r2 t1 hk h0 hm1
 refine zr (zm hH .bg trivial 1 ?_)
 clear hH
 rintro _ _ w ⟨g1,rfl,rfl⟩ hH
 refine zm hH .bg trivial 2 ?_
 clear hH
 rintro _ _ w ⟨g2,rfl,rfl⟩ hH
 refine zm hH (.az (.agg z4)) trivial 0 ?_
 clear hH
 rintro _ _ w ⟨g3,rfl,rfl⟩ hH
 refine zn (zr (zv .mv 0 ?_))
 refine zn (zr (zv (.fld 0) 1 ?_))
 refine zs (hH.q 0 rfl) .lc 1 ?_
 refine zv (.fld 0) 0 ?_
 refine zs (hH.q 1 rfl) .lc 1 ?_
 refine zv (.xt (BA a b hbz)) 3 ?_
 refine zv .mv 1 ?_
 refine zv .ext 0 ?_
 refine zv .ext 2 ?_
 refine zv (.fld 0) 0 ?_
 refine ze0 0 hH rfl .sc trivial ?_
 clear hH
 rintro _ _ w rfl hH
 refine zv .mv 7 ?_
 refine zn (zr (zv (.fld 1) 0 ?_))
 refine zs (hH.q 0 rfl) .lc 1 ?_
 refine zv (.fld 1) 0 ?_
 refine zs (hH.q 1 rfl) .lc 1 ?_
 refine zv .mv 4 ?_
 refine zv (.xt (uv a b 1 hbz (by decide))) 7 ?_
 refine zv .mv 1 ?_
 refine zv .ext 0 ?_
 refine zv .ext 2 ?_
 refine zv (.fld 1) 0 ?_
 refine ze0 0 hH rfl .sc trivial ?_
 clear hH
 rintro _ _ w rfl hH
 refine zv .mv 7 ?_
 refine zn (zr (zv (.fld 2) 0 ?_))
 refine zs (hH.q 0 rfl) .lc 1 ?_
 refine zv (.fld 2) 0 ?_
 refine zs (hH.q 1 rfl) .lc 1 ?_
 refine zv .mv 4 ?_
 refine zv (.xt (uv a b 2 hbz (by decide))) 7 ?_
 refine zv .mv 1 ?_
 refine zv .ext 0 ?_
 refine zv .ext 2 ?_
 refine zv (.fld 2) 0 ?_
 refine ze0 0 hH rfl .sc trivial ?_
 clear hH
 rintro _ _ w rfl hH
 refine zv .mv 7 ?_
 refine zn (zr (zv (.fld 3) 0 ?_))
 refine zs (hH.q 0 rfl) .lc 1 ?_
 refine zv (.fld 3) 8 ?_
 refine zs (hH.q 1 rfl) .lc 1 ?_
 refine zv .mv 4 ?_
 refine zv (.xt (uv a b 3 hbz (by decide))) 7 ?_
 refine zv .mv 1 ?_
 refine zv .ext 0 ?_
 refine zv .ext 2 ?_
 refine zv (.fld 3) 0 ?_
 refine ze0 0 hH rfl .sc trivial ?_
 clear hH
 rintro _ _ w rfl hH
 refine zv .mv 7 ?_
 refine zn (zr (zs (hH.q 0 rfl) (.lr 4) 0 ?_))
 refine zv .mv 2 ?_
 refine zv (.mu (38*brw a b 4) (m:=38) (hz:=e1)) 1 ?_
 refine zm hH (.call Tryz.func173 (hl.does)) trivial 3 ?_
 clear hH
 rintro _ _ w ⟨rfl,rfl⟩ hH
 replace hH:HH w0 [] [[bl g1 170 (cN (a+2^256-b))],[bl g2 170 (cN b)],[bl g3 170 z4]] w:=hH.unpad
 refine zv .mv 1 ?_
 refine zv .ext 0 ?_
 refine zv .ext 2 ?_
 refine ze0 0 hH rfl (.sr 4) trivial ?_
 clear hH
 rintro _ _ w rfl hH
 refine zv .mv 3 ?_
 refine zn (zr (zv (.fld 0) 0 ?_))
 refine zs (hH.q 0 rfl) .lc 1 ?_
 refine zv .mv 2 ?_
 refine zv (.mu (38*k2) (m:=38) (hz:=e2)) 1 ?_
 refine zv (v:=(.int .u64 (((wd V 0):Nat):Int))) (fun _ _ hF=>f8 (m:=wd u 0) (j:=38*k2) (z:=(wd V 0)) rfl rfl (hF.ev 1 rfl) (hF.ev 0 rfl) (by show 38*k2≤18446744073709551616;omega) (e3)) 3 ?_
 refine zv (.fld 0) 0 ?_
 refine ze0 0 hH rfl .sc trivial ?_
 clear hH
 rintro _ _ w rfl hH
 refine zn ?_
 replace hH:HH w0 [] [[bl g1 170 (cN V)],[bl g2 170 (cN b)],[bl g3 170 z4]] w:=by unfold cN;rw[q1,q2,q3];exact hH
 refine zr (zs (hH.q 0 rfl) (.lr 4) 11 ?_)
 refine ze0 2 hH rfl (.sr 4) trivial ?_
 clear hH
 rintro _ _ w rfl hH
 refine zn (ar (aI 1 (hH.blk 2 rfl) rfl rfl (by kernel_rfl) rfl (by kernel_rfl) ?_))
 exact zE hH
theorem yj(S x b:Nat)(hS:S<2^256)(hx:x<18446744073709551616)(hb:b<2^256):Pure Tryz.prog 160 #[(vN S),(.int .u64 x),(vN b)] (fun _=>True) (.tuple #[.int .u64 ((wd (x*b+S) 0:Nat):Int),vN ((x*b+S)/18446744073709551616)]):=by
 refine pU Tryz.func160 Tryz.ntmps160 ?_
 intro w0 hH hR
 obtain ⟨a0,a1,a2,a3,_⟩:=qF x b
 obtain ⟨u0,u1,u2,u3,_⟩:=n4 x b
 obtain ⟨k1,k2,k3⟩:=t9 x b hx hb
 have k4:=ua x b S hx hb hS
 have hm:=qG x b hx hb
 have m0:=px x (wd b 0) hx (cg b 0)
 have m1:=px x (wd b 1) hx (cg b 1)
 have m2:=px x (wd b 2) hx (cg b 2)
 have m3:=px x (wd b 3) hx (cg b 3)
 rw[← a0,← u1]at m0
 rw[← a1,← u2]at m1
 rw[← a2,← u3]at m2
 rw[← a3]at m3
 have s1:=jO (fq x b) (eo x b) 1
 have s2:=jO (fq x b) (eo x b) 2
 have s3:=jO (fq x b) (eo x b) 3
 rw[k1]at s1
 rw[hm]at s1 s2 s3
 have s4:=wL (x*b) S
 have s5:=jO (x*b) S 1
 have s6:=jO (x*b) S 2
 have s7:=jO (x*b) S 3
 have q4:=cg (x*b) 4
 have q5:=cg (x*b+S) 4
 rw[← k3]at m0
 clear a0 a1 a2 a3 u0 u1 u2 u3 k1 k3 hm
 have e9:(wd (x*wd b 3) 1+cry (fq x b) (eo x b) 4)%2^64=wd (x*b) 4:=by rw[k2];exact Nat.mod_eq_of_lt q4
 have e13:(wd (x*b) 4+cry (x*b) S 4)%2^64=wd (x*b+S) 4:=by rw[k4];exact Nat.mod_eq_of_lt q5
 clear k2 k4 q4 q5
 have hV:vN ((x*b+S)/18446744073709551616)=.agg #[.int .u64 ((wd (x*b+S) 1:Nat):Int),.int .u64 ((wd (x*b+S) 2:Nat):Int),.int .u64 ((wd (x*b+S) 3:Nat):Int),.int .u64 ((wd (x*b+S) 4:Nat):Int)]:=by
  unfold vN cN
  rw[ep,ep,ep,ep]
 refine zr (zm hH .bg trivial 1 ?_)
 clear hH
 rintro _ _ w ⟨g1,rfl,rfl⟩ hH
 refine zm hH .bg trivial 4 ?_
 clear hH
 rintro _ _ w ⟨g2,rfl,rfl⟩ hH
 refine zv .mv 0 ?_
 refine zm hH (.az (.agg z4)) trivial 1 ?_
 clear hH
 rintro _ _ w ⟨g3,rfl,rfl⟩ hH
 refine zn (zr (zv .mv 0 ?_))
 refine zv (.fld 0) 0 ?_
 refine zs (hH.q 1 rfl) .lc 1 ?_
 refine zm hH (.call Tryz.func120 (m0.does)) trivial 3 ?_
 clear hH
 rintro _ _ w ⟨rfl,rfl⟩ hH
 replace hH:HH w0 [] [[bl g1 170 (cN S)],[bl g2 170 (cN b)],[bl g3 170 z4]] w:=hH.unpad
 refine zv .mv 1 ?_
 refine zv .ext 0 ?_
 refine zv .ext 2 ?_
 refine zv .mv 2 ?_
 refine zv .mv 2 ?_
 refine zn (zr (zv .mv 0 ?_))
 refine zv (.fld 1) 0 ?_
 refine zs (hH.q 1 rfl) .lc 1 ?_
 refine zm hH (.call Tryz.func120 (m1.does)) trivial 3 ?_
 clear hH
 rintro _ _ w ⟨rfl,rfl⟩ hH
 replace hH:HH w0 [] [[bl g1 170 (cN S)],[bl g2 170 (cN b)],[bl g3 170 z4]] w:=hH.unpad
 refine zv .mv 1 ?_
 refine zv .ext 0 ?_
 refine zv .ext 2 ?_
 refine zv .mv 2 ?_
 refine zv .mv 2 ?_
 refine zn (zr (zv .mv 0 ?_))
 refine zv (.fld 2) 0 ?_
 refine zs (hH.q 1 rfl) .lc 1 ?_
 refine zm hH (.call Tryz.func120 (m2.does)) trivial 3 ?_
 clear hH
 rintro _ _ w ⟨rfl,rfl⟩ hH
 replace hH:HH w0 [] [[bl g1 170 (cN S)],[bl g2 170 (cN b)],[bl g3 170 z4]] w:=hH.unpad
 refine zv .mv 1 ?_
 refine zv .ext 0 ?_
 refine zv .ext 2 ?_
 refine zv .mv 2 ?_
 refine zv .mv 2 ?_
 refine zn (zr (zv .mv 512 ?_))
 refine zv (.fld 3) 256 ?_
 refine zs (hH.q 1 rfl) .lc 1 ?_
 refine zm hH (.call Tryz.func120 (m3.does)) trivial 3 ?_
 clear hH
 rintro _ _ w ⟨rfl,rfl⟩ hH
 replace hH:HH w0 [] [[bl g1 170 (cN S)],[bl g2 170 (cN b)],[bl g3 170 z4]] w:=hH.unpad
 refine zv .mv 1 ?_
 refine zv .ext 0 ?_
 refine zv .ext 2 ?_
 refine zv .mv 2 ?_
 refine zv .mv 2 ?_
 refine zn (zr (zv .mv 0 ?_))
 refine zv .mv 1 ?_
 refine zn (zr (zv .mv 33 ?_))
 refine zv .mv 128 ?_
 refine zv (.xt (s1)) 3 ?_
 refine zv .mv 1 ?_
 refine zv .ext 0 ?_
 refine zv .ext 2 ?_
 refine zv .mv 2 ?_
 refine zv .mv 2 ?_
 refine zn (zr (zv .mv 16 ?_))
 refine zv .mv 64 ?_
 refine zv .mv 4 ?_
 refine zv (.xt (s2)) 7 ?_
 refine zv .mv 1 ?_
 refine zv .ext 0 ?_
 refine zv .ext 2 ?_
 refine zv .mv 2 ?_
 refine zv .mv 2 ?_
 refine zn (zr (zv .mv 8 ?_))
 refine zv .mv 32 ?_
 refine zv .mv 4 ?_
 refine zv (.xt (s3)) 7 ?_
 refine zv .mv 1 ?_
 refine zv .ext 0 ?_
 refine zv .ext 2 ?_
 refine zv .mv 2 ?_
 refine zv .mv 2 ?_
 refine zn (zr (zv .mv 16 ?_))
 refine zv .mv 2 ?_
 refine zv (.pu (wd (x*b) 4) (hz:=e9)) 3 ?_
 refine zv .mv 1 ?_
 refine zn (zr (zv .mv 16 ?_))
 refine zv (.fld 0) 0 ?_
 refine zs (hH.q 0 rfl) .lc 1 ?_
 refine zv (.xt (s4)) 3 ?_
 refine zv .mv 1 ?_
 refine zv .ext 0 ?_
 refine zv .ext 2 ?_
 refine zv .mv 2 ?_
 refine zv .mv 2 ?_
 refine zn (zr (zv .mv 32 ?_))
 refine zv (.fld 1) 0 ?_
 refine zs (hH.q 0 rfl) .lc 1 ?_
 refine zv .mv 4 ?_
 refine zv (.xt (s5)) 7 ?_
 refine zv .mv 1 ?_
 refine zv .ext 0 ?_
 refine zv .ext 2 ?_
 refine zv .mv 2 ?_
 refine zv .mv 2 ?_
 refine zn (zr (zv .mv 32 ?_))
 refine zv (.fld 2) 0 ?_
 refine zs (hH.q 0 rfl) .lc 1 ?_
 refine zv .mv 4 ?_
 refine zv (.xt (s6)) 7 ?_
 refine zv .mv 1 ?_
 refine zv .ext 0 ?_
 refine zv .ext 2 ?_
 refine zv .mv 2 ?_
 refine zv .mv 2 ?_
 refine zn (zr (zv .mv 32 ?_))
 refine zv (.fld 3) 128 ?_
 refine zs (hH.q 0 rfl) .lc 1 ?_
 refine zv .mv 4 ?_
 refine zv (.xt (s7)) 7 ?_
 refine zv .mv 1 ?_
 refine zv .ext 0 ?_
 refine zv .ext 2 ?_
 refine zv .mv 2 ?_
 refine zv .mv 2 ?_
 refine zn (zr (zv .mv 16 ?_))
 refine zv .mv 16 ?_
 refine zv .mv 16 ?_
 refine zv .mv 16 ?_
 refine zv .mv 32 ?_
 refine zv .mv 32 ?_
 refine zv (.pu (wd (x*b+S) 4) (hz:=e13)) 3 ?_
 refine zv (v:=(.agg #[(.int .u64 (((wd (x*b+S) 1):Nat):Int)),(.int .u64 (((wd (x*b+S) 2):Nat):Int)),(.int .u64 (((wd (x*b+S) 3):Nat):Int)),(.int .u64 (((wd (x*b+S) 4):Nat):Int))])) (fun _ _ hF=>aE (cells := #[(.int .u64 (((wd (x*b+S) 1):Nat):Int)),(.int .u64 (((wd (x*b+S) 2):Nat):Int)),(.int .u64 (((wd (x*b+S) 3):Nat):Int)),(.int .u64 (((wd (x*b+S) 4):Nat):Int))]) rfl (EvP.cons (v:=(.int .u64 (((wd (x*b+S) 1):Nat):Int))) (hF.ev 3 rfl) (EvP.cons (v:=(.int .u64 (((wd (x*b+S) 2):Nat):Int))) (hF.ev 2 rfl) (EvP.cons (v:=(.int .u64 (((wd (x*b+S) 3):Nat):Int))) (hF.ev 1 rfl) (EvP.cons (v:=(.int .u64 (((wd (x*b+S) 4):Nat):Int))) (hF.ev 0 rfl) EvP.nil)))) rfl _) 15 ?_
 refine zv .mv 2 ?_
 refine ze0 2 hH rfl (.sr 4) trivial ?_
 clear hH
 rintro _ _ w rfl hH
 refine zn (ar (wK 2 0 (hH.blk 2 rfl) rfl rfl rfl (by kernel_rfl) rfl (by kernel_rfl) ?_))
 exact ⟨by rw[hV];rfl,HH.toBelow hH⟩
end Go.Proofs.YtajppfmjbkebfaaGreatDoor
