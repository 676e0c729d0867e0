/- What the claim leans on, part 7: plain theorems, and walks of functions of the program and of the document. -/
import Derived.Test.YtajppfmjbkebfaaGreatDoorKPkeskSealsCF
import Derived.Test.YtajppfmjbkebfaaGreatDoorKPkeskSealsCD
import Derived.Test.YtajppfmjbkebfaaGreatDoorKPkeskSealsCB
import Derived.Test.YtajppfmjbkebfaaGreatDoorKPkeskSealsCA
import Derived.Test.YtajppfmjbkebfaaGreatDoorKPkeskSealsCE
import Derived.OpenShut
import Derived.Deep.Slices
import Derived.SizedLaws
import Derived.WideShapes
import Derived.ChangeArms
set_option maxHeartbeats 8000000
namespace Go.Proofs.YtajppfmjbkebfaaGreatDoor
open Go Go.RowKit
set_option maxRecDepth 100000
abbrev P4:=Nat×Nat×Nat×Nat
def PL (a:P4):Prop:=a.1<2^256∧a.2.1<2^256∧a.2.2.1<2^256∧a.2.2.2<2^256
abbrev cPt:=bm (cNs 4) (bm (cNs 4) (bm (cNs 4) (cNs 4)))
def Cv (a b c d:Nat):P4:=(tm (nS b a) (nS d c),tm (nA d c) (nA b a),tm (nS d c) (nA d c),tm (nS b a) (nA b a))
def pSm (p q:P4):P4:=Cv (tm (nS p.2.1 p.1) (nS q.2.1 q.1)) (tm (nA p.2.1 p.1) (nA q.2.1 q.1)) (tm (tm p.2.2.2 q.2.2.2) (nA dN dN)) (tm (nA p.2.2.1 p.2.2.1) q.2.2.1)
theorem mS {p q:P4} (hp:PL p) (hq:PL q):PL (pSm p q):=by
 have ha:tm (nS p.2.1 p.1) (nS q.2.1 q.1)<2^256:=ba (bV hp.2.1) (bV hq.2.1)
 have hb:tm (nA p.2.1 p.1) (nA q.2.1 q.1)<2^256:=ba (bQ hp.2.1 hp.1) (bQ hq.2.1 hq.1)
 have hc:tm (tm p.2.2.2 q.2.2.2) (nA dN dN)<2^256:=ba (ba hp.2.2.2 hq.2.2.2) (bQ fl fl)
 have hd:tm (nA p.2.2.1 p.2.2.1) q.2.2.1<2^256:=ba (bQ hp.2.2.1 hp.2.2.1) hq.2.2.1
 exact ⟨ba (bV hb) (bV hd),ba (bQ hd hc) (bQ hb ha),ba (bV hd) (bQ hd hc),ba (bV hb) (bQ hb ha)⟩
def pNt:P4:=(0,1,1,0)
theorem zR:PL pNt:=⟨by decide,by decide,by decide,by decide⟩
def pOf (n:Nat→UInt8) (p:P4):Nat→P4
 | 0=>pNt
 | k+1=>if (bitB n (255 - k)).toNat=1 then pSm (pSm (pOf n p k) (pOf n p k)) p else pSm (pOf n p k) (pOf n p k)
theorem jb {n:Nat→UInt8} {p:P4} (hp:PL p):∀ k,PL (pOf n p k)
 | 0=>zR
 | k+1=>by
  have h:=jb (n:=n) hp k
  unfold pOf
  split
  ·exact mS (mS h h) hp
  ·exact mS h h
theorem oe {n:Nat→UInt8} {p:P4} {k:Nat} (hk:k<256):pOf n p (256 - k)=if (bitB n k).toNat=1 then pSm (pSm (pOf n p (256 - (k+1))) (pOf n p (256 - (k+1)))) p else pSm (pOf n p (256 - (k+1))) (pOf n p (256 - (k+1))):=by
 have e1:256 - k=(256 - (k+1))+1:=by omega
 have e2:255 - (256 - (k+1))=k:=by omega
 rw [e1]
 show (if (bitB n (255 - (256 - (k+1)))).toNat=1 then _ else _)=_
 rw [e2]
def pEn (p:P4):Nat→UInt8:=stF (be (tm p.2.1 (riv p.2.2.1)%pN)) 31 (be (tm p.2.1 (riv p.2.2.1)%pN) 31 ||| sl8 (UInt8.ofNat (wd (tm p.1 (riv p.2.2.1)%pN) 0%2)) 7)
theorem zS  : Pure Tryz.prog 127 #[] (fun _=>True) (cPt.val (wd pNt.1,wd pNt.2.1,wd pNt.2.2.1,wd pNt.2.2.2)):=by
 refine pU Tryz.func127 Tryz.ntmps127 ?_
 intro w0 hH hR
 refine zr (zm hH (.al cPt (fun _=>0,fun _=>0,fun _=>0,fun _=>0)) trivial 0 ?_)
 clear hH
 rintro _ _ w ⟨g1,rfl,rfl⟩ hH
 refine zn (zr (zc Tryz.func72 (cd 0 (by decide)) trivial hH 0 ?_))
 clear hH
 intro w hH
 refine zc Tryz.func72 (cd 1 (by decide)) trivial hH 0 ?_
 clear hH
 intro w hH
 refine zc Tryz.func72 (cd 1 (by decide)) trivial hH 0 ?_
 clear hH
 intro w hH
 refine zc Tryz.func72 (cd 0 (by decide)) trivial hH 0 ?_
 clear hH
 intro w hH
 refine zv (v:=(cPt.val (wd 0,wd 1,wd 1,wd 0))) (fun _ _ hF=>aG (cells:=cPt.enc (wd 0,wd 1,wd 1,wd 0)) rfl (EvP.cons (v:=((cNs 4).val (wd 0))) (hF.ev 3 rfl) (EvP.cons (v:=((cNs 4).val (wd 1))) (hF.ev 2 rfl) (EvP.cons (v:=((cNs 4).val (wd 1))) (hF.ev 1 rfl) (EvP.cons (v:=((cNs 4).val (wd 0))) (hF.ev 0 rfl) EvP.nil)))) (gc (x:=(wd 0,wd 1,wd 1,wd 0)) (by kernel_rfl) rfl rfl rfl rfl) _) 15 ?_
 refine ze0 0 hH rfl (.sw cPt (fun _=>0,fun _=>0,fun _=>0,fun _=>0) (wd 0,wd 1,wd 1,wd 0)) trivial ?_
 clear hH
 rintro _ _ w rfl hH
 refine zn (au (aH 1 (hH.blk 0 rfl) rfl rfl (by kernel_rfl) (Cod.size _ _) (by kernel_rfl) ?_))
 exact ⟨rfl,HH.toBelow hH⟩
theorem uS (p q:P4) (hp:PL p) (hq:PL q):Pure Tryz.prog 128 #[(cPt.val (wd p.1,wd p.2.1,wd p.2.2.1,wd p.2.2.2)),(cPt.val (wd q.1,wd q.2.1,wd q.2.2.1,wd q.2.2.2))] (fun _=>True) (cPt.val (wd (pSm p q).1,wd (pSm p q).2.1,wd (pSm p q).2.2.1,wd (pSm p q).2.2.2)):=by
 refine pU Tryz.func128 Tryz.ntmps128 ?_
 intro w0 hH hR
 refine zr (zm hH (.bx cPt (wd p.1,wd p.2.1,wd p.2.2.1,wd p.2.2.2)) trivial 1 ?_)
 clear hH
 rintro _ _ w ⟨g1,rfl,rfl⟩ hH
 refine zm hH (.bx cPt (wd q.1,wd q.2.1,wd q.2.2.1,wd q.2.2.2)) trivial 2 ?_
 clear hH
 rintro _ _ w ⟨g2,rfl,rfl⟩ hH
 refine zm hH (.al cPt (fun _=>0,fun _=>0,fun _=>0,fun _=>0)) trivial 0 ?_
 clear hH
 rintro _ _ w ⟨g3,rfl,rfl⟩ hH
 refine zn (zx ?_)
 replace hH:=hH.drew
 refine cP 0 [pv 0 13 [] [] fun G=>(.pointer (some ⟨g1,4,none⟩)),ldv 1 14 [0] [] [1000] fun G=>((cNs 4).val (wd p.2.1)),pv 2 15 [] [] fun G=>(.pointer (some ⟨g1,0,none⟩)),ldv 3 16 [2] [] [1000] fun G=>((cNs 4).val (wd p.1)),pv 4 17 [1,3] [] fun G=>((cNs 4).val (wd (nS p.2.1 p.1))),pv 5 18 [] [] fun G=>(.pointer (some ⟨g2,4,none⟩)),ldv 6 19 [5] [] [1001] fun G=>((cNs 4).val (wd q.2.1)),pv 7 20 [] [] fun G=>(.pointer (some ⟨g2,0,none⟩)),ldv 8 21 [7] [] [1001] fun G=>((cNs 4).val (wd q.1)),pv 9 22 [6,8] [] fun G=>((cNs 4).val (wd (nS q.2.1 q.1))),pv 10 23 [4,9] [] fun G=>((cNs 4).val (wd (tm (nS p.2.1 p.1) (nS q.2.1 q.1)))),alv 11 5 [] [] fun G g=>[bl g 97 ((cNs 4).enc (fun _=>0))],stv 12 [10,11] [11] 11 fun G=>[bl (G 11).g 97 ((cNs 4).enc (wd (tm (nS p.2.1 p.1) (nS q.2.1 q.1))))]] (fun G=>[(5,(.pointer (some ⟨(G 11).g,0,none⟩))),(4,(.pointer (some ⟨g3,0,none⟩))),(3,(.pointer (some ⟨g2,0,none⟩))),(2,(.pointer (some ⟨g1,0,none⟩)))]) (fun G=>[[bl g1 113 (cPt.enc (wd p.1,wd p.2.1,wd p.2.2.1,wd p.2.2.2))],[bl g2 113 (cPt.enc (wd q.1,wd q.2.1,wd q.2.2.1,wd q.2.2.2))],[bl g3 113 (cPt.enc (fun _=>0,fun _=>0,fun _=>0,fun _=>0))],[bl (G 11).g 97 ((cNs 4).enc (wd (tm (nS p.2.1 p.1) (nS q.2.1 q.1))))]]) hH (.c (.v fun G=>(.fld 4)) <| .c (.ld (fun G _ _ hH=>(hH.q 0 rfl)) fun G=>(.ld (cNs 4) (wd p.2.1) (fun _ hS=>((ac hS).snd).fst))) <| .c (.v fun G=>(.fld 0)) <| .c (.ld (fun G _ _ hH=>(hH.q 0 rfl)) fun G=>(.ld (cNs 4) (wd p.1) (fun _ hS=>(ac hS).fst))) <| .c (Sp.c Tryz.func74 (fun G=>(ca p.2.1 p.1 hp.2.1 hp.1)) fun _=>trivial) <| .c (.v fun G=>(.fld 4)) <| .c (.ld (fun G _ _ hH=>(hH.q 0 rfl)) fun G=>(.ld (cNs 4) (wd q.2.1) (fun _ hS=>((ac hS).snd).fst))) <| .c (.v fun G=>(.fld 0)) <| .c (.ld (fun G _ _ hH=>(hH.q 0 rfl)) fun G=>(.ld (cNs 4) (wd q.1) (fun _ hS=>(ac hS).fst))) <| .c (Sp.c Tryz.func74 (fun G=>(ca q.2.1 q.1 hq.2.1 hq.1)) fun _=>trivial) <| .c (Sp.c Tryz.func75 (fun G=>(aV (nS p.2.1 p.1) (nS q.2.1 q.1) (bV hp.2.1) (bV hq.2.1))) fun _=>trivial) <| .c (.a (fun _ _ _ _=>trivial) (fun G=>(.al (cNs 4) (fun _=>0))) fun _ _ _ h=>h) <| .c (.tn (fun G=>(.sw (cNs 4) (fun _=>0) (wd (tm (nS p.2.1 p.1) (nS q.2.1 q.1))))) (fun _ _ _ _=>trivial) fun _ _ _ h=>h) <| .nil) ?_
 clear hH
 rintro G w - hH
 revert hH
 generalize (G 11).g=g4
 intro hH
 refine rn ?_
 obtain ⟨A,hA,lA⟩:∃ A,A=tm (nS p.2.1 p.1) (nS q.2.1 q.1)∧A<2^256:=⟨_,rfl,(ba (bV hp.2.1) (bV hq.2.1))⟩
 replace hH:HH w0 [] [[bl g1 113 (cPt.enc (wd p.1,wd p.2.1,wd p.2.2.1,wd p.2.2.2))],[bl g2 113 (cPt.enc (wd q.1,wd q.2.1,wd q.2.2.1,wd q.2.2.2))],[bl g3 113 (cPt.enc (fun _=>0,fun _=>0,fun _=>0,fun _=>0))],[bl g4 97 ((cNs 4).enc (wd A))]] w:=by rw [hA]; exact hH
 refine zx ?_
 replace hH:=hH.drew
 refine cP 0 [pv 0 24 [] [] fun G=>(.pointer (some ⟨g1,4,none⟩)),ldv 1 25 [0] [] [1000] fun G=>((cNs 4).val (wd p.2.1)),pv 2 26 [] [] fun G=>(.pointer (some ⟨g1,0,none⟩)),ldv 3 27 [2] [] [1000] fun G=>((cNs 4).val (wd p.1)),pv 4 28 [1,3] [] fun G=>((cNs 4).val (wd (nA p.2.1 p.1))),pv 5 29 [] [] fun G=>(.pointer (some ⟨g2,4,none⟩)),ldv 6 30 [5] [] [1001] fun G=>((cNs 4).val (wd q.2.1)),pv 7 31 [] [] fun G=>(.pointer (some ⟨g2,0,none⟩)),ldv 8 32 [7] [] [1001] fun G=>((cNs 4).val (wd q.1)),pv 9 33 [6,8] [] fun G=>((cNs 4).val (wd (nA q.2.1 q.1))),pv 10 34 [4,9] [] fun G=>((cNs 4).val (wd (tm (nA p.2.1 p.1) (nA q.2.1 q.1)))),alv 11 6 [] [] fun G g=>[bl g 97 ((cNs 4).enc (fun _=>0))],stv 12 [10,11] [11] 11 fun G=>[bl (G 11).g 97 ((cNs 4).enc (wd (tm (nA p.2.1 p.1) (nA q.2.1 q.1))))]] (fun G=>[(6,(.pointer (some ⟨(G 11).g,0,none⟩))),(5,(.pointer (some ⟨g4,0,none⟩))),(4,(.pointer (some ⟨g3,0,none⟩))),(3,(.pointer (some ⟨g2,0,none⟩))),(2,(.pointer (some ⟨g1,0,none⟩)))]) (fun G=>[[bl g1 113 (cPt.enc (wd p.1,wd p.2.1,wd p.2.2.1,wd p.2.2.2))],[bl g2 113 (cPt.enc (wd q.1,wd q.2.1,wd q.2.2.1,wd q.2.2.2))],[bl g3 113 (cPt.enc (fun _=>0,fun _=>0,fun _=>0,fun _=>0))],[bl g4 97 ((cNs 4).enc (wd A))],[bl (G 11).g 97 ((cNs 4).enc (wd (tm (nA p.2.1 p.1) (nA q.2.1 q.1))))]]) hH (.c (.v fun G=>(.fld 4)) <| .c (.ld (fun G _ _ hH=>(hH.q 0 rfl)) fun G=>(.ld (cNs 4) (wd p.2.1) (fun _ hS=>((ac hS).snd).fst))) <| .c (.v fun G=>(.fld 0)) <| .c (.ld (fun G _ _ hH=>(hH.q 0 rfl)) fun G=>(.ld (cNs 4) (wd p.1) (fun _ hS=>(ac hS).fst))) <| .c (Sp.c Tryz.func73 (fun G=>(cx p.2.1 p.1 hp.2.1 hp.1)) fun _=>trivial) <| .c (.v fun G=>(.fld 4)) <| .c (.ld (fun G _ _ hH=>(hH.q 0 rfl)) fun G=>(.ld (cNs 4) (wd q.2.1) (fun _ hS=>((ac hS).snd).fst))) <| .c (.v fun G=>(.fld 0)) <| .c (.ld (fun G _ _ hH=>(hH.q 0 rfl)) fun G=>(.ld (cNs 4) (wd q.1) (fun _ hS=>(ac hS).fst))) <| .c (Sp.c Tryz.func73 (fun G=>(cx q.2.1 q.1 hq.2.1 hq.1)) fun _=>trivial) <| .c (Sp.c Tryz.func75 (fun G=>(aV (nA p.2.1 p.1) (nA q.2.1 q.1) (bQ hp.2.1 hp.1) (bQ hq.2.1 hq.1))) fun _=>trivial) <| .c (.a (fun _ _ _ _=>trivial) (fun G=>(.al (cNs 4) (fun _=>0))) fun _ _ _ h=>h) <| .c (.tn (fun G=>(.sw (cNs 4) (fun _=>0) (wd (tm (nA p.2.1 p.1) (nA q.2.1 q.1))))) (fun _ _ _ _=>trivial) fun _ _ _ h=>h) <| .nil) ?_
 clear hH
 rintro G w - hH
 revert hH
 generalize (G 11).g=g5
 intro hH
 refine rn ?_
 obtain ⟨B,hB,lB⟩:∃ B,B=tm (nA p.2.1 p.1) (nA q.2.1 q.1)∧B<2^256:=⟨_,rfl,(ba (bQ hp.2.1 hp.1) (bQ hq.2.1 hq.1))⟩
 replace hH:HH w0 [] [[bl g1 113 (cPt.enc (wd p.1,wd p.2.1,wd p.2.2.1,wd p.2.2.2))],[bl g2 113 (cPt.enc (wd q.1,wd q.2.1,wd q.2.2.1,wd q.2.2.2))],[bl g3 113 (cPt.enc (fun _=>0,fun _=>0,fun _=>0,fun _=>0))],[bl g4 97 ((cNs 4).enc (wd A))],[bl g5 97 ((cNs 4).enc (wd B))]] w:=by rw [hB]; exact hH
 refine zr (zv (.fld 12) 0 ?_)
 refine zs (hH.q 0 rfl) (.ld (cNs 4) (wd p.2.2.2) (fun _ hS=>(((ac hS).snd).snd).snd)) 1 ?_
 refine zv (.fld 12) 0 ?_
 refine zs (hH.q 1 rfl) (.ld (cNs 4) (wd q.2.2.2) (fun _ hS=>(((ac hS).snd).snd).snd)) 1 ?_
 refine zc Tryz.func75 (aV p.2.2.2 q.2.2.2 hp.2.2.2 hq.2.2.2) trivial hH 3 ?_
 clear hH
 intro w hH
 refine zc Tryz.func126 (zO) trivial hH 0 ?_
 clear hH
 intro w hH
 refine zc Tryz.func126 (zO) trivial hH 0 ?_
 clear hH
 intro w hH
 refine zc Tryz.func73 (cx dN dN fl fl) trivial hH 3 ?_
 clear hH
 intro w hH
 refine zc Tryz.func75 (aV (tm p.2.2.2 q.2.2.2) (nA dN dN) (ba hp.2.2.2 hq.2.2.2) (bQ fl fl)) trivial hH 3 ?_
 clear hH
 intro w hH
 refine zm hH (.al (cNs 4) (fun _=>0)) trivial 0 ?_
 clear hH
 rintro _ _ w ⟨g6,rfl,rfl⟩ hH
 refine ze0 5 hH rfl (.sw (cNs 4) (fun _=>0) (wd (tm (tm p.2.2.2 q.2.2.2) (nA dN dN)))) trivial ?_
 clear hH
 rintro _ _ w rfl hH
 refine zn ?_
 obtain ⟨C,hC,lC⟩:∃ C,C=tm (tm p.2.2.2 q.2.2.2) (nA dN dN)∧C<2^256:=⟨_,rfl,(ba (ba hp.2.2.2 hq.2.2.2) (bQ fl fl))⟩
 replace hH:HH w0 [] [[bl g1 113 (cPt.enc (wd p.1,wd p.2.1,wd p.2.2.1,wd p.2.2.2))],[bl g2 113 (cPt.enc (wd q.1,wd q.2.1,wd q.2.2.1,wd q.2.2.2))],[bl g3 113 (cPt.enc (fun _=>0,fun _=>0,fun _=>0,fun _=>0))],[bl g4 97 ((cNs 4).enc (wd A))],[bl g5 97 ((cNs 4).enc (wd B))],[bl g6 97 ((cNs 4).enc (wd C))]] w:=by rw [hC]; exact hH
 refine zx ?_
 replace hH:=hH.drew
 refine cP 0 [pv 0 44 [] [] fun G=>(.pointer (some ⟨g1,8,none⟩)),ldv 1 45 [0] [] [1000] fun G=>((cNs 4).val (wd p.2.2.1)),pv 2 46 [] [] fun G=>(.pointer (some ⟨g1,8,none⟩)),ldv 3 47 [2] [] [1000] fun G=>((cNs 4).val (wd p.2.2.1)),pv 4 48 [1,3] [] fun G=>((cNs 4).val (wd (nA p.2.2.1 p.2.2.1))),pv 5 49 [] [] fun G=>(.pointer (some ⟨g2,8,none⟩)),ldv 6 50 [5] [] [1001] fun G=>((cNs 4).val (wd q.2.2.1)),pv 7 51 [4,6] [] fun G=>((cNs 4).val (wd (tm (nA p.2.2.1 p.2.2.1) q.2.2.1))),alv 8 8 [] [] fun G g=>[bl g 97 ((cNs 4).enc (fun _=>0))],stv 9 [7,8] [8] 8 fun G=>[bl (G 8).g 97 ((cNs 4).enc (wd (tm (nA p.2.2.1 p.2.2.1) q.2.2.1)))]] (fun G=>[(8,(.pointer (some ⟨(G 8).g,0,none⟩))),(7,(.pointer (some ⟨g6,0,none⟩))),(6,(.pointer (some ⟨g5,0,none⟩))),(5,(.pointer (some ⟨g4,0,none⟩))),(4,(.pointer (some ⟨g3,0,none⟩)))]) (fun G=>[[bl g1 113 (cPt.enc (wd p.1,wd p.2.1,wd p.2.2.1,wd p.2.2.2))],[bl g2 113 (cPt.enc (wd q.1,wd q.2.1,wd q.2.2.1,wd q.2.2.2))],[bl g3 113 (cPt.enc (fun _=>0,fun _=>0,fun _=>0,fun _=>0))],[bl g4 97 ((cNs 4).enc (wd A))],[bl g5 97 ((cNs 4).enc (wd B))],[bl g6 97 ((cNs 4).enc (wd C))],[bl (G 8).g 97 ((cNs 4).enc (wd (tm (nA p.2.2.1 p.2.2.1) q.2.2.1)))]]) hH (.c (.v fun G=>(.fld 8)) <| .c (.ld (fun G _ _ hH=>(hH.q 0 rfl)) fun G=>(.ld (cNs 4) (wd p.2.2.1) (fun _ hS=>(((ac hS).snd).snd).fst))) <| .c (.v fun G=>(.fld 8)) <| .c (.ld (fun G _ _ hH=>(hH.q 0 rfl)) fun G=>(.ld (cNs 4) (wd p.2.2.1) (fun _ hS=>(((ac hS).snd).snd).fst))) <| .c (Sp.c Tryz.func73 (fun G=>(cx p.2.2.1 p.2.2.1 hp.2.2.1 hp.2.2.1)) fun _=>trivial) <| .c (.v fun G=>(.fld 8)) <| .c (.ld (fun G _ _ hH=>(hH.q 0 rfl)) fun G=>(.ld (cNs 4) (wd q.2.2.1) (fun _ hS=>(((ac hS).snd).snd).fst))) <| .c (Sp.c Tryz.func75 (fun G=>(aV (nA p.2.2.1 p.2.2.1) q.2.2.1 (bQ hp.2.2.1 hp.2.2.1) hq.2.2.1)) fun _=>trivial) <| .c (.a (fun _ _ _ _=>trivial) (fun G=>(.al (cNs 4) (fun _=>0))) fun _ _ _ h=>h) <| .c (.tn (fun G=>(.sw (cNs 4) (fun _=>0) (wd (tm (nA p.2.2.1 p.2.2.1) q.2.2.1)))) (fun _ _ _ _=>trivial) fun _ _ _ h=>h) <| .nil) ?_
 clear hH
 rintro G w - hH
 revert hH
 generalize (G 8).g=g7
 intro hH
 refine rn ?_
 obtain ⟨D,hD,lD⟩:∃ D,D=tm (nA p.2.2.1 p.2.2.1) q.2.2.1∧D<2^256:=⟨_,rfl,(ba (bQ hp.2.2.1 hp.2.2.1) hq.2.2.1)⟩
 replace hH:HH w0 [] [[bl g1 113 (cPt.enc (wd p.1,wd p.2.1,wd p.2.2.1,wd p.2.2.2))],[bl g2 113 (cPt.enc (wd q.1,wd q.2.1,wd q.2.2.1,wd q.2.2.2))],[bl g3 113 (cPt.enc (fun _=>0,fun _=>0,fun _=>0,fun _=>0))],[bl g4 97 ((cNs 4).enc (wd A))],[bl g5 97 ((cNs 4).enc (wd B))],[bl g6 97 ((cNs 4).enc (wd C))],[bl g7 97 ((cNs 4).enc (wd D))]] w:=by rw [hD]; exact hH
 refine zx ?_
 replace hH:=hH.drew
 refine cP 0 [ldv 0 52 [] [] [1004] fun G=>((cNs 4).val (wd B)),ldv 1 53 [] [] [1003] fun G=>((cNs 4).val (wd A)),pv 2 54 [0,1] [] fun G=>((cNs 4).val (wd (nS B A))),ldv 3 55 [] [] [1006] fun G=>((cNs 4).val (wd D)),ldv 4 56 [] [] [1005] fun G=>((cNs 4).val (wd C)),pv 5 57 [3,4] [] fun G=>((cNs 4).val (wd (nS D C))),ldv 6 58 [] [] [1006] fun G=>((cNs 4).val (wd D)),ldv 7 59 [] [] [1005] fun G=>((cNs 4).val (wd C)),pv 8 60 [6,7] [] fun G=>((cNs 4).val (wd (nA D C))),ldv 9 61 [] [] [1004] fun G=>((cNs 4).val (wd B)),ldv 10 62 [] [] [1003] fun G=>((cNs 4).val (wd A)),pv 11 63 [9,10] [] fun G=>((cNs 4).val (wd (nA B A))),alv 12 9 [] [] fun G g=>[bl g 97 ((cNs 4).enc (fun _=>0))],alv 13 10 [] [] fun G g=>[bl g 97 ((cNs 4).enc (fun _=>0))],alv 14 11 [] [] fun G g=>[bl g 97 ((cNs 4).enc (fun _=>0))],alv 15 12 [] [] fun G g=>[bl g 97 ((cNs 4).enc (fun _=>0))],stv 16 [2,12] [12] 12 fun G=>[bl (G 12).g 97 ((cNs 4).enc (wd (nS B A)))],stv 17 [5,13] [13] 13 fun G=>[bl (G 13).g 97 ((cNs 4).enc (wd (nS D C)))],stv 18 [8,14] [14] 14 fun G=>[bl (G 14).g 97 ((cNs 4).enc (wd (nA D C)))],stv 19 [11,15] [15] 15 fun G=>[bl (G 15).g 97 ((cNs 4).enc (wd (nA B A)))]] (fun G=>[(9,(.pointer (some ⟨(G 12).g,0,none⟩))),(10,(.pointer (some ⟨(G 13).g,0,none⟩))),(11,(.pointer (some ⟨(G 14).g,0,none⟩))),(12,(.pointer (some ⟨(G 15).g,0,none⟩))),(4,(.pointer (some ⟨g3,0,none⟩)))]) (fun G=>[[bl g1 113 (cPt.enc (wd p.1,wd p.2.1,wd p.2.2.1,wd p.2.2.2))],[bl g2 113 (cPt.enc (wd q.1,wd q.2.1,wd q.2.2.1,wd q.2.2.2))],[bl g3 113 (cPt.enc (fun _=>0,fun _=>0,fun _=>0,fun _=>0))],[bl g4 97 ((cNs 4).enc (wd A))],[bl g5 97 ((cNs 4).enc (wd B))],[bl g6 97 ((cNs 4).enc (wd C))],[bl g7 97 ((cNs 4).enc (wd D))],[bl (G 12).g 97 ((cNs 4).enc (wd (nS B A)))],[bl (G 13).g 97 ((cNs 4).enc (wd (nS D C)))],[bl (G 14).g 97 ((cNs 4).enc (wd (nA D C)))],[bl (G 15).g 97 ((cNs 4).enc (wd (nA B A)))]]) hH (.c (.ld (fun G _ _ hH=>(hH.q 0 rfl)) fun G=>(.ld (cNs 4) (wd B) (fun _=>ac))) <| .c (.ld (fun G _ _ hH=>(hH.q 0 rfl)) fun G=>(.ld (cNs 4) (wd A) (fun _=>ac))) <| .c (Sp.c Tryz.func74 (fun G=>(ca B A lB lA)) fun _=>trivial) <| .c (.ld (fun G _ _ hH=>(hH.q 0 rfl)) fun G=>(.ld (cNs 4) (wd D) (fun _=>ac))) <| .c (.ld (fun G _ _ hH=>(hH.q 0 rfl)) fun G=>(.ld (cNs 4) (wd C) (fun _=>ac))) <| .c (Sp.c Tryz.func74 (fun G=>(ca D C lD lC)) fun _=>trivial) <| .c (.ld (fun G _ _ hH=>(hH.q 0 rfl)) fun G=>(.ld (cNs 4) (wd D) (fun _=>ac))) <| .c (.ld (fun G _ _ hH=>(hH.q 0 rfl)) fun G=>(.ld (cNs 4) (wd C) (fun _=>ac))) <| .c (Sp.c Tryz.func73 (fun G=>(cx D C lD lC)) fun _=>trivial) <| .c (.ld (fun G _ _ hH=>(hH.q 0 rfl)) fun G=>(.ld (cNs 4) (wd B) (fun _=>ac))) <| .c (.ld (fun G _ _ hH=>(hH.q 0 rfl)) fun G=>(.ld (cNs 4) (wd A) (fun _=>ac))) <| .c (Sp.c Tryz.func73 (fun G=>(cx B A lB lA)) fun _=>trivial) <| .c (.a (fun _ _ _ _=>trivial) (fun G=>(.al (cNs 4) (fun _=>0))) fun _ _ _ h=>h) <| .c (.a (fun _ _ _ _=>trivial) (fun G=>(.al (cNs 4) (fun _=>0))) fun _ _ _ h=>h) <| .c (.a (fun _ _ _ _=>trivial) (fun G=>(.al (cNs 4) (fun _=>0))) fun _ _ _ h=>h) <| .c (.a (fun _ _ _ _=>trivial) (fun G=>(.al (cNs 4) (fun _=>0))) fun _ _ _ h=>h) <| .c (.tn (fun G=>(.sw (cNs 4) (fun _=>0) (wd (nS B A)))) (fun _ _ _ _=>trivial) fun _ _ _ h=>h) <| .c (.tn (fun G=>(.sw (cNs 4) (fun _=>0) (wd (nS D C)))) (fun _ _ _ _=>trivial) fun _ _ _ h=>h) <| .c (.tn (fun G=>(.sw (cNs 4) (fun _=>0) (wd (nA D C)))) (fun _ _ _ _=>trivial) fun _ _ _ h=>h) <| .c (.tn (fun G=>(.sw (cNs 4) (fun _=>0) (wd (nA B A)))) (fun _ _ _ _=>trivial) fun _ _ _ h=>h) <| .nil) ?_
 clear hH
 rintro G w - hH
 revert hH
 generalize (G 12).g=g8
 generalize (G 13).g=g9
 generalize (G 14).g=g10
 generalize (G 15).g=g11
 intro hH
 refine rn ?_
 obtain ⟨E,hE,lE⟩:∃ E,E=nS B A∧E<2^256:=⟨_,rfl,(bV lB)⟩
 replace hH:HH w0 [] [[bl g1 113 (cPt.enc (wd p.1,wd p.2.1,wd p.2.2.1,wd p.2.2.2))],[bl g2 113 (cPt.enc (wd q.1,wd q.2.1,wd q.2.2.1,wd q.2.2.2))],[bl g3 113 (cPt.enc (fun _=>0,fun _=>0,fun _=>0,fun _=>0))],[bl g4 97 ((cNs 4).enc (wd A))],[bl g5 97 ((cNs 4).enc (wd B))],[bl g6 97 ((cNs 4).enc (wd C))],[bl g7 97 ((cNs 4).enc (wd D))],[bl g8 97 ((cNs 4).enc (wd E))],[bl g9 97 ((cNs 4).enc (wd (nS D C)))],[bl g10 97 ((cNs 4).enc (wd (nA D C)))],[bl g11 97 ((cNs 4).enc (wd (nA B A)))]] w:=by rw [hE]; exact hH
 obtain ⟨G,hG,lG⟩:∃ G,G=nS D C∧G<2^256:=⟨_,rfl,(bV lD)⟩
 replace hH:HH w0 [] [[bl g1 113 (cPt.enc (wd p.1,wd p.2.1,wd p.2.2.1,wd p.2.2.2))],[bl g2 113 (cPt.enc (wd q.1,wd q.2.1,wd q.2.2.1,wd q.2.2.2))],[bl g3 113 (cPt.enc (fun _=>0,fun _=>0,fun _=>0,fun _=>0))],[bl g4 97 ((cNs 4).enc (wd A))],[bl g5 97 ((cNs 4).enc (wd B))],[bl g6 97 ((cNs 4).enc (wd C))],[bl g7 97 ((cNs 4).enc (wd D))],[bl g8 97 ((cNs 4).enc (wd E))],[bl g9 97 ((cNs 4).enc (wd G))],[bl g10 97 ((cNs 4).enc (wd (nA D C)))],[bl g11 97 ((cNs 4).enc (wd (nA B A)))]] w:=by rw [hG]; exact hH
 obtain ⟨K,hK,lK⟩:∃ K,K=nA D C∧K<2^256:=⟨_,rfl,(bQ lD lC)⟩
 replace hH:HH w0 [] [[bl g1 113 (cPt.enc (wd p.1,wd p.2.1,wd p.2.2.1,wd p.2.2.2))],[bl g2 113 (cPt.enc (wd q.1,wd q.2.1,wd q.2.2.1,wd q.2.2.2))],[bl g3 113 (cPt.enc (fun _=>0,fun _=>0,fun _=>0,fun _=>0))],[bl g4 97 ((cNs 4).enc (wd A))],[bl g5 97 ((cNs 4).enc (wd B))],[bl g6 97 ((cNs 4).enc (wd C))],[bl g7 97 ((cNs 4).enc (wd D))],[bl g8 97 ((cNs 4).enc (wd E))],[bl g9 97 ((cNs 4).enc (wd G))],[bl g10 97 ((cNs 4).enc (wd K))],[bl g11 97 ((cNs 4).enc (wd (nA B A)))]] w:=by rw [hK]; exact hH
 obtain ⟨I,hI,lI⟩:∃ I,I=nA B A∧I<2^256:=⟨_,rfl,(bQ lB lA)⟩
 replace hH:HH w0 [] [[bl g1 113 (cPt.enc (wd p.1,wd p.2.1,wd p.2.2.1,wd p.2.2.2))],[bl g2 113 (cPt.enc (wd q.1,wd q.2.1,wd q.2.2.1,wd q.2.2.2))],[bl g3 113 (cPt.enc (fun _=>0,fun _=>0,fun _=>0,fun _=>0))],[bl g4 97 ((cNs 4).enc (wd A))],[bl g5 97 ((cNs 4).enc (wd B))],[bl g6 97 ((cNs 4).enc (wd C))],[bl g7 97 ((cNs 4).enc (wd D))],[bl g8 97 ((cNs 4).enc (wd E))],[bl g9 97 ((cNs 4).enc (wd G))],[bl g10 97 ((cNs 4).enc (wd K))],[bl g11 97 ((cNs 4).enc (wd I))]] w:=by rw [hI]; exact hH
 refine zx ?_
 replace hH:=hH.drew
 refine rld 0 (hH.q 7 rfl) (.ld (cNs 4) (wd E) (fun _=>ac)) 0 ?_
 refine rld 1 (hH.q 8 rfl) (.ld (cNs 4) (wd G) (fun _=>ac)) 0 ?_
 refine rld 3 (hH.q 9 rfl) (.ld (cNs 4) (wd K) (fun _=>ac)) 0 ?_
 refine rld 4 (hH.q 10 rfl) (.ld (cNs 4) (wd I) (fun _=>ac)) 0 ?_
 refine rld 6 (hH.q 8 rfl) (.ld (cNs 4) (wd G) (fun _=>ac)) 32 ?_
 refine rld 7 (hH.q 9 rfl) (.ld (cNs 4) (wd K) (fun _=>ac)) 64 ?_
 refine rld 9 (hH.q 7 rfl) (.ld (cNs 4) (wd E) (fun _=>ac)) 64 ?_
 refine rld 10 (hH.q 10 rfl) (.ld (cNs 4) (wd I) (fun _=>ac)) 128 ?_
 refine rx1k 2 (rpc 2 Tryz.func75 (aV E G lE lG) trivial hH 192 (.keep (.keep (.keep (.keep (.keep (.keep (pgo [] (pgo [] (.nil _ []))))))))) ?_)
 clear hH
 intro w hH
 refine ⟨pcons (hH.blk 10 rfl) (pcons (hH.blk 7 rfl) (pcons (hH.blk 9 rfl) (pcons (hH.blk 8 rfl) (pcons (hH.blk 10 rfl) (pcons (hH.blk 9 rfl) an))))),?_⟩
 refine rx1k 5 (rpc 5 Tryz.func75 (aV K I lK lI) trivial hH 96 (.keep (.keep (.keep (.keep (pgo [] (pgo [] (.nil _ []))))))) ?_)
 clear hH
 intro w hH
 refine ⟨pcons (hH.blk 10 rfl) (pcons (hH.blk 7 rfl) (pcons (hH.blk 9 rfl) (pcons (hH.blk 8 rfl) an))),?_⟩
 refine rx1k 8 (rpc 8 Tryz.func75 (aV G K lG lK) trivial hH 48 (.keep (.keep (pgo [] (pgo [] (.nil _ []))))) ?_)
 clear hH
 intro w hH
 refine ⟨pcons (hH.blk 10 rfl) (pcons (hH.blk 7 rfl) an),?_⟩
 refine rx1k 11 (rpc 11 Tryz.func75 (aV E I lE lI) trivial hH 24 (pgo [] (pgo [] (.nil _ []))) ?_)
 clear hH
 intro w hH
 refine ⟨an,rv 12 (v:=(cPt.val (wd (tm E G),wd (tm K I),wd (tm G K),wd (tm E I)))) (fun _ _ hF=>aG (cells:=cPt.enc (wd (tm E G),wd (tm K I),wd (tm G K),wd (tm E I))) rfl (EvP.cons (v:=((cNs 4).val (wd (tm E G)))) (hF.ev 3 rfl) (EvP.cons (v:=((cNs 4).val (wd (tm K I)))) (hF.ev 2 rfl) (EvP.cons (v:=((cNs 4).val (wd (tm G K)))) (hF.ev 1 rfl) (EvP.cons (v:=((cNs 4).val (wd (tm E I)))) (hF.ev 0 rfl) EvP.nil)))) (gc (x:=(wd (tm E G),wd (tm K I),wd (tm G K),wd (tm E I))) (by kernel_rfl) rfl rfl rfl rfl) _) 15 ?_⟩
 refine rx1k 13 ?_
 refine re0 13 2 hH rfl (.sw cPt (fun _=>0,fun _=>0,fun _=>0,fun _=>0) (wd (tm E G),wd (tm K I),wd (tm G K),wd (tm E I))) trivial (.nil _ []) ?_
 clear hH
 rintro _ _ w rfl hH
 refine ⟨an,rn ?_⟩
 refine au (aH 1 (hH.blk 2 rfl) rfl rfl (by kernel_rfl) (Cod.size _ _) (by kernel_rfl) ?_)
 subst hE hG hK hI hA hB hC hD
 exact ⟨rfl,HH.toBelow hH⟩
theorem uT (n:Nat→UInt8) (p:P4) (hp:PL p):Pure Tryz.prog 86 #[((ae 32).val n),(cPt.val (wd p.1,wd p.2.1,wd p.2.2.1,wd p.2.2.2))] (fun _=>True) (cPt.val (wd (pOf n p 256).1,wd (pOf n p 256).2.1,wd (pOf n p 256).2.2.1,wd (pOf n p 256).2.2.2)):=by
 refine pU Tryz.func86 Tryz.ntmps86 ?_
 intro w0 hH hR
 refine zr (zm hH (.bx (ae 32) n) trivial 1 ?_)
 clear hH
 rintro _ _ w ⟨g1,rfl,rfl⟩ hH
 refine zm hH (.bx cPt (wd p.1,wd p.2.1,wd p.2.2.1,wd p.2.2.2)) trivial 2 ?_
 clear hH
 rintro _ _ w ⟨g2,rfl,rfl⟩ hH
 refine zm hH (.al cPt (fun _=>0,fun _=>0,fun _=>0,fun _=>0)) trivial 0 ?_
 clear hH
 rintro _ _ w ⟨g3,rfl,rfl⟩ hH
 refine zn (zr (zc Tryz.func127 (zS) trivial hH 0 ?_))
 clear hH
 intro w hH
 refine zm hH (.al cPt (fun _=>0,fun _=>0,fun _=>0,fun _=>0)) trivial 0 ?_
 clear hH
 rintro _ _ w ⟨g4,rfl,rfl⟩ hH
 refine ze0 3 hH rfl (.sw cPt (fun _=>0,fun _=>0,fun _=>0,fun _=>0) (wd pNt.1,wd pNt.2.1,wd pNt.2.2.1,wd pNt.2.2.2)) trivial ?_
 clear hH
 rintro _ _ w rfl hH
 refine zn (ak ?_)
 replace hH:HH w0 [] [[bl g1 22 ((ae 32).enc n)],[bl g2 113 (cPt.enc (wd p.1,wd p.2.1,wd p.2.2.1,wd p.2.2.2))],[bl g3 113 (cPt.enc (fun _=>0,fun _=>0,fun _=>0,fun _=>0))],[bl g4 113 (cPt.enc (wd (pOf n p (256 - 256)).1,wd (pOf n p (256 - 256)).2.1,wd (pOf n p (256 - 256)).2.2.1,wd (pOf n p (256 - 256)).2.2.2))]] w:=by exact hH
 refine zr (zv .mv 2 ?_)
 refine zn (aj (zL1 (fun (j:Nat)=>[(6,(.int .i64 ((j:Int) - 1))),(5,(.pointer (some ⟨g4,0,none⟩))),(4,(.pointer (some ⟨g3,0,none⟩))),(3,(.pointer (some ⟨g2,0,none⟩))),(2,(.pointer (some ⟨g1,0,none⟩)))]) (fun j w=>HH w0 [] [[bl g1 22 ((ae 32).enc n)],[bl g2 113 (cPt.enc (wd p.1,wd p.2.1,wd p.2.2.1,wd p.2.2.2))],[bl g3 113 (cPt.enc (fun _=>0,fun _=>0,fun _=>0,fun _=>0))],[bl g4 113 (cPt.enc (wd (pOf n p (256 - j)).1,wd (pOf n p (256 - j)).2.1,wd (pOf n p (256 - j)).2.2.1,wd (pOf n p (256 - j)).2.2.2))]] w∧(j≤256)) (fun j=>j) 256 ⟨hH,(Nat.le_refl _)⟩ ?_))
 clear hH
 rintro j w ⟨hH,hj⟩
 refine ak (zr (zv .mv 0 ?_))
 refine zv (v:=(.bool (decide (((j:Int) - 1) ≥ 0)))) (fun _ _ hF=>fC rfl (hF.ev 0 rfl) rfl rfl) 1 ?_
 refine zn ?_
 refine zP (fun hc5 => ?_) (fun hc5 => ?_)
 refine av (ah (ak (aj ?_)))
 obtain ⟨k,rfl⟩:∃ k,j=k+1:=⟨j - 1,by omega⟩
 rw [show ((k+1:Nat):Int) - 1=(k:Int) by omega]
 replace hH:HH w0 [] [[bl g1 22 ((ae 32).enc n)],[bl g2 113 (cPt.enc (wd p.1,wd p.2.1,wd p.2.2.1,wd p.2.2.2))],[bl g3 113 (cPt.enc (fun _=>0,fun _=>0,fun _=>0,fun _=>0))],[bl g4 113 (cPt.enc (wd (pOf n p (256 - (k+1))).1,wd (pOf n p (256 - (k+1))).2.1,wd (pOf n p (256 - (k+1))).2.2.1,wd (pOf n p (256 - (k+1))).2.2.2))]] w:=by exact hH
 refine zr (zs (hH.q 3 rfl) (.ld cPt (wd (pOf n p (256 - (k+1))).1,wd (pOf n p (256 - (k+1))).2.1,wd (pOf n p (256 - (k+1))).2.2.1,wd (pOf n p (256 - (k+1))).2.2.2) (fun _=>ac)) 1 ?_)
 refine zs (hH.q 3 rfl) (.ld cPt (wd (pOf n p (256 - (k+1))).1,wd (pOf n p (256 - (k+1))).2.1,wd (pOf n p (256 - (k+1))).2.2.1,wd (pOf n p (256 - (k+1))).2.2.2) (fun _=>ac)) 0 ?_
 refine zc Tryz.func128 (uS (pOf n p (256 - (k+1))) (pOf n p (256 - (k+1))) (jb hp _) (jb hp _)) trivial hH 3 ?_
 clear hH
 intro w hH
 refine ze0 3 hH rfl (.sw cPt (wd (pOf n p (256 - (k+1))).1,wd (pOf n p (256 - (k+1))).2.1,wd (pOf n p (256 - (k+1))).2.2.1,wd (pOf n p (256 - (k+1))).2.2.2) (wd (pSm (pOf n p (256 - (k+1))) (pOf n p (256 - (k+1)))).1,wd (pSm (pOf n p (256 - (k+1))) (pOf n p (256 - (k+1)))).2.1,wd (pSm (pOf n p (256 - (k+1))) (pOf n p (256 - (k+1)))).2.2.1,wd (pSm (pOf n p (256 - (k+1))) (pOf n p (256 - (k+1)))).2.2.2)) trivial ?_
 clear hH
 rintro _ _ w rfl hH
 refine zn (zr (zv .mv 1 ?_))
 refine zv (v:=(.int .i64 (((k / 8):Nat):Int))) (fun _ _ hF=>de (z:=((k / 8:Nat):Int)) rfl (hF.ev 0 rfl) rfl (by omega) (wI ej (by omega) (by omega))) 1 ?_
 have hi6:k / 8<32:=by omega
 refine zv (.ia 1 32 (k / 8) (hi:=hi6)) 1 ?_
 refine zs (hH.q 0 rfl) (.ld af (n (k / 8)) (fun _ hS=>((ac hS).elt hi6))) 1 ?_
 refine zv .mv 0 ?_
 refine zv (v:=(.int .i64 (((k%8):Nat):Int))) (fun _ _ hF=>bu (z:=((k%8:Nat):Int)) rfl (hF.ev 0 rfl) rfl (by omega) cy) 1 ?_
 refine zv (.cu .u64) 1 ?_
 refine zv (.rb (k%8) (u:=(n (k / 8)))) 3 ?_
 refine zv (.ab ((sr8 (n (k / 8)) (k%8)) &&& (1:UInt8)) (u:=(sr8 (n (k / 8)) (k%8))) (v:=(1:UInt8))) 1 ?_
 refine zv (.eq (((sr8 (n (k / 8)) (k%8)) &&& (1:UInt8)).toNat=1)) 1 ?_
 refine zn ?_
 refine zP (fun hc7 => ?_) (fun hc7 => ?_)
 refine aA (zs (hH.q 3 rfl) (.ld cPt (wd (pSm (pOf n p (256 - (k+1))) (pOf n p (256 - (k+1)))).1,wd (pSm (pOf n p (256 - (k+1))) (pOf n p (256 - (k+1)))).2.1,wd (pSm (pOf n p (256 - (k+1))) (pOf n p (256 - (k+1)))).2.2.1,wd (pSm (pOf n p (256 - (k+1))) (pOf n p (256 - (k+1)))).2.2.2) (fun _=>ac)) 1 ?_)
 refine zs (hH.q 1 rfl) (.ld cPt (wd p.1,wd p.2.1,wd p.2.2.1,wd p.2.2.2) (fun _=>ac)) 0 ?_
 refine zc Tryz.func128 (uS (pSm (pOf n p (256 - (k+1))) (pOf n p (256 - (k+1)))) p (mS (jb hp _) (jb hp _)) hp) trivial hH 3 ?_
 clear hH
 intro w hH
 refine ze0 3 hH rfl (.sw cPt (wd (pSm (pOf n p (256 - (k+1))) (pOf n p (256 - (k+1)))).1,wd (pSm (pOf n p (256 - (k+1))) (pOf n p (256 - (k+1)))).2.1,wd (pSm (pOf n p (256 - (k+1))) (pOf n p (256 - (k+1)))).2.2.1,wd (pSm (pOf n p (256 - (k+1))) (pOf n p (256 - (k+1)))).2.2.2) (wd (pSm (pSm (pOf n p (256 - (k+1))) (pOf n p (256 - (k+1)))) p).1,wd (pSm (pSm (pOf n p (256 - (k+1))) (pOf n p (256 - (k+1)))) p).2.1,wd (pSm (pSm (pOf n p (256 - (k+1))) (pOf n p (256 - (k+1)))) p).2.2.1,wd (pSm (pSm (pOf n p (256 - (k+1))) (pOf n p (256 - (k+1)))) p).2.2.2)) trivial ?_
 clear hH
 rintro _ _ w rfl hH
 refine aD (aP (ah ?_))
 replace hH:HH w0 [] [[bl g1 22 ((ae 32).enc n)],[bl g2 113 (cPt.enc (wd p.1,wd p.2.1,wd p.2.2.1,wd p.2.2.2))],[bl g3 113 (cPt.enc (fun _=>0,fun _=>0,fun _=>0,fun _=>0))],[bl g4 113 (cPt.enc (wd (pOf n p (256 - k)).1,wd (pOf n p (256 - k)).2.1,wd (pOf n p (256 - k)).2.2.1,wd (pOf n p (256 - k)).2.2.2))]] w:=by rw [oe (by omega),if_pos (show (bitB n k).toNat=1 from hc7)]; exact hH
 refine aA (zv .mv 3 ?_)
 refine zv (.sub ((k:Int) - 1)) 1 ?_
 refine zv .mv 1 ?_
 refine aD ?_
 exact zR1 k ⟨hH,(by omega)⟩ (by omega)
 refine av (aP (ah ?_))
 replace hH:HH w0 [] [[bl g1 22 ((ae 32).enc n)],[bl g2 113 (cPt.enc (wd p.1,wd p.2.1,wd p.2.2.1,wd p.2.2.2))],[bl g3 113 (cPt.enc (fun _=>0,fun _=>0,fun _=>0,fun _=>0))],[bl g4 113 (cPt.enc (wd (pOf n p (256 - k)).1,wd (pOf n p (256 - k)).2.1,wd (pOf n p (256 - k)).2.2.1,wd (pOf n p (256 - k)).2.2.2))]] w:=by rw [oe (by omega),if_neg (show ¬ (bitB n k).toNat=1 from hc7)]; exact hH
 refine aA (zv .mv 3 ?_)
 refine zv (.sub ((k:Int) - 1)) 1 ?_
 refine zv .mv 1 ?_
 refine aD ?_
 exact zR1 k ⟨hH,(by omega)⟩ (by omega)
 refine aK (am (am (aS (ah ?_))))
 obtain rfl:j=0:=by omega
 replace hH:HH w0 [] [[bl g1 22 ((ae 32).enc n)],[bl g2 113 (cPt.enc (wd p.1,wd p.2.1,wd p.2.2.1,wd p.2.2.2))],[bl g3 113 (cPt.enc (fun _=>0,fun _=>0,fun _=>0,fun _=>0))],[bl g4 113 (cPt.enc (wd (pOf n p 256).1,wd (pOf n p 256).2.1,wd (pOf n p 256).2.2.1,wd (pOf n p 256).2.2.2))]] w:=by exact hH
 refine zr (zs (hH.q 3 rfl) (.ld cPt (wd (pOf n p 256).1,wd (pOf n p 256).2.1,wd (pOf n p 256).2.2.1,wd (pOf n p 256).2.2.2) (fun _=>ac)) 55 ?_)
 refine ze0 2 hH rfl (.sw cPt (fun _=>0,fun _=>0,fun _=>0,fun _=>0) (wd (pOf n p 256).1,wd (pOf n p 256).2.1,wd (pOf n p 256).2.2.1,wd (pOf n p 256).2.2.2)) trivial ?_
 clear hH
 rintro _ _ w rfl hH
 refine zn (au (aH 1 (hH.blk 2 rfl) rfl rfl (by kernel_rfl) (Cod.size _ _) (by kernel_rfl) ?_))
 exact ⟨rfl,HH.toBelow hH⟩
theorem zU (p:P4) (hp:PL p):Pure Tryz.prog 85 #[(cPt.val (wd p.1,wd p.2.1,wd p.2.2.1,wd p.2.2.2))] (fun _=>True) ((ae 32).val (pEn p)):=by
 refine pU Tryz.func85 Tryz.ntmps85 ?_
 intro w0 hH hR
 refine zr (zm hH (.bx cPt (wd p.1,wd p.2.1,wd p.2.2.1,wd p.2.2.2)) trivial 1 ?_)
 clear hH
 rintro _ _ w ⟨g1,rfl,rfl⟩ hH
 refine zm hH (.al (ae 32) (fun _=>0)) trivial 0 ?_
 clear hH
 rintro _ _ w ⟨g2,rfl,rfl⟩ hH
 refine zn (zr (zv (.fld 8) 0 ?_))
 refine zs (hH.q 0 rfl) (.ld (cNs 4) (wd p.2.2.1) (fun _ hS=>(((ac hS).snd).snd).fst)) 1 ?_
 refine zc Tryz.func77 (gP p.2.2.1 hp.2.2.1) trivial hH 1 ?_
 clear hH
 intro w hH
 refine zm hH (.al (cNs 4) (fun _=>0)) trivial 0 ?_
 clear hH
 rintro _ _ w ⟨g3,rfl,rfl⟩ hH
 refine ze0 2 hH rfl (.sw (cNs 4) (fun _=>0) (wd (riv p.2.2.1))) trivial ?_
 clear hH
 rintro _ _ w rfl hH
 refine zn ?_
 obtain ⟨z,hz,lz⟩:∃ z,z=riv p.2.2.1∧z<2^256:=⟨_,rfl,(km hp.2.2.1)⟩
 replace hH:HH w0 [] [[bl g1 113 (cPt.enc (wd p.1,wd p.2.1,wd p.2.2.1,wd p.2.2.2))],[bl g2 22 ((ae 32).enc (fun _=>0))],[bl g3 97 ((cNs 4).enc (wd z))]] w:=by rw [hz]; exact hH
 refine zx ?_
 replace hH:=hH.drew
 refine cP 0 [pv 0 9 [] [] fun G=>(.pointer (some ⟨g1,0,none⟩)),ldv 1 10 [0] [] [1000] fun G=>((cNs 4).val (wd p.1)),ldv 2 11 [] [] [1002] fun G=>((cNs 4).val (wd z)),pv 3 12 [1,2] [] fun G=>((cNs 4).val (wd (tm p.1 z))),pv 4 13 [3] [] fun G=>((cNs 4).val (wd ((tm p.1 z)%pN))),pv 5 14 [] [] fun G=>(.pointer (some ⟨g1,4,none⟩)),ldv 6 15 [5] [] [1000] fun G=>((cNs 4).val (wd p.2.1)),ldv 7 16 [] [] [1002] fun G=>((cNs 4).val (wd z)),pv 8 17 [6,7] [] fun G=>((cNs 4).val (wd (tm p.2.1 z))),pv 9 18 [8] [] fun G=>((ae 32).val (be (tm p.2.1 z%pN))),alv 10 4 [] [] fun G g=>[bl g 97 ((cNs 4).enc (fun _=>0))],alv 11 5 [] [] fun G g=>[bl g 22 ((ae 32).enc (fun _=>0))],stv 12 [4,10] [10] 10 fun G=>[bl (G 10).g 97 ((cNs 4).enc (wd ((tm p.1 z)%pN)))],stv 13 [9,11] [11] 11 fun G=>[bl (G 11).g 22 ((ae 32).enc (be (tm p.2.1 z%pN)))]] (fun G=>[(4,(.pointer (some ⟨(G 10).g,0,none⟩))),(5,(.pointer (some ⟨(G 11).g,0,none⟩))),(2,(.pointer (some ⟨g2,0,none⟩)))]) (fun G=>[[bl g1 113 (cPt.enc (wd p.1,wd p.2.1,wd p.2.2.1,wd p.2.2.2))],[bl g2 22 ((ae 32).enc (fun _=>0))],[bl g3 97 ((cNs 4).enc (wd z))],[bl (G 10).g 97 ((cNs 4).enc (wd ((tm p.1 z)%pN)))],[bl (G 11).g 22 ((ae 32).enc (be (tm p.2.1 z%pN)))]]) hH (.c (.v fun G=>(.fld 0)) <| .c (.ld (fun G _ _ hH=>(hH.q 0 rfl)) fun G=>(.ld (cNs 4) (wd p.1) (fun _ hS=>(ac hS).fst))) <| .c (.ld (fun G _ _ hH=>(hH.q 0 rfl)) fun G=>(.ld (cNs 4) (wd z) (fun _=>ac))) <| .c (Sp.c Tryz.func75 (fun G=>(aV p.1 z hp.1 lz)) fun _=>trivial) <| .c (Sp.c Tryz.func119 (fun G=>(eh (tm p.1 z) (ba hp.1 lz))) fun _=>trivial) <| .c (.v fun G=>(.fld 4)) <| .c (.ld (fun G _ _ hH=>(hH.q 0 rfl)) fun G=>(.ld (cNs 4) (wd p.2.1) (fun _ hS=>((ac hS).snd).fst))) <| .c (.ld (fun G _ _ hH=>(hH.q 0 rfl)) fun G=>(.ld (cNs 4) (wd z) (fun _=>ac))) <| .c (Sp.c Tryz.func75 (fun G=>(aV p.2.1 z hp.2.1 lz)) fun _=>trivial) <| .c (Sp.c Tryz.func76 (fun G=>(nX (tm p.2.1 z) (ba hp.2.1 lz))) fun _=>trivial) <| .c (.a (fun _ _ _ _=>trivial) (fun G=>(.al (cNs 4) (fun _=>0))) fun _ _ _ h=>h) <| .c (.a (fun _ _ _ _=>trivial) (fun G=>(.al (ae 32) (fun _=>0))) fun _ _ _ h=>h) <| .c (.tn (fun G=>(.sw (cNs 4) (fun _=>0) (wd ((tm p.1 z)%pN)))) (fun _ _ _ _=>trivial) fun _ _ _ h=>h) <| .c (.tn (fun G=>(.sw (ae 32) (fun _=>0) (be (tm p.2.1 z%pN)))) (fun _ _ _ _=>trivial) fun _ _ _ h=>h) <| .nil) ?_
 clear hH
 rintro G w - hH
 revert hH
 generalize (G 10).g=g4
 generalize (G 11).g=g5
 intro hH
 refine rn ?_
 obtain ⟨x,hx,lx⟩:∃ x,x=(tm p.1 z)%pN∧x<2^256:=⟨_,rfl,(Nat.lt_trans (Nat.mod_lt _ (by decide)) fH)⟩
 replace hH:HH w0 [] [[bl g1 113 (cPt.enc (wd p.1,wd p.2.1,wd p.2.2.1,wd p.2.2.2))],[bl g2 22 ((ae 32).enc (fun _=>0))],[bl g3 97 ((cNs 4).enc (wd z))],[bl g4 97 ((cNs 4).enc (wd x))],[bl g5 22 ((ae 32).enc (be (tm p.2.1 z%pN)))]] w:=by rw [hx]; exact hH
 obtain ⟨y,hy⟩:∃ y,y=(be (tm p.2.1 z%pN)):=⟨_,rfl⟩
 replace hH:HH w0 [] [[bl g1 113 (cPt.enc (wd p.1,wd p.2.1,wd p.2.2.1,wd p.2.2.2))],[bl g2 22 ((ae 32).enc (fun _=>0))],[bl g3 97 ((cNs 4).enc (wd z))],[bl g4 97 ((cNs 4).enc (wd x))],[bl g5 22 ((ae 32).enc y)]] w:=by rw [hy]; exact hH
 refine zr ?_
 have hi6:31<32:=by omega
 refine zv (.ia 1 32 31 (hi:=hi6)) 0 ?_
 refine zs (hH.q 4 rfl) (.ld af (y 31) (fun _ hS=>((ac hS).elt hi6))) 1 ?_
 have hi7:0<4:=by omega
 refine zv (.ia 1 4 0 (hi:=hi7)) 2 ?_
 refine zs (hH.q 3 rfl) (.ld sNt.cod ((wd x) 0) (fun _ hS=>((ac hS).eltV hi7))) 1 ?_
 refine zv (v:=(.int .u64 (((((wd x) 0)%2):Nat):Int))) (fun _ _ hF=>bu (z:=((((wd x) 0)%2:Nat):Int)) rfl (hF.ev 0 rfl) rfl (by omega) cy) 1 ?_
 refine zv .cb 1 ?_
 refine zv (.lb 7 (u:=(UInt8.ofNat (((wd x) 0)%2)))) 1 ?_
 refine zv (.ob ((y 31) ||| (sl8 (UInt8.ofNat (((wd x) 0)%2)) 7)) (u:=(y 31)) (v:=(sl8 (UInt8.ofNat (((wd x) 0)%2)) 7))) 3 ?_
 have hi8:31<32:=by omega
 refine zv (.ia 1 32 31 (hi:=hi8)) 0 ?_
 refine ze0 4 hH rfl (.st af ((y 31) ||| (sl8 (UInt8.ofNat (((wd x) 0)%2)) 7)) (aW (S:=sBy) (C:=(ae 32)) rfl hi8) (aQ y ((y 31) ||| (sl8 (UInt8.ofNat (((wd x) 0)%2)) 7)) hi8)) trivial ?_
 clear hH
 rintro _ _ w rfl hH
 refine zn (zr (zs (hH.q 4 rfl) (.ld (ae 32) (stF y 31 ((y 31) ||| (sl8 (UInt8.ofNat (((wd x) 0)%2)) 7))) (fun _=>ac)) 7 ?_))
 refine ze0 1 hH rfl (.sw (ae 32) (fun _=>0) (stF y 31 ((y 31) ||| (sl8 (UInt8.ofNat (((wd x) 0)%2)) 7)))) trivial ?_
 clear hH
 rintro _ _ w rfl hH
 refine zn (au (aH 1 (hH.blk 1 rfl) rfl rfl (by kernel_rfl) (Cod.size _ _) (by kernel_rfl) ?_))
 subst hx hy hz
 exact ⟨rfl,HH.toBelow hH⟩
def gT:Nat→UInt8:=fun _=>102
def gq:Nat→UInt8:=stF gT 0 88
theorem zV  : Pure Tryz.prog 84 #[] (fun _=>True) ((ae 32).val gq):=by
 refine pU Tryz.func84 Tryz.ntmps84 ?_
 intro w0 hH hR
 refine zr (zm hH (.al (ae 32) (fun _=>0)) trivial 0 ?_)
 clear hH
 rintro _ _ w ⟨g1,rfl,rfl⟩ hH
 refine zn (zr (zm hH (.al (ae 32) (fun _=>0)) trivial 0 ?_))
 clear hH
 rintro _ _ w ⟨g2,rfl,rfl⟩ hH
 refine zn (ak (zr (zv .mv 0 ?_)))
 refine zn (aj ?_)
 have he3:(ae 32).enc (upF 0 gT (fun _=>0))=(ae 32).enc (fun _=>0):=aB (fun j _=>by rw [bE])
 replace hH:HH w0 [] [[bl g1 22 ((ae 32).enc (fun _=>0))],[bl g2 22 ((ae 32).enc (upF 0 gT (fun _=>0)))]] w:=by rw [he3]; exact hH
 refine zL1 (fun (i:Nat)=>[(3,(.int .i64 i)),(1,(.pointer (some ⟨g2,0,none⟩))),(0,(.pointer (some ⟨g1,0,none⟩)))]) (fun i w=>HH w0 [] [[bl g1 22 ((ae 32).enc (fun _=>0))],[bl g2 22 ((ae 32).enc (upF i gT (fun _=>0)))]] w∧(i≤32)) (fun i=>32 - i) 0 ⟨hH,(Nat.zero_le _)⟩ ?_
 clear hH
 rintro i w ⟨hH,hi⟩
 refine zr (zv (.lt (i<32)) 0 ?_)
 refine zn (ak ?_)
 refine zP (fun hc4 => ?_) (fun hc4 => ?_)
 refine av (ah (ak (aj (zr (zv .mv 1 ?_)))))
 refine zv .mv 1 ?_
 refine zn (aA (zv .mv 1 ?_))
 have hi5:i<32:=by omega
 refine zv (.ia 1 32 i (hi:=hi5)) 1 ?_
 refine ze0 1 hH rfl (.st af 102 (aW (S:=sBy) (C:=(ae 32)) rfl hi5) (aQ (upF i gT (fun _=>0)) 102 hi5)) trivial ?_
 clear hH
 rintro _ _ w rfl hH
 refine aD (aP (ah (aA (zv (.add ((i+1:Nat):Int)) 3 ?_))))
 refine zv .mv 1 ?_
 refine aD ?_
 have he6:(ae 32).enc (upF (i+1) gT (fun _=>0))=(ae 32).enc (stF (upF i gT (fun _=>0)) i 102):=aB (fun j _=>(congrFun (bn i gT (fun _=>0) (rfl)) j).symm)
 replace hH:HH w0 [] [[bl g1 22 ((ae 32).enc (fun _=>0))],[bl g2 22 ((ae 32).enc (upF (i+1) gT (fun _=>0)))]] w:=by rw [he6]; exact hH
 exact zR1 (i+1) ⟨hH,(by omega)⟩ (by omega)
 refine aK (am (am (aS (ah ?_))))
 obtain rfl:i=32:=by omega
 have he7:(ae 32).enc gT=(ae 32).enc (upF 32 gT (fun _=>0)):=aB (fun j hj=>(bA _ _ hj).symm)
 replace hH:HH w0 [] [[bl g1 22 ((ae 32).enc (fun _=>0))],[bl g2 22 ((ae 32).enc gT)]] w:=by rw [he7]; exact hH
 refine zr ?_
 have hi8:0<32:=by omega
 refine zv (.ia 1 32 0 (hi:=hi8)) 3 ?_
 refine ze0 1 hH rfl (.st af 88 (aW (S:=sBy) (C:=(ae 32)) rfl hi8) (aQ gT 88 hi8)) trivial ?_
 clear hH
 rintro _ _ w rfl hH
 refine zn (zr (zs (hH.q 1 rfl) (.ld (ae 32) (stF gT 0 88) (fun _=>ac)) 3 ?_))
 refine ze0 0 hH rfl (.sw (ae 32) (fun _=>0) (stF gT 0 88)) trivial ?_
 clear hH
 rintro _ _ w rfl hH
 refine zn (au (aH 1 (hH.blk 0 rfl) rfl rfl (by kernel_rfl) (Cod.size _ _) (by kernel_rfl) ?_))
 exact ⟨rfl,HH.toBelow hH⟩
theorem wZ {l:List UInt8} {z:Nat} (h:l.length+1+z+16=128*bR l.length):mzL l (z+8)++be8 (l.length*8) 8=pdN l:=by
 apply List.ext_getElem?
 intro k
 have h1:=pS l (z+8)
 have h2:=pT (l.length*8) 8
 by_cases hk:k<128*bR l.length
 ·unfold pdN
  rw [bs hk]
  unfold gx
  by_cases a1:k<l.length
  ·rw [if_pos a1,List.getElem?_append_left (by omega)]
   unfold mzL
   show (l++_)[k]?=some (l.getD k 0)
   rw [List.getElem?_append_left a1,List.getD_eq_getElem?_getD,List.getElem?_eq_getElem a1]; rfl
  ·rw [if_neg a1]
   by_cases a2:k<l.length+1+(z+8)
   ·rw [List.getElem?_append_left (by omega)]
    unfold mzL
    rw [List.getElem?_append_right (by omega)]
    by_cases a3:k=l.length
    ·rw [if_pos a3,a3,Nat.sub_self]; rfl
    ·rw [if_neg a3,if_pos (by omega),show k - l.length=(k - l.length - 1)+1 by omega,List.getElem?_cons_succ,List.getElem?_replicate,if_pos (by omega)]
   ·rw [if_neg (by omega),if_neg (by omega),List.getElem?_append_right (by omega),h1]
    unfold be8
    rw [bs (by omega)]
    congr 2
    rw [Nat.mul_comm 8 l.length,show (256:Nat)=2^8 from rfl,← Nat.pow_mul]
    congr 2
    omega
 ·rw [List.getElem?_eq_none (by rw [List.length_append]; omega),List.getElem?_eq_none (by rw [pY]; omega)]
theorem d9 (x:UInt64) (n:Nat) (h0:0<n) (h64:n<64):Pure Tryz.prog 123 #[(.int .u64 x.toNat),(.int .u64 n)] (fun _=>True) (.int .u64 ((((cL x n).toNat):Nat):Int)):=by
 refine pU Tryz.func123 Tryz.ntmps123 ?_
 intro w0 hH hR
 refine zr (zv .mv 0 ?_)
 refine zn (zr (zv .mv 1 ?_))
 refine zv .mv 0 ?_
 refine zv (.rq n) 3 ?_
 refine zv .mv 2 ?_
 refine zv .mv 4 ?_
 refine zv (v:=(.int .u64 (((64 - n):Nat):Int))) (fun _ _ hF=>gE (m:=64) (j:=n) (z:=(64 - n)) rfl rfl rfl (hF.ev 0 rfl) (by show n≤18446744073709551616; omega) (by show (64+(18446744073709551616 - n))%18446744073709551616=_; omega)) 1 ?_
 refine zv (.lq (64 - n)) 3 ?_
 refine zv (.oq (cL x n)) 3 ?_
 refine zv .mv 1 ?_
 refine zn (au (aZ 0 rfl rfl ?_))
 exact ⟨rfl,HH.toBelow hH⟩
theorem BA  : Pure Tryz.prog 122 #[] (fun _=>True) ((cQs 80).val K64):=by
 refine pU Tryz.func122 Tryz.ntmps122 ?_
 intro w0 hH hR
 refine zr (zm hH (.al (cQs 80) (fun _=>0)) trivial 0 ?_)
 clear hH
 rintro _ _ w ⟨g1,rfl,rfl⟩ hH
 refine zn (zr (zv (v:=((cQs 80).val K64)) (fun _ _ hF=>aG (cells:=(cQs 80).enc K64) (vals:=[(0,(.int .u64 4794697086780616226)),(1,(.int .u64 8158064640168781261)),(2,(.int .u64 13096744586834688815)),(3,(.int .u64 16840607885511220156)),(4,(.int .u64 4131703408338449720)),(5,(.int .u64 6480981068601479193)),(6,(.int .u64 10538285296894168987)),(7,(.int .u64 12329834152419229976)),(8,(.int .u64 15566598209576043074)),(9,(.int .u64 1334009975649890238)),(10,(.int .u64 2608012711638119052)),(11,(.int .u64 6128411473006802146)),(12,(.int .u64 8268148722764581231)),(13,(.int .u64 9286055187155687089)),(14,(.int .u64 11230858885718282805)),(15,(.int .u64 13951009754708518548)),(16,(.int .u64 16472876342353939154)),(17,(.int .u64 17275323862435702243)),(18,(.int .u64 1135362057144423861)),(19,(.int .u64 2597628984639134821)),(20,(.int .u64 3308224258029322869)),(21,(.int .u64 5365058923640841347)),(22,(.int .u64 6679025012923562964)),(23,(.int .u64 8573033837759648693)),(24,(.int .u64 10970295158949994411)),(25,(.int .u64 12119686244451234320)),(26,(.int .u64 12683024718118986047)),(27,(.int .u64 13788192230050041572)),(28,(.int .u64 14330467153632333762)),(29,(.int .u64 15395433587784984357)),(30,(.int .u64 489312712824947311)),(31,(.int .u64 1452737877330783856)),(32,(.int .u64 2861767655752347644)),(33,(.int .u64 3322285676063803686)),(34,(.int .u64 5560940570517711597)),(35,(.int .u64 5996557281743188959)),(36,(.int .u64 7280758554555802590)),(37,(.int .u64 8532644243296465576)),(38,(.int .u64 9350256976987008742)),(39,(.int .u64 10552545826968843579)),(40,(.int .u64 11727347734174303076)),(41,(.int .u64 12113106623233404929)),(42,(.int .u64 14000437183269869457)),(43,(.int .u64 14369950271660146224)),(44,(.int .u64 15101387698204529176)),(45,(.int .u64 15463397548674623760)),(46,(.int .u64 17586052441742319658)),(47,(.int .u64 1182934255886127544)),(48,(.int .u64 1847814050463011016)),(49,(.int .u64 2177327727835720531)),(50,(.int .u64 2830643537854262169)),(51,(.int .u64 3796741975233480872)),(52,(.int .u64 4115178125766777443)),(53,(.int .u64 5681478168544905931)),(54,(.int .u64 6601373596472566643)),(55,(.int .u64 7507060721942968483)),(56,(.int .u64 8399075790359081724)),(57,(.int .u64 8693463985226723168)),(58,(.int .u64 9568029438360202098)),(59,(.int .u64 10144078919501101548)),(60,(.int .u64 10430055236837252648)),(61,(.int .u64 11840083180663258601)),(62,(.int .u64 13761210420658862357)),(63,(.int .u64 14299343276471374635)),(64,(.int .u64 14566680578165727644)),(65,(.int .u64 15097957966210449927)),(66,(.int .u64 16922976911328602910)),(67,(.int .u64 17689382322260857208)),(68,(.int .u64 500013540394364858)),(69,(.int .u64 748580250866718886)),(70,(.int .u64 1242879168328830382)),(71,(.int .u64 1977374033974150939)),(72,(.int .u64 2944078676154940804)),(73,(.int .u64 3659926193048069267)),(74,(.int .u64 4368137639120453308)),(75,(.int .u64 4836135668995329356)),(76,(.int .u64 5532061633213252278)),(77,(.int .u64 6448918945643986474)),(78,(.int .u64 6902733635092675308)),(79,(.int .u64 7801388544844847127))]) rfl (EvP.cons (v:=(.int .u64 4794697086780616226)) rfl (EvP.cons (v:=(.int .u64 8158064640168781261)) rfl (EvP.cons (v:=(.int .u64 13096744586834688815)) rfl (EvP.cons (v:=(.int .u64 16840607885511220156)) rfl (EvP.cons (v:=(.int .u64 4131703408338449720)) rfl (EvP.cons (v:=(.int .u64 6480981068601479193)) rfl (EvP.cons (v:=(.int .u64 10538285296894168987)) rfl (EvP.cons (v:=(.int .u64 12329834152419229976)) rfl (EvP.cons (v:=(.int .u64 15566598209576043074)) rfl (EvP.cons (v:=(.int .u64 1334009975649890238)) rfl (EvP.cons (v:=(.int .u64 2608012711638119052)) rfl (EvP.cons (v:=(.int .u64 6128411473006802146)) rfl (EvP.cons (v:=(.int .u64 8268148722764581231)) rfl (EvP.cons (v:=(.int .u64 9286055187155687089)) rfl (EvP.cons (v:=(.int .u64 11230858885718282805)) rfl (EvP.cons (v:=(.int .u64 13951009754708518548)) rfl (EvP.cons (v:=(.int .u64 16472876342353939154)) rfl (EvP.cons (v:=(.int .u64 17275323862435702243)) rfl (EvP.cons (v:=(.int .u64 1135362057144423861)) rfl (EvP.cons (v:=(.int .u64 2597628984639134821)) rfl (EvP.cons (v:=(.int .u64 3308224258029322869)) rfl (EvP.cons (v:=(.int .u64 5365058923640841347)) rfl (EvP.cons (v:=(.int .u64 6679025012923562964)) rfl (EvP.cons (v:=(.int .u64 8573033837759648693)) rfl (EvP.cons (v:=(.int .u64 10970295158949994411)) rfl (EvP.cons (v:=(.int .u64 12119686244451234320)) rfl (EvP.cons (v:=(.int .u64 12683024718118986047)) rfl (EvP.cons (v:=(.int .u64 13788192230050041572)) rfl (EvP.cons (v:=(.int .u64 14330467153632333762)) rfl (EvP.cons (v:=(.int .u64 15395433587784984357)) rfl (EvP.cons (v:=(.int .u64 489312712824947311)) rfl (EvP.cons (v:=(.int .u64 1452737877330783856)) rfl (EvP.cons (v:=(.int .u64 2861767655752347644)) rfl (EvP.cons (v:=(.int .u64 3322285676063803686)) rfl (EvP.cons (v:=(.int .u64 5560940570517711597)) rfl (EvP.cons (v:=(.int .u64 5996557281743188959)) rfl (EvP.cons (v:=(.int .u64 7280758554555802590)) rfl (EvP.cons (v:=(.int .u64 8532644243296465576)) rfl (EvP.cons (v:=(.int .u64 9350256976987008742)) rfl (EvP.cons (v:=(.int .u64 10552545826968843579)) rfl (EvP.cons (v:=(.int .u64 11727347734174303076)) rfl (EvP.cons (v:=(.int .u64 12113106623233404929)) rfl (EvP.cons (v:=(.int .u64 14000437183269869457)) rfl (EvP.cons (v:=(.int .u64 14369950271660146224)) rfl (EvP.cons (v:=(.int .u64 15101387698204529176)) rfl (EvP.cons (v:=(.int .u64 15463397548674623760)) rfl (EvP.cons (v:=(.int .u64 17586052441742319658)) rfl (EvP.cons (v:=(.int .u64 1182934255886127544)) rfl (EvP.cons (v:=(.int .u64 1847814050463011016)) rfl (EvP.cons (v:=(.int .u64 2177327727835720531)) rfl (EvP.cons (v:=(.int .u64 2830643537854262169)) rfl (EvP.cons (v:=(.int .u64 3796741975233480872)) rfl (EvP.cons (v:=(.int .u64 4115178125766777443)) rfl (EvP.cons (v:=(.int .u64 5681478168544905931)) rfl (EvP.cons (v:=(.int .u64 6601373596472566643)) rfl (EvP.cons (v:=(.int .u64 7507060721942968483)) rfl (EvP.cons (v:=(.int .u64 8399075790359081724)) rfl (EvP.cons (v:=(.int .u64 8693463985226723168)) rfl (EvP.cons (v:=(.int .u64 9568029438360202098)) rfl (EvP.cons (v:=(.int .u64 10144078919501101548)) rfl (EvP.cons (v:=(.int .u64 10430055236837252648)) rfl (EvP.cons (v:=(.int .u64 11840083180663258601)) rfl (EvP.cons (v:=(.int .u64 13761210420658862357)) rfl (EvP.cons (v:=(.int .u64 14299343276471374635)) rfl (EvP.cons (v:=(.int .u64 14566680578165727644)) rfl (EvP.cons (v:=(.int .u64 15097957966210449927)) rfl (EvP.cons (v:=(.int .u64 16922976911328602910)) rfl (EvP.cons (v:=(.int .u64 17689382322260857208)) rfl (EvP.cons (v:=(.int .u64 500013540394364858)) rfl (EvP.cons (v:=(.int .u64 748580250866718886)) rfl (EvP.cons (v:=(.int .u64 1242879168328830382)) rfl (EvP.cons (v:=(.int .u64 1977374033974150939)) rfl (EvP.cons (v:=(.int .u64 2944078676154940804)) rfl (EvP.cons (v:=(.int .u64 3659926193048069267)) rfl (EvP.cons (v:=(.int .u64 4368137639120453308)) rfl (EvP.cons (v:=(.int .u64 4836135668995329356)) rfl (EvP.cons (v:=(.int .u64 5532061633213252278)) rfl (EvP.cons (v:=(.int .u64 6448918945643986474)) rfl (EvP.cons (v:=(.int .u64 6902733635092675308)) rfl (EvP.cons (v:=(.int .u64 7801388544844847127)) rfl EvP.nil)))))))))))))))))))))))))))))))))))))))))))))))))))))))))))))))))))))))))))))))) (by kernel_rfl) _) 0 ?_))
 refine ze0 0 hH rfl (.sw (cQs 80) (fun _=>0) K64) trivial ?_
 clear hH
 rintro _ _ w rfl hH
 refine zn (au (aH 1 (hH.blk 0 rfl) rfl rfl (by kernel_rfl) (Cod.size _ _) (by kernel_rfl) ?_))
 exact ⟨rfl,HH.toBelow hH⟩
def mzB (l:List UInt8) (z n k:Nat):List UInt8:=mzL l (z+min k 8)++be8 n (k - 8)
theorem w4 {l:List UInt8} {z n k:Nat} (h:k<8):mzB l z n k++[0]=mzB l z n (k+1):=by
 unfold mzB
 rw [show k - 8=0 by omega,show k+1 - 8=0 by omega,show min k 8=k by omega,show min (k+1) 8=k+1 by omega]
 show mzL l (z+k)++[]++[0]=mzL l (z+(k+1))++[]
 rw [List.append_nil,List.append_nil,j0]; rfl
theorem w5 {l:List UInt8} {z n k:Nat} (h:8≤k):mzB l z n k++[UInt8.ofNat (n / 2^(8*(15 - k)))]=mzB l z n (k+1):=by
 unfold mzB
 rw [show min k 8=8 by omega,show min (k+1) 8=8 by omega,show k+1 - 8=(k - 8)+1 by omega,List.append_assoc]
 unfold be8
 rw [ig,show 7 - (k - 8)=15 - k by omega]
theorem w6 (A:Option Addr) (n c:Nat) (l:List UInt8) (hb:n≤140737488350000):Does Tryz.prog 88 #[(.slice A n c),(.int .i64 128),(.int .i64 16)] [] (fun w=>Vu af w A n c l) (fun v E'=>OwnT af 5 v (pdN l) E'):=by
 refine dU Tryz.func88 Tryz.ntmps88 ?_
 intro w0 hH hR
 replace hH:HH w0 [] [] w0:=hH.only [false]
 have hn:=hR.len
 have hnb:=mg n
 refine zr (zv .mv 0 ?_)
 refine zn (zr (zm hH (fun _ hF=>l7 (e:=5) rfl (by kernel_rfl) (by kernel_rfl)) trivial 1 ?_))
 clear hH
 rintro _ _ w ⟨g1,rfl,rfl⟩ hH
 refine zv .mv 0 ?_
 refine ze 0 hH rfl (fun _ hF=>ck (C:=af) (l:=[]) (m:=l) (e:=5) (z:=(.int .u8 0)) (by_:=1) rfl (by kernel_rfl) (by kernel_rfl) rfl (ltb rfl) (hF.ev 1 rfl) ((Bk.lit0 (C:=af)).own 5 g1 rfl) (hF.ev 0 rfl) hn (fun h=>⟨by have:=hR.nil h; have:=hR.cap; omega,hR.nil h⟩) (by rw [List.length_nil]; unfold maxLen; omega) (by rw [List.length_nil]; omega)) (hH.vu hR (by decide) (Off.nil _ _)) 3 ?_
 clear hH
 rintro v4 E5 w ⟨hO6,_⟩ hH
 replace hO6:OwnT af 5 v4 l E5:=hO6
 obtain ⟨A2,c3,rfl⟩:=hO6.slice
 refine zv .mv 1 ?_
 refine zn (zr (zv .mv 1 ?_))
 refine zm hH (fun _ hF=>cz (e:=5) (sz:=1) (z:=(.int .u8 0)) (by_:=1) (cs:=af.enc 128) rfl (by kernel_rfl) (by kernel_rfl) rfl (af.len 128) (ltb rfl) (leb rfl) rfl) trivial 0 ?_
 clear hH
 rintro _ _ w ⟨g7,rfl,rfl⟩ hH
 refine ze 0 hH rfl (fun _ hF=>ck (C:=af) (l:=l) (m:=[128]) (e:=5) (z:=(.int .u8 0)) (by_:=1) rfl (by kernel_rfl) (by kernel_rfl) rfl (ltb rfl) (hF.ev 1 rfl) hO6 (hF.ev 0 rfl) rfl (fun h=>by cases h) (by unfold maxLen; omega) (by omega)) ((Bk.lit1 (C:=af) 128).vu (n:=1) (hH.blk 1 rfl) rfl) 3 ?_
 clear hH
 rintro v10 E11 w ⟨hO12,_⟩ hH
 replace hO12:OwnT af 5 v10 (l++[128]) E11:=hO12
 obtain ⟨A8,c9,rfl⟩:=hO12.slice
 refine zv .mv 1 ?_
 refine zn (ak (aj ?_))
 replace hH:HH w0 [] [E11] w:=hH.only [true]
 refine zL5 (fun (_:Nat) (A1:Option Addr) (c1:Nat) (L:List UInt8) (_:Hl)=>[(7,(.slice A1 L.length c1)),(2,(.int .i64 16)),(1,(.int .i64 128)),(0,(.slice A n c))]) (fun z A1 c1 L E1 w=>HH w0 [] [E1] w∧(OwnT af 5 (.slice A1 L.length c1) L E1)∧(L=mzL l z)∧(L.length=n+1+z)∧(n+1+z+16≤128*bR n)) (fun z _ _ _ _=>128*bR n - (n+1+z)) 0 A8 c9 (l++[128]) E11 ⟨hH,hO12,(by simp [mzL]),(by rw [List.length_append,hn]; rfl),(by omega)⟩ ?_
 clear hH
 rintro z A1 c1 L E1 w ⟨hH,hO,hL,hlen,hz⟩
 refine ak (zr (zv .mv 0 ?_))
 refine zv .len 1 ?_
 refine zv .mv 0 ?_
 refine zv (.add (((L.length+16):Nat):Int)) 3 ?_
 refine zv .mv 0 ?_
 refine zv (v:=(.int .i64 ((((L.length+16)%128):Nat):Int))) (fun _ _ hF=>bu (z:=(((L.length+16)%128:Nat):Int)) rfl (hF.ev 1 rfl) (hF.ev 0 rfl) (by omega) cy) 3 ?_
 refine zv (.ne ((L.length+16)%128≠0)) 1 ?_
 refine zn ?_
 refine zP (fun hc13 => ?_) (fun hc13 => ?_)
 refine av (ah (aj (aA (zv .mv 3 ?_))))
 refine zm hH (fun _ hF=>cz (e:=5) (sz:=1) (z:=(.int .u8 0)) (by_:=1) (cs:=af.enc 0) rfl (by kernel_rfl) (by kernel_rfl) rfl (af.len 0) (ltb rfl) (leb rfl) rfl) trivial 0 ?_
 clear hH
 rintro _ _ w ⟨g14,rfl,rfl⟩ hH
 refine ze 0 hH rfl (fun _ hF=>ck (C:=af) (l:=L) (m:=[0]) (e:=5) (z:=(.int .u8 0)) (by_:=1) rfl (by kernel_rfl) (by kernel_rfl) rfl (ltb rfl) (hF.ev 1 rfl) hO (hF.ev 0 rfl) rfl (fun h=>by cases h) (by unfold maxLen; omega) (by omega)) ((Bk.lit1 (C:=af) 0).vu (n:=1) (hH.blk 1 rfl) rfl) 3 ?_
 clear hH
 rintro v17 E18 w ⟨hO19,_⟩ hH
 replace hO19:OwnT af 5 v17 (L++[0]) E18:=hO19
 obtain ⟨A15,c16,rfl⟩:=hO19.slice
 refine zv .mv 1 ?_
 refine aD (aP ?_)
 replace hH:HH w0 [] [E18] w:=hH.only [true,false]
 exact zR5 (z+1) A15 c16 (L++[0]) E18 ⟨hH,hO19,(by rw [hL,j0]),(by rw [List.length_append,hlen]; show n+1+z+1=_; omega),(show n+1+(z+1)+16≤128*bR n from by omega)⟩ (by omega)
 refine aK (am (am (aS (ah ?_))))
 have hze:n+1+z+16=128*bR n:=by omega
 refine zr (zv .mv 25 ?_)
 refine zv .len 1 ?_
 refine zv (.cu .u64) 1 ?_
 refine zv (v:=(.int .u64 (((n*8):Nat):Int))) (fun _ _ hF=>iT (m:=n) (j:=8) (z:=(n*8)) rfl rfl (hF.ev 0 rfl) rfl (Nat.mod_eq_of_lt (by show _<18446744073709551616; omega))) 1 ?_
 refine zv .mv 1 ?_
 refine zn (ak (zr (zv .mv 4 ?_)))
 refine zv (v:=(.int .i64 15)) (fun _ _ hF=>jf rfl (hF.ev 0 rfl) rfl (by decide)) 1 ?_
 refine zv .mv 1 ?_
 refine zn (aj (zL5 (fun (k:Nat) (A1:Option Addr) (c1:Nat) (L:List UInt8) (_:Hl)=>[(9,(.int .i64 (15 - ((k:Nat):Int)))),(8,(.int .u64 (((n*8):Nat):Int))),(7,(.slice A1 L.length c1))]) (fun k A1 c1 L E1 w=>HH w0 [] [E1] w∧(OwnT af 5 (.slice A1 L.length c1) L E1)∧(L=mzB l z (n*8) k)∧(L.length=n+1+z+k)∧(k≤16)) (fun k _ _ _ _=>16 - k) 0 A1 c1 L E1 ⟨hH,hO,(by rw [hL]; simp [mzB,be8,lst]),hlen,(Nat.zero_le _)⟩ ?_))
 clear hH
 rintro k A1 c1 L E1 w ⟨hH,hO,hL2,hlen2,hk⟩
 refine ak (zr (zv .mv 0 ?_))
 refine zv (v:=(.bool (decide ((15 - ((k:Nat):Int)) ≥ 0)))) (fun _ _ hF=>fC rfl (hF.ev 0 rfl) rfl rfl) 1 ?_
 refine zn ?_
 refine zP (fun hc20 => ?_) (fun hc20 => ?_)
 refine av (ah (ak (aj (zr (zv .mv 1 ?_)))))
 refine zv (v:=(.bool (decide ((15 - ((k:Nat):Int)) ≥ 8)))) (fun _ _ hF=>fC rfl (hF.ev 0 rfl) rfl rfl) 1 ?_
 refine zn ?_
 refine zP (fun hc21 => ?_) (fun hc21 => ?_)
 refine aA (zv .mv 9 ?_)
 refine zm hH (fun _ hF=>cz (e:=5) (sz:=1) (z:=(.int .u8 0)) (by_:=1) (cs:=af.enc 0) rfl (by kernel_rfl) (by kernel_rfl) rfl (af.len 0) (ltb rfl) (leb rfl) rfl) trivial 0 ?_
 clear hH
 rintro _ _ w ⟨g22,rfl,rfl⟩ hH
 refine ze 0 hH rfl (fun _ hF=>ck (C:=af) (l:=L) (m:=[0]) (e:=5) (z:=(.int .u8 0)) (by_:=1) rfl (by kernel_rfl) (by kernel_rfl) rfl (ltb rfl) (hF.ev 1 rfl) hO (hF.ev 0 rfl) rfl (fun h=>by cases h) (by unfold maxLen; omega) (by omega)) ((Bk.lit1 (C:=af) 0).vu (n:=1) (hH.blk 1 rfl) rfl) 3 ?_
 clear hH
 rintro v25 E26 w ⟨hO27,_⟩ hH
 replace hO27:OwnT af 5 v25 (L++[0]) E26:=hO27
 obtain ⟨A23,c24,rfl⟩:=hO27.slice
 refine zv .mv 1 ?_
 refine aD (aP (ah (aA (zv .mv 2 ?_))))
 refine zv (.sub (15 - ((k+1:Nat):Int))) 1 ?_
 refine zv .mv 1 ?_
 refine aD ?_
 replace hH:HH w0 [] [E26] w:=hH.only [true,false]
 exact zR5 (k+1) A23 c24 (L++[0]) E26 ⟨hH,hO27,(by rw [hL2]; exact w4 (show k<8 by omega)),(by rw [List.length_append,hlen2]; show n+1+z+k+1=_; omega),(by omega)⟩ (by omega)
 refine aA (zv .mv 9 ?_)
 refine zv .mv 0 ?_
 refine zv .mv 0 ?_
 refine zv (.mul (((8*(15 - k)):Nat):Int)) 1 ?_
 refine zv (.cu .u64) 1 ?_
 refine zv (v:=(.int .u64 ((((n*8) / 2^(8*(15 - k))):Nat):Int))) (fun _ _ hF=>dy (n:=8*(15 - k)) (z:=((n*8) / 2^(8*(15 - k)))) rfl (hF.ev 1 rfl) (hF.ev 0 rfl) (by show _≤64; omega) (rfl)) 3 ?_
 refine zv .cb 1 ?_
 refine zm hH (fun _ hF=>cz (e:=5) (sz:=1) (z:=(.int .u8 0)) (by_:=1) (cs:=af.enc (UInt8.ofNat ((n*8) / 2^(8*(15 - k))))) rfl (by kernel_rfl) (by kernel_rfl) (hF.ev 0 rfl) (af.len (UInt8.ofNat ((n*8) / 2^(8*(15 - k))))) (ltb rfl) (leb rfl) rfl) trivial 1 ?_
 clear hH
 rintro _ _ w ⟨g28,rfl,rfl⟩ hH
 refine ze 0 hH rfl (fun _ hF=>ck (C:=af) (l:=L) (m:=[(UInt8.ofNat ((n*8) / 2^(8*(15 - k))))]) (e:=5) (z:=(.int .u8 0)) (by_:=1) rfl (by kernel_rfl) (by kernel_rfl) rfl (ltb rfl) (hF.ev 1 rfl) hO (hF.ev 0 rfl) rfl (fun h=>by cases h) (by unfold maxLen; omega) (by omega)) ((Bk.lit1 (C:=af) (UInt8.ofNat ((n*8) / 2^(8*(15 - k))))).vu (n:=1) (hH.blk 1 rfl) rfl) 3 ?_
 clear hH
 rintro v31 E32 w ⟨hO33,_⟩ hH
 replace hO33:OwnT af 5 v31 (L++[(UInt8.ofNat ((n*8) / 2^(8*(15 - k))))]) E32:=hO33
 obtain ⟨A29,c30,rfl⟩:=hO33.slice
 refine zv .mv 1 ?_
 refine aD (aP (ah (aA (zv .mv 2 ?_))))
 refine zv (.sub (15 - ((k+1:Nat):Int))) 1 ?_
 refine zv .mv 1 ?_
 refine aD ?_
 replace hH:HH w0 [] [E32] w:=hH.only [true,false]
 exact zR5 (k+1) A29 c30 (L++[(UInt8.ofNat ((n*8) / 2^(8*(15 - k))))]) E32 ⟨hH,hO33,(by rw [hL2]; exact w5 (show 8≤k by omega)),(by rw [List.length_append,hlen2]; show n+1+z+k+1=_; omega),(by omega)⟩ (by omega)
 refine aK (am (am (aS (ah (zr (zv .mv 15 ?_))))))
 refine zv .mv 1 ?_
 refine zn (au (aZ 0 rfl rfl ?_))
 obtain rfl:k=16:=by omega
 subst hn
 replace hL2:L=mzL l (z+8)++be8 (l.length*8) 8:=hL2
 rw [wZ hze] at hL2
 subst hL2
 exact ⟨_,_,rfl,hO,hH.out1 [true] rfl⟩
theorem w7 (A:Option Addr) (n c:Nat) (l:List UInt8) (hb:n≤140737488350000):Pure Tryz.prog 82 #[(.slice A n c)] (fun w=>Vu af w A n c l) ((ae 64).val (bM l)):=by
 refine pU Tryz.func82 Tryz.ntmps82 ?_
 intro w0 hH hR
 have hn:=hR.len
 have hnb:=mg n
 obtain ⟨F,hF⟩:∃ F,F=gx n fun j=>l.getD j 0:=⟨_,rfl⟩
 have hM:∀ j,j<128*bR n→(pdN l)[j]?=some (F j):=fun j hj=>by rw [hF]; subst hn; exact bs hj
 refine zr (zm hH (.al (ae 64) (fun _=>0)) trivial 0 ?_)
 clear hH
 rintro _ _ w ⟨g1,rfl,rfl⟩ hH
 refine zn (zr (zv (v:=((cQs 8).val H64)) (fun _ _ hF=>aG (cells:=(cQs 8).enc H64) (vals:=[(0,(.int .u64 7640891576956012808)),(1,(.int .u64 13503953896175478587)),(2,(.int .u64 4354685564936845355)),(3,(.int .u64 11912009170470909681)),(4,(.int .u64 5840696475078001361)),(5,(.int .u64 11170449401992604703)),(6,(.int .u64 2270897969802886507)),(7,(.int .u64 6620516959819538809))]) rfl (EvP.cons (v:=(.int .u64 7640891576956012808)) rfl (EvP.cons (v:=(.int .u64 13503953896175478587)) rfl (EvP.cons (v:=(.int .u64 4354685564936845355)) rfl (EvP.cons (v:=(.int .u64 11912009170470909681)) rfl (EvP.cons (v:=(.int .u64 5840696475078001361)) rfl (EvP.cons (v:=(.int .u64 11170449401992604703)) rfl (EvP.cons (v:=(.int .u64 2270897969802886507)) rfl (EvP.cons (v:=(.int .u64 6620516959819538809)) rfl EvP.nil)))))))) (by kernel_rfl) _) 0 ?_))
 refine zm hH (.al (cQs 8) (fun _=>0)) trivial 0 ?_
 clear hH
 rintro _ _ w ⟨g2,rfl,rfl⟩ hH
 refine ze0 1 hH rfl (.sw (cQs 8) (fun _=>0) H64) trivial ?_
 clear hH
 rintro _ _ w rfl hH
 refine zn (zr (zc Tryz.func122 (BA ) trivial hH 2 ?_))
 clear hH
 intro w hH
 refine zm hH (.al (cQs 80) (fun _=>0)) trivial 0 ?_
 clear hH
 rintro _ _ w ⟨g3,rfl,rfl⟩ hH
 refine ze0 2 hH rfl (.sw (cQs 80) (fun _=>0) K64) trivial ?_
 clear hH
 rintro _ _ w rfl hH
 refine zn (zr (zv .mv 18 ?_))
 refine zm hH (.call Tryz.func88 ((w6 A n c l hb))) (hH.vu hR (by decide) (Off.nil _ _)) 1 ?_
 clear hH
 rintro v8 E4 w hO5 hH
 obtain ⟨A6,c7,rfl⟩:=hO5.slice
 refine zv .mv 1 ?_
 refine zn (ak ?_)
 have hlM:=pY l
 rw [hn] at hlM
 obtain ⟨g10,cap11,cur12,hv14,rfl,hB13⟩:=hO5.open (by omega)
 obtain ⟨rfl,rfl⟩:A6=some ⟨g10,0,none⟩∧c7=cap11:=by injection hv14 with h1 h2 h3; exact ⟨h1,h3⟩
 have:=hB13.le
 have he15:(cQs 8).enc (aJ F 0)=(cQs 8).enc H64:=aO (fun _ _=>rfl)
 replace hH:HH w0 [] [[bl g1 93 ((ae 64).enc (fun _=>0))],[bl g2 141 ((cQs 8).enc (aJ F 0))],[bl g3 159 ((cQs 80).enc K64)],[bl g10 5 cur12]] w:=by rw [he15]; exact hH
 refine zr (zv .mv 0 ?_)
 refine zn (aj (zL1 (fun (i:Nat)=>[(6,(.int .i64 (((128*i):Nat):Int))),(5,(.slice (some ⟨g10,0,none⟩) ((pdN l).length) c7)),(4,(.pointer (some ⟨g3,0,none⟩))),(3,(.pointer (some ⟨g2,0,none⟩))),(2,(.pointer (some ⟨g1,0,none⟩)))]) (fun i w=>HH w0 [] [[bl g1 93 ((ae 64).enc (fun _=>0))],[bl g2 141 ((cQs 8).enc (aJ F i))],[bl g3 159 ((cQs 80).enc K64)],[bl g10 5 cur12]] w∧(i≤bR n)) (fun i=>bR n - i) 0 ⟨hH,(Nat.zero_le _)⟩ ?_))
 clear hH
 rintro i w ⟨hH,hi⟩
 refine ak (zr (zv .mv 0 ?_))
 refine zv .mv 0 ?_
 refine zv .len 1 ?_
 refine zv (.lt (128*i<(pdN l).length)) 3 ?_
 refine zn ?_
 refine zP (fun hc16 => ?_) (fun hc16 => ?_)
 refine av (ah (ak (aj (zr (zm hH (.al (cQs 80) (fun _=>0)) trivial 1 ?_)))))
 clear hH
 rintro _ _ w ⟨g17,rfl,rfl⟩ hH
 refine zn (ak ?_)
 have he18:(cQs 80).enc (aU (aE F i) (8*0))=(cQs 80).enc (fun _=>0):=aO (fun _ _=>by rw [lh])
 replace hH:HH w0 [] [[bl g1 93 ((ae 64).enc (fun _=>0))],[bl g2 141 ((cQs 8).enc (aJ F i))],[bl g3 159 ((cQs 80).enc K64)],[bl g10 5 cur12],[bl g17 159 ((cQs 80).enc (aU (aE F i) (8*0)))]] w:=by rw [he18]; exact hH
 refine zr (zv .mv 0 ?_)
 refine zn (aj (zL1 (fun (q:Nat)=>[(32,(.int .i64 q)),(7,(.pointer (some ⟨g17,0,none⟩))),(6,(.int .i64 (((128*i):Nat):Int))),(5,(.slice (some ⟨g10,0,none⟩) ((pdN l).length) c7)),(4,(.pointer (some ⟨g3,0,none⟩))),(3,(.pointer (some ⟨g2,0,none⟩))),(2,(.pointer (some ⟨g1,0,none⟩)))]) (fun q w=>HH w0 [] [[bl g1 93 ((ae 64).enc (fun _=>0))],[bl g2 141 ((cQs 8).enc (aJ F i))],[bl g3 159 ((cQs 80).enc K64)],[bl g10 5 cur12],[bl g17 159 ((cQs 80).enc (aU (aE F i) (8*q)))]] w∧(q≤16)) (fun q=>16 - q) 0 ⟨hH,(Nat.zero_le _)⟩ ?_))
 clear hH
 rintro q w ⟨hH,hq⟩
 refine zr (zv (.lt (q<16)) 0 ?_)
 refine zn (ak ?_)
 refine zP (fun hc19 => ?_) (fun hc19 => ?_)
 refine av (ah (ak (aj (zr (zv .mv 1 ?_)))))
 refine zv .mv 1 ?_
 refine zn ?_
 have he20:(cQs 80).enc (aU (aE F i) (8*q+0))=(cQs 80).enc (aU (aE F i) (8*q)):=aO (fun _ _=>rfl)
 replace hH:HH w0 [] [[bl g1 93 ((ae 64).enc (fun _=>0))],[bl g2 141 ((cQs 8).enc (aJ F i))],[bl g3 159 ((cQs 80).enc K64)],[bl g10 5 cur12],[bl g17 159 ((cQs 80).enc (aU (aE F i) (8*q+0)))]] w:=by rw [he20]; exact hH
 refine zr (zv .mv 0 ?_)
 refine zn (aj (zL1 (fun (r:Nat)=>[(35,(.int .i64 r)),(32,(.int .i64 q)),(8,(.int .i64 q)),(7,(.pointer (some ⟨g17,0,none⟩))),(6,(.int .i64 (((128*i):Nat):Int))),(5,(.slice (some ⟨g10,0,none⟩) ((pdN l).length) c7)),(4,(.pointer (some ⟨g3,0,none⟩))),(3,(.pointer (some ⟨g2,0,none⟩))),(2,(.pointer (some ⟨g1,0,none⟩)))]) (fun r w=>HH w0 [] [[bl g1 93 ((ae 64).enc (fun _=>0))],[bl g2 141 ((cQs 8).enc (aJ F i))],[bl g3 159 ((cQs 80).enc K64)],[bl g10 5 cur12],[bl g17 159 ((cQs 80).enc (aU (aE F i) (8*q+r)))]] w∧(r≤8)) (fun r=>8 - r) 0 ⟨hH,(Nat.zero_le _)⟩ ?_))
 clear hH
 rintro r w ⟨hH,hr⟩
 refine zr (zv (.lt (r<8)) 0 ?_)
 refine zn (ak ?_)
 refine zP (fun hc21 => ?_) (fun hc21 => ?_)
 refine av (ah (ak (aj (zr (zv .mv 1 ?_)))))
 refine zv .mv 1 ?_
 refine zn ?_
 have hx0:(pdN l)[128*i+8*q+r]?=some ((aE F i) (8*q+r)):=by rw [Nat.add_assoc]; exact hM _ (by omega)
 refine bv mixedOrders (by kernel_rfl) ?_
 replace hH:=hH.drew
 refine rv 0 .mv 0 ?_
 refine rv 1 .mv 0 ?_
 have hi22:q<80:=by omega
 refine rv 2 (.ia 1 80 q (hi:=hi22)) 1 ?_
 refine rld 3 (hH.q 4 rfl) (.ld cWq ((aU (aE F i) (8*q+r)) q) (fun _ hS=>((ac hS).eltV hi22))) 1 ?_
 refine rv 4 (.lq 8) 1 ?_
 refine rv 5 .mv 0 ?_
 refine rv 6 .mv 0 ?_
 refine rv 7 .mv 0 ?_
 refine rv 8 (.mul ((8*q:Nat):Int)) 1 ?_
 refine rv 9 (.add (((128*i+8*q):Nat):Int)) 3 ?_
 refine rv 10 .mv 16 ?_
 refine rv 11 (.add (((128*i+8*q+r):Nat):Int)) 3 ?_
 have hi23:128*i+8*q+r<(pdN l).length:=by omega
 have hj26:128*i+8*q+r<(pdN l).length:=by omega
 refine rv 12 (.ix 1 (128*i+8*q+r) (hi:=hi23)) 3 ?_
 refine rld 13 (hH.q 3 rfl) (.ld af ((aE F i) (8*q+r)) (fun _ hS=>((hB13.holdsL hS) (128*i+8*q+r) _ hx0))) 1 ?_
 refine rv 14 (v:=(.int .u64 ((((UInt64.ofNat ((aE F i) (8*q+r)).toNat).toNat):Nat):Int))) (fun _ _ hF=>pW (z:=UInt64.ofNat ((aE F i) (8*q+r)).toNat) rfl rfl (by kernel_rfl) (hF.ev 0 rfl) rfl) 1 ?_
 refine rv 15 (.oq (aU (aE F i) ((8*q+r)+1) q) (hz:=lg (aE F i) (8*q+r) q (by omega))) 3 ?_
 have hi27:q<80:=by omega
 refine rv 16 (.ia 1 80 q (hi:=hi27)) 2 ?_
 refine rx1k 17 ?_
 refine re0 17 4 hH rfl (.st cWq (aU (aE F i) ((8*q+r)+1) q) (aW (S:=sWq) (C:=(cQs 80)) rfl hi27) (bB (aU (aE F i) (8*q+r)) (aU (aE F i) ((8*q+r)+1) q) hi27)) trivial (pgo [] (pgo [] (.nil _ []))) ?_
 clear hH
 rintro _ _ w rfl hH
 refine ⟨an,cg (by kernel_rfl) ?_⟩
 refine aP (ah (aA (zv (.add ((r+1:Nat):Int)) 7 ?_)))
 refine zv .mv 1 ?_
 refine aD ?_
 have he28:(cQs 80).enc (aU (aE F i) (8*q+(r+1)))=(cQs 80).enc (stF (aU (aE F i) (8*q+r)) q (aU (aE F i) ((8*q+r)+1) q)):=aO (fun j _=>(congrFun (nj (aE F i) (8*q+r) q _ (by omega) rfl) j).symm)
 replace hH:HH w0 [] [[bl g1 93 ((ae 64).enc (fun _=>0))],[bl g2 141 ((cQs 8).enc (aJ F i))],[bl g3 159 ((cQs 80).enc K64)],[bl g10 5 cur12],[bl g17 159 ((cQs 80).enc (aU (aE F i) (8*q+(r+1))))]] w:=by rw [he28]; exact hH
 exact zR1 (r+1) ⟨hH,(by omega)⟩ (by omega)
 refine aK (am (am (aS (aP (ah (aA (zv (.add ((q+1:Nat):Int)) 15 ?_)))))))
 refine zv .mv 1 ?_
 refine aD ?_
 obtain rfl:r=8:=by omega
 have he29:(cQs 80).enc (aU (aE F i) (8*(q+1)))=(cQs 80).enc (aU (aE F i) (8*q+8)):=aO (fun _ _=>by rw [show 8*(q+1)=8*q+8 by omega])
 replace hH:HH w0 [] [[bl g1 93 ((ae 64).enc (fun _=>0))],[bl g2 141 ((cQs 8).enc (aJ F i))],[bl g3 159 ((cQs 80).enc K64)],[bl g10 5 cur12],[bl g17 159 ((cQs 80).enc (aU (aE F i) (8*(q+1))))]] w:=by rw [he29]; exact hH
 exact zR1 (q+1) ⟨hH,(by omega)⟩ (by omega)
 refine aK (am (am (aS (ah (ak ?_)))))
 obtain rfl:q=16:=by omega
 have he30:(cQs 80).enc (upF 16 (W64 (aE F i)) (aU (aE F i) 128))=(cQs 80).enc (aU (aE F i) (8*16)):=aO (fun _ _=>by rw [li])
 replace hH:HH w0 [] [[bl g1 93 ((ae 64).enc (fun _=>0))],[bl g2 141 ((cQs 8).enc (aJ F i))],[bl g3 159 ((cQs 80).enc K64)],[bl g10 5 cur12],[bl g17 159 ((cQs 80).enc (upF 16 (W64 (aE F i)) (aU (aE F i) 128)))]] w:=by rw [he30]; exact hH
 refine zr (zv .mv 3 ?_)
 refine zn (aj (zL1 (fun (t:Nat)=>[(10,(.int .i64 t)),(7,(.pointer (some ⟨g17,0,none⟩))),(6,(.int .i64 (((128*i):Nat):Int))),(5,(.slice (some ⟨g10,0,none⟩) ((pdN l).length) c7)),(4,(.pointer (some ⟨g3,0,none⟩))),(3,(.pointer (some ⟨g2,0,none⟩))),(2,(.pointer (some ⟨g1,0,none⟩)))]) (fun t w=>HH w0 [] [[bl g1 93 ((ae 64).enc (fun _=>0))],[bl g2 141 ((cQs 8).enc (aJ F i))],[bl g3 159 ((cQs 80).enc K64)],[bl g10 5 cur12],[bl g17 159 ((cQs 80).enc (upF t (W64 (aE F i)) (aU (aE F i) 128)))]] w∧(16≤t)∧(t≤80)) (fun t=>80 - t) 16 ⟨hH,(Nat.le_refl _),(by decide)⟩ ?_))
 clear hH
 rintro t w ⟨hH,ht,ht2⟩
 refine ak (zr (zv .mv 0 ?_))
 refine zv (.lt (t<80)) 1 ?_
 refine zn ?_
 refine zP (fun hc31 => ?_) (fun hc31 => ?_)
 refine av (ah (ak (aj (zx ?_))))
 replace hH:=hH.drew
 refine rv 0 .mv 1 ?_
 refine rv 1 (.sub (((t - 2):Nat):Int)) 1 ?_
 have hi32:t - 2<80:=by omega
 refine rv 2 (.ia 1 80 (t - 2) (hi:=hi32)) 1 ?_
 refine rld 3 (hH.q 4 rfl) (.ld cWq ((upF t (W64 (aE F i)) (aU (aE F i) 128)) (t - 2)) (fun _ hS=>((ac hS).eltV hi32))) 1 ?_
 refine rv 5 .mv 0 ?_
 refine rv 6 (.sub (((t - 2):Nat):Int)) 1 ?_
 have hi33:t - 2<80:=by omega
 refine rv 7 (.ia 1 80 (t - 2) (hi:=hi33)) 1 ?_
 refine rld 8 (hH.q 4 rfl) (.ld cWq ((upF t (W64 (aE F i)) (aU (aE F i) 128)) (t - 2)) (fun _ hS=>((ac hS).eltV hi33))) 1 ?_
 refine rv 11 .mv 0 ?_
 refine rv 12 (.sub (((t - 2):Nat):Int)) 1 ?_
 have hi34:t - 2<80:=by omega
 refine rv 13 (.ia 1 80 (t - 2) (hi:=hi34)) 1 ?_
 refine rld 14 (hH.q 4 rfl) (.ld cWq ((upF t (W64 (aE F i)) (aU (aE F i) 128)) (t - 2)) (fun _ hS=>((ac hS).eltV hi34))) 1 ?_
 refine rv 15 (.rq 6) 1 ?_
 refine rx1k 4 (rpc 4 Tryz.func123 (d9 ((upF t (W64 (aE F i)) (aU (aE F i) 128)) (t - 2)) 19 (ltb rfl) (ltb rfl)) trivial hH 4 (.keep (.keep (pgo [] (.nil _ [])))) ?_)
 clear hH
 intro w hH
 refine ⟨pcons (hH.blk 4 rfl) (pcons (hH.blk 4 rfl) an),?_⟩
 refine rx1k 9 (rpc 9 Tryz.func123 (d9 ((upF t (W64 (aE F i)) (aU (aE F i) 128)) (t - 2)) 61 (ltb rfl) (ltb rfl)) trivial hH 4 (.keep (pgo [] (.nil _ []))) ?_)
 clear hH
 intro w hH
 refine ⟨pcons (hH.blk 4 rfl) an,?_⟩
 refine rv 10 (.xq (cK (cL ((upF t (W64 (aE F i)) (aU (aE F i) 128)) (t - 2)) 19) (cL ((upF t (W64 (aE F i)) (aU (aE F i) 128)) (t - 2)) 61))) 3 ?_
 refine rv 16 (.xq (cH (upF t (W64 (aE F i)) (aU (aE F i) 128) (t - 2)))) 3 ?_
 refine rv 17 .mv 1 ?_
 refine rn ?_
 refine zx ?_
 replace hH:=hH.drew
 refine rv 0 .mv 0 ?_
 refine rv 1 (.sub (((t - 15):Nat):Int)) 1 ?_
 have hi35:t - 15<80:=by omega
 refine rv 2 (.ia 1 80 (t - 15) (hi:=hi35)) 1 ?_
 refine rld 3 (hH.q 4 rfl) (.ld cWq ((upF t (W64 (aE F i)) (aU (aE F i) 128)) (t - 15)) (fun _ hS=>((ac hS).eltV hi35))) 1 ?_
 refine rv 5 .mv 0 ?_
 refine rv 6 (.sub (((t - 15):Nat):Int)) 1 ?_
 have hi36:t - 15<80:=by omega
 refine rv 7 (.ia 1 80 (t - 15) (hi:=hi36)) 1 ?_
 refine rld 8 (hH.q 4 rfl) (.ld cWq ((upF t (W64 (aE F i)) (aU (aE F i) 128)) (t - 15)) (fun _ hS=>((ac hS).eltV hi36))) 1 ?_
 refine rv 11 .mv 0 ?_
 refine rv 12 (.sub (((t - 15):Nat):Int)) 1 ?_
 have hi37:t - 15<80:=by omega
 refine rv 13 (.ia 1 80 (t - 15) (hi:=hi37)) 1 ?_
 refine rld 14 (hH.q 4 rfl) (.ld cWq ((upF t (W64 (aE F i)) (aU (aE F i) 128)) (t - 15)) (fun _ hS=>((ac hS).eltV hi37))) 1 ?_
 refine rv 15 (.rq 7) 1 ?_
 refine rx1k 4 (rpc 4 Tryz.func123 (d9 ((upF t (W64 (aE F i)) (aU (aE F i) 128)) (t - 15)) 1 (ltb rfl) (ltb rfl)) trivial hH 4 (.keep (.keep (pgo [] (.nil _ [])))) ?_)
 clear hH
 intro w hH
 refine ⟨pcons (hH.blk 4 rfl) (pcons (hH.blk 4 rfl) an),?_⟩
 refine rx1k 9 (rpc 9 Tryz.func123 (d9 ((upF t (W64 (aE F i)) (aU (aE F i) 128)) (t - 15)) 8 (ltb rfl) (ltb rfl)) trivial hH 4 (.keep (pgo [] (.nil _ []))) ?_)
 clear hH
 intro w hH
 refine ⟨pcons (hH.blk 4 rfl) an,?_⟩
 refine rv 10 (.xq (cK (cL ((upF t (W64 (aE F i)) (aU (aE F i) 128)) (t - 15)) 1) (cL ((upF t (W64 (aE F i)) (aU (aE F i) 128)) (t - 15)) 8))) 3 ?_
 refine rv 16 (.xq (cZ (upF t (W64 (aE F i)) (aU (aE F i) 128) (t - 15)))) 3 ?_
 refine rv 17 .mv 1 ?_
 refine rn ?_
 refine bv mixedOrders (by kernel_rfl) ?_
 replace hH:=hH.drew
 refine rv 0 .mv 0 ?_
 refine rv 1 .mv 4 ?_
 refine rv 2 .mv 0 ?_
 refine rv 3 (.sub (((t - 7):Nat):Int)) 1 ?_
 have hi38:t - 7<80:=by omega
 refine rv 4 (.ia 1 80 (t - 7) (hi:=hi38)) 1 ?_
 refine rld 5 (hH.q 4 rfl) (.ld cWq ((upF t (W64 (aE F i)) (aU (aE F i) 128)) (t - 7)) (fun _ hS=>((ac hS).eltV hi38))) 1 ?_
 refine rv 6 (.aq (bh (cH (upF t (W64 (aE F i)) (aU (aE F i) 128) (t - 2))) ((upF t (W64 (aE F i)) (aU (aE F i) 128)) (t - 7)))) 3 ?_
 refine rv 7 .mv 4 ?_
 refine rv 8 (.aq (bh (bh (cH (upF t (W64 (aE F i)) (aU (aE F i) 128) (t - 2))) (upF t (W64 (aE F i)) (aU (aE F i) 128) (t - 7))) (cZ (upF t (W64 (aE F i)) (aU (aE F i) 128) (t - 15))))) 3 ?_
 refine rv 9 .mv 0 ?_
 refine rv 10 (.sub (((t - 16):Nat):Int)) 1 ?_
 have hi39:t - 16<80:=by omega
 refine rv 11 (.ia 1 80 (t - 16) (hi:=hi39)) 1 ?_
 refine rld 12 (hH.q 4 rfl) (.ld cWq ((upF t (W64 (aE F i)) (aU (aE F i) 128)) (t - 16)) (fun _ hS=>((ac hS).eltV hi39))) 1 ?_
 refine rv 13 (.aq (bh (bh (bh (cH (upF t (W64 (aE F i)) (aU (aE F i) 128) (t - 2))) (upF t (W64 (aE F i)) (aU (aE F i) 128) (t - 7))) (cZ (upF t (W64 (aE F i)) (aU (aE F i) 128) (t - 15)))) ((upF t (W64 (aE F i)) (aU (aE F i) 128)) (t - 16)))) 3 ?_
 have hi40:t<80:=by omega
 refine rv 14 (.ia 1 80 t (hi:=hi40)) 2 ?_
 refine rx1k 15 ?_
 refine re0 15 4 hH rfl (.st cWq (bh (bh (bh (cH (upF t (W64 (aE F i)) (aU (aE F i) 128) (t - 2))) (upF t (W64 (aE F i)) (aU (aE F i) 128) (t - 7))) (cZ (upF t (W64 (aE F i)) (aU (aE F i) 128) (t - 15)))) ((upF t (W64 (aE F i)) (aU (aE F i) 128)) (t - 16))) (aW (S:=sWq) (C:=(cQs 80)) rfl hi40) (bB (upF t (W64 (aE F i)) (aU (aE F i) 128)) (bh (bh (bh (cH (upF t (W64 (aE F i)) (aU (aE F i) 128) (t - 2))) (upF t (W64 (aE F i)) (aU (aE F i) 128) (t - 7))) (cZ (upF t (W64 (aE F i)) (aU (aE F i) 128) (t - 15)))) ((upF t (W64 (aE F i)) (aU (aE F i) 128)) (t - 16))) hi40)) trivial (pgo [] (pgo [] (.nil _ []))) ?_
 clear hH
 rintro _ _ w rfl hH
 refine ⟨an,cg (by kernel_rfl) ?_⟩
 refine aP (ah (aA (zv .mv 7 ?_)))
 refine zv (.add ((t+1:Nat):Int)) 1 ?_
 refine zv .mv 1 ?_
 refine aD ?_
 have he41:(cQs 80).enc (upF (t+1) (W64 (aE F i)) (aU (aE F i) 128))=(cQs 80).enc (stF (upF t (W64 (aE F i)) (aU (aE F i) 128)) t (bh (bh (bh (cH (upF t (W64 (aE F i)) (aU (aE F i) 128) (t - 2))) (upF t (W64 (aE F i)) (aU (aE F i) 128) (t - 7))) (cZ (upF t (W64 (aE F i)) (aU (aE F i) 128) (t - 15)))) ((upF t (W64 (aE F i)) (aU (aE F i) 128)) (t - 16)))):=aO (fun j _=>(congrFun (bn t (W64 (aE F i)) (aU (aE F i) 128) (nm ht)) j).symm)
 replace hH:HH w0 [] [[bl g1 93 ((ae 64).enc (fun _=>0))],[bl g2 141 ((cQs 8).enc (aJ F i))],[bl g3 159 ((cQs 80).enc K64)],[bl g10 5 cur12],[bl g17 159 ((cQs 80).enc (upF (t+1) (W64 (aE F i)) (aU (aE F i) 128)))]] w:=by rw [he41]; exact hH
 exact zR1 (t+1) ⟨hH,(by omega),(by omega)⟩ (by omega)
 refine aK (am (am (aS (ah ?_))))
 obtain rfl:t=80:=by omega
 have he42:(cQs 80).enc (W64 (aE F i))=(cQs 80).enc (upF 80 (W64 (aE F i)) (aU (aE F i) 128)):=aO (fun j hj=>(bA _ _ hj).symm)
 replace hH:HH w0 [] [[bl g1 93 ((ae 64).enc (fun _=>0))],[bl g2 141 ((cQs 8).enc (aJ F i))],[bl g3 159 ((cQs 80).enc K64)],[bl g10 5 cur12],[bl g17 159 ((cQs 80).enc (W64 (aE F i)))]] w:=by rw [he42]; exact hH
 refine zr (zs (hH.q 1 rfl) (.ld (cQs 8) (aJ F i) (fun _=>ac)) 3 ?_)
 refine zm hH (.al (cQs 8) (fun _=>0)) trivial 0 ?_
 clear hH
 rintro _ _ w ⟨g43,rfl,rfl⟩ hH
 refine ze0 5 hH rfl (.sw (cQs 8) (fun _=>0) (aJ F i)) trivial ?_
 clear hH
 rintro _ _ w rfl hH
 refine zn (ak ?_)
 have he44:(cQs 8).enc (ar (aE F i) (aJ F i) 0)=(cQs 8).enc (aJ F i):=aO (fun _ _=>rfl)
 replace hH:HH w0 [] [[bl g1 93 ((ae 64).enc (fun _=>0))],[bl g2 141 ((cQs 8).enc (aJ F i))],[bl g3 159 ((cQs 80).enc K64)],[bl g10 5 cur12],[bl g17 159 ((cQs 80).enc (W64 (aE F i)))],[bl g43 141 ((cQs 8).enc (ar (aE F i) (aJ F i) 0))]] w:=by rw [he44]; exact hH
 refine zr (zv .mv 2 ?_)
 refine zn (aj (zL1 (fun (q:Nat)=>[(111,(.int .i64 q)),(13,(.pointer (some ⟨g43,0,none⟩))),(7,(.pointer (some ⟨g17,0,none⟩))),(6,(.int .i64 (((128*i):Nat):Int))),(5,(.slice (some ⟨g10,0,none⟩) ((pdN l).length) c7)),(4,(.pointer (some ⟨g3,0,none⟩))),(3,(.pointer (some ⟨g2,0,none⟩))),(2,(.pointer (some ⟨g1,0,none⟩)))]) (fun q w=>HH w0 [] [[bl g1 93 ((ae 64).enc (fun _=>0))],[bl g2 141 ((cQs 8).enc (aJ F i))],[bl g3 159 ((cQs 80).enc K64)],[bl g10 5 cur12],[bl g17 159 ((cQs 80).enc (W64 (aE F i)))],[bl g43 141 ((cQs 8).enc (ar (aE F i) (aJ F i) q))]] w∧(q≤80)) (fun q=>80 - q) 0 ⟨hH,(Nat.zero_le _)⟩ ?_))
 clear hH
 rintro q w ⟨hH,hq⟩
 refine zr (zv (.lt (q<80)) 0 ?_)
 refine zn (ak ?_)
 refine zP (fun hc45 => ?_) (fun hc45 => ?_)
 refine av (ah (ak (aj (zr (zv .mv 1 ?_)))))
 refine zv .mv 1 ?_
 refine zn (zx ?_)
 replace hH:=hH.drew
 have hi46:4<8:=by omega
 refine rv 0 (.ia 1 8 4 (hi:=hi46)) 0 ?_
 refine rld 1 (hH.q 5 rfl) (.ld cWq ((ar (aE F i) (aJ F i) q) 4) (fun _ hS=>((ac hS).eltV hi46))) 1 ?_
 have hi47:0<8:=by omega
 refine rv 2 (.ia 1 8 0 (hi:=hi47)) 0 ?_
 refine rld 3 (hH.q 5 rfl) (.ld cWq ((ar (aE F i) (aJ F i) q) 0) (fun _ hS=>((ac hS).eltV hi47))) 1 ?_
 refine rv 4 .mv 2 ?_
 refine rv 5 .mv 2 ?_
 refine rn ?_
 refine zx ?_
 replace hH:=hH.drew
 have hi48:7<8:=by omega
 refine rv 0 (.ia 1 8 7 (hi:=hi48)) 0 ?_
 refine rld 1 (hH.q 5 rfl) (.ld cWq ((ar (aE F i) (aJ F i) q) 7) (fun _ hS=>((ac hS).eltV hi48))) 1 ?_
 refine rv 2 .mv 0 ?_
 refine rv 4 .mv 0 ?_
 refine rv 7 .mv 0 ?_
 refine rv 11 .mv 0 ?_
 have hi49:5<8:=by omega
 refine rv 12 (.ia 1 8 5 (hi:=hi49)) 0 ?_
 refine rld 13 (hH.q 5 rfl) (.ld cWq ((ar (aE F i) (aJ F i) q) 5) (fun _ hS=>((ac hS).eltV hi49))) 1 ?_
 refine rv 14 (.nq (bI ((ar (aE F i) (aJ F i) q) 4) ((ar (aE F i) (aJ F i) q) 5))) 3 ?_
 refine rv 15 .mv 64 ?_
 refine rv 16 .cq 1 ?_
 have hi50:6<8:=by omega
 refine rv 17 (.ia 1 8 6 (hi:=hi50)) 0 ?_
 refine rld 18 (hH.q 5 rfl) (.ld cWq ((ar (aE F i) (aJ F i) q) 6) (fun _ hS=>((ac hS).eltV hi50))) 1 ?_
 refine rv 19 (.nq (bI (ep ((ar (aE F i) (aJ F i) q) 4)) ((ar (aE F i) (aJ F i) q) 6))) 3 ?_
 refine rv 20 (.xq (vl (ar (aE F i) (aJ F i) q 4) (ar (aE F i) (aJ F i) q 5) (ar (aE F i) (aJ F i) q 6))) 3 ?_
 refine rv 22 .mv 0 ?_
 have hi51:q<80:=by omega
 refine rv 23 (.ia 1 80 q (hi:=hi51)) 1 ?_
 refine rld 24 (hH.q 2 rfl) (.ld cWq (K64 q) (fun _ hS=>((ac hS).eltV hi51))) 1 ?_
 refine rv 26 .mv 128 ?_
 have hi52:q<80:=by omega
 refine rv 27 (.ia 1 80 q (hi:=hi52)) 1 ?_
 refine rld 28 (hH.q 4 rfl) (.ld cWq ((W64 (aE F i)) q) (fun _ hS=>((ac hS).eltV hi52))) 1 ?_
 refine rx1k 3 (rpc 3 Tryz.func123 (d9 ((ar (aE F i) (aJ F i) q) 4) 14 (ltb rfl) (ltb rfl)) trivial hH 32 (.keep (.keep (.keep (.keep (.keep (.nil _ [])))))) ?_)
 clear hH
 intro w hH
 refine ⟨pcons (hH.blk 4 rfl) (pcons (hH.blk 2 rfl) (pcons (hH.blk 5 rfl) (pcons (hH.blk 5 rfl) (pcons (hH.blk 5 rfl) an)))),?_⟩
 refine rx1k 5 (rpc 5 Tryz.func123 (d9 ((ar (aE F i) (aJ F i) q) 4) 18 (ltb rfl) (ltb rfl)) trivial hH 32 (.keep (.keep (.keep (.keep (.keep (.nil _ [])))))) ?_)
 clear hH
 intro w hH
 refine ⟨pcons (hH.blk 4 rfl) (pcons (hH.blk 2 rfl) (pcons (hH.blk 5 rfl) (pcons (hH.blk 5 rfl) (pcons (hH.blk 5 rfl) an)))),?_⟩
 refine rv 6 (.xq (cK (cL ((ar (aE F i) (aJ F i) q) 4) 14) (cL ((ar (aE F i) (aJ F i) q) 4) 18))) 3 ?_
 refine rx1k 8 (rpc 8 Tryz.func123 (d9 ((ar (aE F i) (aJ F i) q) 4) 41 (ltb rfl) (ltb rfl)) trivial hH 16 (.keep (.keep (.keep (.keep (.keep (.nil _ [])))))) ?_)
 clear hH
 intro w hH
 refine ⟨pcons (hH.blk 4 rfl) (pcons (hH.blk 2 rfl) (pcons (hH.blk 5 rfl) (pcons (hH.blk 5 rfl) (pcons (hH.blk 5 rfl) an)))),?_⟩
 refine rv 9 (.xq (dv (ar (aE F i) (aJ F i) q 4))) 3 ?_
 refine rv 10 (.aq (bh ((ar (aE F i) (aJ F i) q) 7) (dv (ar (aE F i) (aJ F i) q 4)))) 17 ?_
 refine rv 21 (.aq (bh (bh ((ar (aE F i) (aJ F i) q) 7) (dv (ar (aE F i) (aJ F i) q 4))) (vl (ar (aE F i) (aJ F i) q 4) (ar (aE F i) (aJ F i) q 5) (ar (aE F i) (aJ F i) q 6)))) 9 ?_
 refine rv 25 (.aq (bh (bh (bh ((ar (aE F i) (aJ F i) q) 7) (dv (ar (aE F i) (aJ F i) q 4))) (vl (ar (aE F i) (aJ F i) q 4) (ar (aE F i) (aJ F i) q 5) (ar (aE F i) (aJ F i) q 6))) (K64 q))) 5 ?_
 refine rv 29 (.aq (gv (W64 (aE F i) q) q (ar (aE F i) (aJ F i) q))) 3 ?_
 refine rv 30 .mv 1 ?_
 refine rn ?_
 refine zx ?_
 replace hH:=hH.drew
 refine rv 0 .mv 0 ?_
 refine rv 2 .mv 0 ?_
 refine rv 5 .mv 0 ?_
 refine rv 8 .mv 0 ?_
 have hi53:1<8:=by omega
 refine rv 9 (.ia 1 8 1 (hi:=hi53)) 0 ?_
 refine rld 10 (hH.q 5 rfl) (.ld cWq ((ar (aE F i) (aJ F i) q) 1) (fun _ hS=>((ac hS).eltV hi53))) 1 ?_
 refine rv 11 (.nq (bI ((ar (aE F i) (aJ F i) q) 0) ((ar (aE F i) (aJ F i) q) 1))) 3 ?_
 refine rv 12 .mv 32 ?_
 have hi54:2<8:=by omega
 refine rv 13 (.ia 1 8 2 (hi:=hi54)) 0 ?_
 refine rld 14 (hH.q 5 rfl) (.ld cWq ((ar (aE F i) (aJ F i) q) 2) (fun _ hS=>((ac hS).eltV hi54))) 1 ?_
 refine rv 15 (.nq (bI ((ar (aE F i) (aJ F i) q) 0) ((ar (aE F i) (aJ F i) q) 2))) 3 ?_
 refine rv 16 (.xq (cK (bI ((ar (aE F i) (aJ F i) q) 0) ((ar (aE F i) (aJ F i) q) 1)) (bI ((ar (aE F i) (aJ F i) q) 0) ((ar (aE F i) (aJ F i) q) 2)))) 3 ?_
 have hi55:1<8:=by omega
 refine rv 17 (.ia 1 8 1 (hi:=hi55)) 0 ?_
 refine rld 18 (hH.q 5 rfl) (.ld cWq ((ar (aE F i) (aJ F i) q) 1) (fun _ hS=>((ac hS).eltV hi55))) 1 ?_
 have hi56:2<8:=by omega
 refine rv 19 (.ia 1 8 2 (hi:=hi56)) 0 ?_
 refine rld 20 (hH.q 5 rfl) (.ld cWq ((ar (aE F i) (aJ F i) q) 2) (fun _ hS=>((ac hS).eltV hi56))) 1 ?_
 refine rv 21 (.nq (bI ((ar (aE F i) (aJ F i) q) 1) ((ar (aE F i) (aJ F i) q) 2))) 3 ?_
 refine rv 22 (.xq (xp (ar (aE F i) (aJ F i) q 0) (ar (aE F i) (aJ F i) q 1) (ar (aE F i) (aJ F i) q 2))) 3 ?_
 refine rx1k 1 (rpc 1 Tryz.func123 (d9 ((ar (aE F i) (aJ F i) q) 0) 28 (ltb rfl) (ltb rfl)) trivial hH 8 (.keep (.keep (.keep (.keep (.nil _ []))))) ?_)
 clear hH
 intro w hH
 refine ⟨pcons (hH.blk 5 rfl) (pcons (hH.blk 5 rfl) (pcons (hH.blk 5 rfl) (pcons (hH.blk 5 rfl) an))),?_⟩
 refine rx1k 3 (rpc 3 Tryz.func123 (d9 ((ar (aE F i) (aJ F i) q) 0) 34 (ltb rfl) (ltb rfl)) trivial hH 8 (.keep (.keep (.keep (.keep (.nil _ []))))) ?_)
 clear hH
 intro w hH
 refine ⟨pcons (hH.blk 5 rfl) (pcons (hH.blk 5 rfl) (pcons (hH.blk 5 rfl) (pcons (hH.blk 5 rfl) an))),?_⟩
 refine rv 4 (.xq (cK (cL ((ar (aE F i) (aJ F i) q) 0) 28) (cL ((ar (aE F i) (aJ F i) q) 0) 34))) 3 ?_
 refine rx1k 6 (rpc 6 Tryz.func123 (d9 ((ar (aE F i) (aJ F i) q) 0) 39 (ltb rfl) (ltb rfl)) trivial hH 4 (.keep (.keep (.keep (.keep (.nil _ []))))) ?_)
 clear hH
 intro w hH
 refine ⟨pcons (hH.blk 5 rfl) (pcons (hH.blk 5 rfl) (pcons (hH.blk 5 rfl) (pcons (hH.blk 5 rfl) an))),?_⟩
 refine rv 7 (.xq (ii (ar (aE F i) (aJ F i) q 0))) 3 ?_
 refine rv 23 (.aq (lf (ar (aE F i) (aJ F i) q))) 3 ?_
 refine rv 24 .mv 1 ?_
 refine rn ?_
 refine aA (zv .mv 0 ?_)
 refine zv .mv 2 ?_
 refine zv (.aq (bh (gv (W64 (aE F i) q) q (ar (aE F i) (aJ F i) q)) (lf (ar (aE F i) (aJ F i) q)))) 3 ?_
 have hi57:0<8:=by omega
 refine zv (.ia 1 8 0 (hi:=hi57)) 0 ?_
 refine zs (hH.q 5 rfl) (.ld cWq ((ar (aE F i) (aJ F i) q) 0) (fun _ hS=>((ac hS).eltV hi57))) 1 ?_
 have hi58:1<8:=by omega
 refine zv (.ia 1 8 1 (hi:=hi58)) 0 ?_
 refine zs (hH.q 5 rfl) (.ld cWq ((ar (aE F i) (aJ F i) q) 1) (fun _ hS=>((ac hS).eltV hi58))) 1 ?_
 have hi59:2<8:=by omega
 refine zv (.ia 1 8 2 (hi:=hi59)) 0 ?_
 refine zs (hH.q 5 rfl) (.ld cWq ((ar (aE F i) (aJ F i) q) 2) (fun _ hS=>((ac hS).eltV hi59))) 1 ?_
 have hi60:3<8:=by omega
 refine zv (.ia 1 8 3 (hi:=hi60)) 0 ?_
 refine zs (hH.q 5 rfl) (.ld cWq ((ar (aE F i) (aJ F i) q) 3) (fun _ hS=>((ac hS).eltV hi60))) 1 ?_
 refine zv .mv 32 ?_
 refine zv (.aq (bh ((ar (aE F i) (aJ F i) q) 3) (gv (W64 (aE F i) q) q (ar (aE F i) (aJ F i) q)))) 3 ?_
 have hi61:4<8:=by omega
 refine zv (.ia 1 8 4 (hi:=hi61)) 0 ?_
 refine zs (hH.q 5 rfl) (.ld cWq ((ar (aE F i) (aJ F i) q) 4) (fun _ hS=>((ac hS).eltV hi61))) 1 ?_
 have hi62:5<8:=by omega
 refine zv (.ia 1 8 5 (hi:=hi62)) 0 ?_
 refine zs (hH.q 5 rfl) (.ld cWq ((ar (aE F i) (aJ F i) q) 5) (fun _ hS=>((ac hS).eltV hi62))) 1 ?_
 have hi63:6<8:=by omega
 refine zv (.ia 1 8 6 (hi:=hi63)) 0 ?_
 refine zs (hH.q 5 rfl) (.ld cWq ((ar (aE F i) (aJ F i) q) 6) (fun _ hS=>((ac hS).eltV hi63))) 1 ?_
 refine zv (v:=((cQs 8).val (ar (aE F i) (aJ F i) (q+1)))) (fun _ _ hF=>aG (cells:=(cQs 8).enc (ar (aE F i) (aJ F i) (q+1))) (vals:=[(0,(.int .u64 ((((bh (gv (W64 (aE F i) q) q (ar (aE F i) (aJ F i) q)) (lf (ar (aE F i) (aJ F i) q))).toNat):Nat):Int))),(1,(.int .u64 (((((ar (aE F i) (aJ F i) q) 0).toNat):Nat):Int))),(2,(.int .u64 (((((ar (aE F i) (aJ F i) q) 1).toNat):Nat):Int))),(3,(.int .u64 (((((ar (aE F i) (aJ F i) q) 2).toNat):Nat):Int))),(4,(.int .u64 ((((bh ((ar (aE F i) (aJ F i) q) 3) (gv (W64 (aE F i) q) q (ar (aE F i) (aJ F i) q))).toNat):Nat):Int))),(5,(.int .u64 (((((ar (aE F i) (aJ F i) q) 4).toNat):Nat):Int))),(6,(.int .u64 (((((ar (aE F i) (aJ F i) q) 5).toNat):Nat):Int))),(7,(.int .u64 (((((ar (aE F i) (aJ F i) q) 6).toNat):Nat):Int)))]) rfl (EvP.cons (v:=(.int .u64 ((((bh (gv (W64 (aE F i) q) q (ar (aE F i) (aJ F i) q)) (lf (ar (aE F i) (aJ F i) q))).toNat):Nat):Int))) (hF.ev 7 rfl) (EvP.cons (v:=(.int .u64 (((((ar (aE F i) (aJ F i) q) 0).toNat):Nat):Int))) (hF.ev 6 rfl) (EvP.cons (v:=(.int .u64 (((((ar (aE F i) (aJ F i) q) 1).toNat):Nat):Int))) (hF.ev 5 rfl) (EvP.cons (v:=(.int .u64 (((((ar (aE F i) (aJ F i) q) 2).toNat):Nat):Int))) (hF.ev 4 rfl) (EvP.cons (v:=(.int .u64 ((((bh ((ar (aE F i) (aJ F i) q) 3) (gv (W64 (aE F i) q) q (ar (aE F i) (aJ F i) q))).toNat):Nat):Int))) (hF.ev 3 rfl) (EvP.cons (v:=(.int .u64 (((((ar (aE F i) (aJ F i) q) 4).toNat):Nat):Int))) (hF.ev 2 rfl) (EvP.cons (v:=(.int .u64 (((((ar (aE F i) (aJ F i) q) 5).toNat):Nat):Int))) (hF.ev 1 rfl) (EvP.cons (v:=(.int .u64 (((((ar (aE F i) (aJ F i) q) 6).toNat):Nat):Int))) (hF.ev 0 rfl) EvP.nil)))))))) (by kernel_rfl) _) 255 ?_
 refine ze0 5 hH rfl (.sw (cQs 8) (ar (aE F i) (aJ F i) q) (ar (aE F i) (aJ F i) (q+1))) trivial ?_
 clear hH
 rintro _ _ w rfl hH
 refine aD (aP (ah (aA (zv (.add ((q+1:Nat):Int)) 3 ?_))))
 refine zv .mv 1 ?_
 refine aD ?_
 exact zR1 (q+1) ⟨hH,(by omega)⟩ (by omega)
 refine aK (am (am (aS (ah ?_))))
 obtain rfl:q=80:=by omega
 have he64:(cQs 8).enc (upF 0 (comp64 (aE F i) (aJ F i)) (aJ F i))=(cQs 8).enc (aJ F i):=aO (fun _ _=>by rw [bE])
 replace hH:HH w0 [] [[bl g1 93 ((ae 64).enc (fun _=>0))],[bl g2 141 ((cQs 8).enc (upF 0 (comp64 (aE F i) (aJ F i)) (aJ F i)))],[bl g3 159 ((cQs 80).enc K64)],[bl g10 5 cur12],[bl g17 159 ((cQs 80).enc (W64 (aE F i)))],[bl g43 141 ((cQs 8).enc (ar (aE F i) (aJ F i) 80))]] w:=by rw [he64]; exact hH
 refine zr (zv .mv 11 ?_)
 refine zn (aj (zL1 (fun (q:Nat)=>[(193,(.int .i64 q)),(13,(.pointer (some ⟨g43,0,none⟩))),(6,(.int .i64 (((128*i):Nat):Int))),(5,(.slice (some ⟨g10,0,none⟩) ((pdN l).length) c7)),(4,(.pointer (some ⟨g3,0,none⟩))),(3,(.pointer (some ⟨g2,0,none⟩))),(2,(.pointer (some ⟨g1,0,none⟩)))]) (fun q w=>HH w0 [] [[bl g1 93 ((ae 64).enc (fun _=>0))],[bl g2 141 ((cQs 8).enc (upF q (comp64 (aE F i) (aJ F i)) (aJ F i)))],[bl g3 159 ((cQs 80).enc K64)],[bl g10 5 cur12],[bl g17 159 ((cQs 80).enc (W64 (aE F i)))],[bl g43 141 ((cQs 8).enc (ar (aE F i) (aJ F i) 80))]] w∧(q≤8)) (fun q=>8 - q) 0 ⟨hH,(Nat.zero_le _)⟩ ?_))
 clear hH
 rintro q w ⟨hH,hq⟩
 refine zr (zv (.lt (q<8)) 0 ?_)
 refine zn (ak ?_)
 refine zP (fun hc65 => ?_) (fun hc65 => ?_)
 refine av (ah (ak (aj (zr (zv .mv 1 ?_)))))
 refine zv .mv 1 ?_
 refine zn (bv mixedOrders (by kernel_rfl) ?_)
 replace hH:=hH.drew
 refine rv 0 .mv 0 ?_
 refine rv 1 .mv 0 ?_
 have hi66:q<8:=by omega
 refine rv 2 (.ia 1 8 q (hi:=hi66)) 1 ?_
 refine rld 3 (hH.q 1 rfl) (.ld cWq ((upF q (comp64 (aE F i) (aJ F i)) (aJ F i)) q) (fun _ hS=>((ac hS).eltV hi66))) 1 ?_
 refine rv 4 .mv 4 ?_
 have hi67:q<8:=by omega
 refine rv 5 (.ia 1 8 q (hi:=hi67)) 1 ?_
 refine rld 6 (hH.q 5 rfl) (.ld cWq ((ar (aE F i) (aJ F i) 80) q) (fun _ hS=>((ac hS).eltV hi67))) 1 ?_
 refine rv 7 (.aq (bh ((upF q (comp64 (aE F i) (aJ F i)) (aJ F i)) q) ((ar (aE F i) (aJ F i) 80) q))) 3 ?_
 have hi68:q<8:=by omega
 refine rv 8 (.ia 1 8 q (hi:=hi68)) 2 ?_
 refine rx1k 9 ?_
 refine re0 9 1 hH rfl (.st cWq (bh ((upF q (comp64 (aE F i) (aJ F i)) (aJ F i)) q) ((ar (aE F i) (aJ F i) 80) q)) (aW (S:=sWq) (C:=(cQs 8)) rfl hi68) (bB (upF q (comp64 (aE F i) (aJ F i)) (aJ F i)) (bh ((upF q (comp64 (aE F i) (aJ F i)) (aJ F i)) q) ((ar (aE F i) (aJ F i) 80) q)) hi68)) trivial (pgo [] (pgo [] (.nil _ []))) ?_
 clear hH
 rintro _ _ w rfl hH
 refine ⟨an,cg (by kernel_rfl) ?_⟩
 refine aP (ah (aA (zv (.add ((q+1:Nat):Int)) 7 ?_)))
 refine zv .mv 1 ?_
 refine aD ?_
 have he69:(cQs 8).enc (upF (q+1) (comp64 (aE F i) (aJ F i)) (aJ F i))=(cQs 8).enc (stF (upF q (comp64 (aE F i) (aJ F i)) (aJ F i)) q (bh ((upF q (comp64 (aE F i) (aJ F i)) (aJ F i)) q) ((ar (aE F i) (aJ F i) 80) q))):=aO (fun j _=>(congrFun (bn q (comp64 (aE F i) (aJ F i)) (aJ F i) (by rw [gG]; rfl)) j).symm)
 replace hH:HH w0 [] [[bl g1 93 ((ae 64).enc (fun _=>0))],[bl g2 141 ((cQs 8).enc (upF (q+1) (comp64 (aE F i) (aJ F i)) (aJ F i)))],[bl g3 159 ((cQs 80).enc K64)],[bl g10 5 cur12],[bl g17 159 ((cQs 80).enc (W64 (aE F i)))],[bl g43 141 ((cQs 8).enc (ar (aE F i) (aJ F i) 80))]] w:=by rw [he69]; exact hH
 exact zR1 (q+1) ⟨hH,(by omega)⟩ (by omega)
 refine aK (am (am (aS (aP (ah ?_)))))
 obtain rfl:q=8:=by omega
 have he70:(cQs 8).enc (aJ F (i+1))=(cQs 8).enc (upF 8 (comp64 (aE F i) (aJ F i)) (aJ F i)):=aO (fun j hj=>(bA _ _ hj).symm)
 replace hH:HH w0 [] [[bl g1 93 ((ae 64).enc (fun _=>0))],[bl g2 141 ((cQs 8).enc (aJ F (i+1)))],[bl g3 159 ((cQs 80).enc K64)],[bl g10 5 cur12],[bl g17 159 ((cQs 80).enc (W64 (aE F i)))],[bl g43 141 ((cQs 8).enc (ar (aE F i) (aJ F i) 80))]] w:=by rw [he70]; exact hH
 refine aA (zv .mv 15 ?_)
 refine zv (.add (((128*(i+1)):Nat):Int)) 1 ?_
 refine zv .mv 1 ?_
 refine aD ?_
 replace hH:HH w0 [] [[bl g1 93 ((ae 64).enc (fun _=>0))],[bl g2 141 ((cQs 8).enc (aJ F (i+1)))],[bl g3 159 ((cQs 80).enc K64)],[bl g10 5 cur12]] w:=hH.only [true,true,true,true,false,false]
 exact zR1 (i+1) ⟨hH,(by omega)⟩ (by omega)
 refine aK (am (am (aS (ah ?_))))
 obtain rfl:i=bR n:=by omega
 refine zr (zm hH (.al (ae 64) (fun _=>0)) trivial 15 ?_)
 clear hH
 rintro _ _ w ⟨g71,rfl,rfl⟩ hH
 refine zn (ak ?_)
 have he72:(ae 64).enc (upF 0 (cj (aJ F (bR n))) (fun _=>0))=(ae 64).enc (fun _=>0):=aB (fun _ _=>by rw [bE])
 replace hH:HH w0 [] [[bl g1 93 ((ae 64).enc (fun _=>0))],[bl g2 141 ((cQs 8).enc (aJ F (bR n)))],[bl g3 159 ((cQs 80).enc K64)],[bl g10 5 cur12],[bl g71 93 ((ae 64).enc (upF 0 (cj (aJ F (bR n))) (fun _=>0)))]] w:=by rw [he72]; exact hH
 refine zr (zv .mv 0 ?_)
 refine zn (aj (zL1 (fun (m:Nat)=>[(206,(.int .i64 m)),(20,(.pointer (some ⟨g71,0,none⟩))),(3,(.pointer (some ⟨g2,0,none⟩))),(2,(.pointer (some ⟨g1,0,none⟩)))]) (fun m w=>HH w0 [] [[bl g1 93 ((ae 64).enc (fun _=>0))],[bl g2 141 ((cQs 8).enc (aJ F (bR n)))],[bl g3 159 ((cQs 80).enc K64)],[bl g10 5 cur12],[bl g71 93 ((ae 64).enc (upF m (cj (aJ F (bR n))) (fun _=>0)))]] w∧(m≤64)) (fun m=>64 - m) 0 ⟨hH,(Nat.zero_le _)⟩ ?_))
 clear hH
 rintro m w ⟨hH,hm⟩
 refine zr (zv (.lt (m<64)) 0 ?_)
 refine zn (ak ?_)
 refine zP (fun hc73 => ?_) (fun hc73 => ?_)
 refine av (ah (ak (aj (zr (zv .mv 1 ?_)))))
 refine zv .mv 1 ?_
 refine zn (aA (zv .mv 0 ?_))
 refine zv .mv 0 ?_
 refine zv (v:=(.int .i64 (((m / 8):Nat):Int))) (fun _ _ hF=>de (z:=((m / 8:Nat):Int)) rfl (hF.ev 0 rfl) rfl (by omega) (wI ej (by omega) (by omega))) 1 ?_
 have hi74:m / 8<8:=by omega
 refine zv (.ia 1 8 (m / 8) (hi:=hi74)) 1 ?_
 refine zs (hH.q 1 rfl) (.ld cWq ((aJ F (bR n)) (m / 8)) (fun _ hS=>((ac hS).eltV hi74))) 1 ?_
 refine zv .mv 4 ?_
 refine zv (v:=(.int .i64 (((m%8):Nat):Int))) (fun _ _ hF=>bu (z:=((m%8:Nat):Int)) rfl (hF.ev 0 rfl) rfl (by omega) cy) 1 ?_
 refine zv (.mul ((8*(m%8):Nat):Int)) 1 ?_
 refine zv (.sub (((56 - 8*(m%8)):Nat):Int)) 1 ?_
 refine zv (.cu .u64) 1 ?_
 refine zv (.rq (56 - 8*(m%8))) 3 ?_
 refine zv .cb 1 ?_
 have hi75:m<64:=by omega
 refine zv (.ia 1 64 m (hi:=hi75)) 2 ?_
 refine ze0 4 hH rfl (.st af (UInt8.ofNat ((fL ((aJ F (bR n)) (m / 8)) (56 - 8*(m%8))).toNat)) (aW (S:=sBy) (C:=(ae 64)) rfl hi75) (aQ (upF m (cj (aJ F (bR n))) (fun _=>0)) (UInt8.ofNat ((fL ((aJ F (bR n)) (m / 8)) (56 - 8*(m%8))).toNat)) hi75)) trivial ?_
 clear hH
 rintro _ _ w rfl hH
 refine aD (aP (ah (aA (zv (.add ((m+1:Nat):Int)) 7 ?_))))
 refine zv .mv 1 ?_
 refine aD ?_
 have he76:(ae 64).enc (upF (m+1) (cj (aJ F (bR n))) (fun _=>0))=(ae 64).enc (stF (upF m (cj (aJ F (bR n))) (fun _=>0)) m (UInt8.ofNat ((fL ((aJ F (bR n)) (m / 8)) (56 - 8*(m%8))).toNat))):=aB (fun j _=>(congrFun (bn m (cj (aJ F (bR n))) (fun _=>0) (rK _ m)) j).symm)
 replace hH:HH w0 [] [[bl g1 93 ((ae 64).enc (fun _=>0))],[bl g2 141 ((cQs 8).enc (aJ F (bR n)))],[bl g3 159 ((cQs 80).enc K64)],[bl g10 5 cur12],[bl g71 93 ((ae 64).enc (upF (m+1) (cj (aJ F (bR n))) (fun _=>0)))]] w:=by rw [he76]; exact hH
 exact zR1 (m+1) ⟨hH,(by omega)⟩ (by omega)
 refine aK (am (am (aS (ah ?_))))
 obtain rfl:m=64:=by omega
 have he77:(ae 64).enc (cj (aJ F (bR n)))=(ae 64).enc (upF 64 (cj (aJ F (bR n))) (fun _=>0)):=aB (fun j hj=>(bA _ _ hj).symm)
 replace hH:HH w0 [] [[bl g1 93 ((ae 64).enc (fun _=>0))],[bl g2 141 ((cQs 8).enc (aJ F (bR n)))],[bl g3 159 ((cQs 80).enc K64)],[bl g10 5 cur12],[bl g71 93 ((ae 64).enc (cj (aJ F (bR n))))]] w:=by rw [he77]; exact hH
 refine zr (zs (hH.q 4 rfl) (.ld (ae 64) (cj (aJ F (bR n))) (fun _=>ac)) 15 ?_)
 refine ze0 0 hH rfl (.sw (ae 64) (fun _=>0) (cj (aJ F (bR n)))) trivial ?_
 clear hH
 rintro _ _ w rfl hH
 refine zn (au (aH 1 (hH.blk 0 rfl) rfl rfl (by kernel_rfl) (Cod.size _ _) (by kernel_rfl) ?_))
 have he:cj (aJ F (bR n))=bM l:=by rw [hF]; subst hn; rfl
 rw [he]
 exact ⟨rfl,HH.toBelow hH⟩
def dcQ (y:Nat):Nat:=tm (nS (tm y y) 1) (riv (nA (tm dN (tm y y)) 1))
def dcX (x:Nat) (o:UInt8):Nat:=if (UInt8.ofNat (wd x 0%2)).toNat≠o.toNat then nS 0 x%pN else x
theorem uU {x:Nat} (o:UInt8) (h:x<2^256):dcX x o<2^256:=by
 unfold dcX
 split
 ·exact Nat.lt_trans (Nat.mod_lt _ (by decide)) fH
 ·exact h
def dcR (b:Nat→UInt8):P4×Bool :=
 if lv (dPt b) 32<pN then
  if rOk (dcQ (lv (dPt b) 32)) then
   if rRt (dcQ (lv (dPt b) 32))%pN=0∧(sr8 (b 31) 7).toNat=1 then ((0,0,0,0),false)
   else ((dcX (rRt (dcQ (lv (dPt b) 32))%pN) (sr8 (b 31) 7),lv (dPt b) 32,1,tm (dcX (rRt (dcQ (lv (dPt b) 32))%pN) (sr8 (b 31) 7)) (lv (dPt b) 32)),true)
  else ((0,0,0,0),false)
 else ((0,0,0,0),false)
theorem mT:PL (0,0,0,0):=⟨by decide,by decide,by decide,by decide⟩
theorem uV (b:Nat→UInt8):PL (dcR b).1:=by
 have hm:∀ a,a%pN<2^256:=fun a=>Nat.lt_trans (Nat.mod_lt _ (by decide)) fH
 unfold dcR
 split
 ·split
  ·split
   ·exact mT
   ·exact ⟨uU _ (hm _),bG _,by show 1<2^256; decide,ba (uU _ (hm _)) (bG _)⟩
  ·exact mT
 ·exact mT
theorem w8:(cNs 4).enc (fun _=>0)=(cNs 4).enc (wd 0):=aO (S:=sNt) fun i _=>by unfold wd; rw [Nat.zero_div,Nat.zero_mod]
theorem mU:cPt.val (fun _=>0,fun _=>0,fun _=>0,fun _=>0)=cPt.val (wd 0,wd 0,wd 0,wd 0):=by
 show Value.agg (cPt.enc _)=Value.agg (cPt.enc _)
 rw [bw,bw,bw,bw,bw,bw]
 simp only [w8]
theorem zW (b:Nat→UInt8):Pure Tryz.prog 83 #[((ae 32).val b)] (fun _=>True) (.tuple #[(cPt.val (wd ((dcR b).1).1,wd ((dcR b).1).2.1,wd ((dcR b).1).2.2.1,wd ((dcR b).1).2.2.2)),.bool (dcR b).2]):=by
 refine pU Tryz.func83 Tryz.ntmps83 ?_
 intro w0 hH hR
 refine zr (zm hH (.bx (ae 32) b) trivial 1 ?_)
 clear hH
 rintro _ _ w ⟨g1,rfl,rfl⟩ hH
 refine zm hH (.al cPt (fun _=>0,fun _=>0,fun _=>0,fun _=>0)) trivial 0 ?_
 clear hH
 rintro _ _ w ⟨g2,rfl,rfl⟩ hH
 refine zv .mv 0 ?_
 refine zn (zr ?_)
 have hi3:31<32:=by omega
 refine zv (.ia 1 32 31 (hi:=hi3)) 1 ?_
 refine zs (hH.q 0 rfl) (.ld af (b 31) (fun _ hS=>((ac hS).elt hi3))) 1 ?_
 refine zv (.rb 7 (u:=(b 31))) 1 ?_
 refine zv .mv 1 ?_
 refine zn (zr ?_)
 have hi4:31<32:=by omega
 refine zv (.ia 1 32 31 (hi:=hi4)) 0 ?_
 refine zs (hH.q 0 rfl) (.ld af (b 31) (fun _ hS=>((ac hS).elt hi4))) 1 ?_
 refine zv (.ab ((b 31) &&& (127:UInt8)) (u:=(b 31)) (v:=(127:UInt8))) 1 ?_
 have hi5:31<32:=by omega
 refine zv (.ia 1 32 31 (hi:=hi5)) 0 ?_
 refine ze0 0 hH rfl (.st af ((b 31) &&& (127:UInt8)) (aW (S:=sBy) (C:=(ae 32)) rfl hi5) (aQ b ((b 31) &&& (127:UInt8)) hi5)) trivial ?_
 clear hH
 rintro _ _ w rfl hH
 refine zn (ak ?_)
 replace hH:HH w0 [] [[bl g1 22 ((ae 32).enc (dPt b))],[bl g2 113 (cPt.enc (fun _=>0,fun _=>0,fun _=>0,fun _=>0))]] w:=hH
 refine zr (zs (hH.q 0 rfl) (.ld (ae 32) (dPt b) (fun _=>ac)) 3 ?_)
 refine zc Tryz.func124 (zQ (dPt b)) trivial hH 1 ?_
 clear hH
 intro w hH
 refine zv (v:=(.bool (decide (¬ (lv (dPt b) 32<pN))))) (fun _ _ hF=>el rfl (hF.ev 0 rfl) decide_not.symm) 1 ?_
 refine zn ?_
 refine zP (fun hc6 => ?_) (fun hc6 => ?_)
 refine zr (zv (v:=(cPt.val (fun _=>0,fun _=>0,fun _=>0,fun _=>0))) (fun _ _ hF=>aG (cells:=cPt.enc (fun _=>0,fun _=>0,fun _=>0,fun _=>0)) (vals:=[]) rfl EvP.nil (by kernel_rfl) _) 11 ?_)
 refine ze0 1 hH rfl (.sw cPt (fun _=>0,fun _=>0,fun _=>0,fun _=>0) (fun _=>0,fun _=>0,fun _=>0,fun _=>0)) trivial ?_
 clear hH
 rintro _ _ w rfl hH
 refine zv .mv 1 ?_
 refine zn (au (bO ?_))
 refine bj 1 0 (hH.blk 1 rfl) rfl rfl rfl (by kernel_rfl) (Cod.size _ _) (by kernel_rfl) ?_
 have he:dcR b=((0,0,0,0),false):=if_neg hc6
 exact ⟨by rw [he]; exact congrArg (fun q=>Ending.returned (.tuple #[q,.bool false])) mU,HH.toBelow hH⟩
 refine av (ah (zr (zs (hH.q 0 rfl) (.ld (ae 32) (dPt b) (fun _=>ac)) 9 ?_)))
 refine zc Tryz.func71 (mw (dPt b)) trivial hH 1 ?_
 clear hH
 intro w hH
 refine zm hH (.al (cNs 4) (fun _=>0)) trivial 0 ?_
 clear hH
 rintro _ _ w ⟨g7,rfl,rfl⟩ hH
 refine ze0 2 hH rfl (.sw (cNs 4) (fun _=>0) (wd (lv (dPt b) 32))) trivial ?_
 clear hH
 rintro _ _ w rfl hH
 refine zn ?_
 obtain ⟨y,hy,ly⟩:∃ y,y=lv (dPt b) 32∧y<2^256:=⟨_,rfl,bG _⟩
 replace hH:HH w0 [] [[bl g1 22 ((ae 32).enc (dPt b))],[bl g2 113 (cPt.enc (fun _=>0,fun _=>0,fun _=>0,fun _=>0))],[bl g7 97 ((cNs 4).enc (wd y))]] w:=by rw [hy]; exact hH
 refine zr (zs (hH.q 2 rfl) (.ld (cNs 4) (wd y) (fun _=>ac)) 2 ?_)
 refine zs (hH.q 2 rfl) (.ld (cNs 4) (wd y) (fun _=>ac)) 0 ?_
 refine zc Tryz.func75 (aV y y ly ly) trivial hH 3 ?_
 clear hH
 intro w hH
 refine zm hH (.al (cNs 4) (fun _=>0)) trivial 0 ?_
 clear hH
 rintro _ _ w ⟨g8,rfl,rfl⟩ hH
 refine ze0 3 hH rfl (.sw (cNs 4) (fun _=>0) (wd (tm y y))) trivial ?_
 clear hH
 rintro _ _ w rfl hH
 refine zn ?_
 obtain ⟨u,hu,lu⟩:∃ u,u=tm y y∧u<2^256:=⟨_,rfl,(ba ly ly)⟩
 replace hH:HH w0 [] [[bl g1 22 ((ae 32).enc (dPt b))],[bl g2 113 (cPt.enc (fun _=>0,fun _=>0,fun _=>0,fun _=>0))],[bl g7 97 ((cNs 4).enc (wd y))],[bl g8 97 ((cNs 4).enc (wd u))]] w:=by rw [hu]; exact hH
 refine zx ?_
 replace hH:=hH.drew
 refine cP 0 [ldv 0 26 [] [] [1003] fun G=>((cNs 4).val (wd u)),pv 1 27 [] [] fun G=>((cNs 4).val (wd 1)),pv 2 28 [0,1] [] fun G=>((cNs 4).val (wd (nS u 1))),pv 3 29 [] [] fun G=>((cNs 4).val (wd dN)),ldv 4 30 [] [] [1003] fun G=>((cNs 4).val (wd u)),pv 5 31 [3,4] [] fun G=>((cNs 4).val (wd (tm dN u))),pv 6 32 [] [] fun G=>((cNs 4).val (wd 1)),pv 7 33 [5,6] [] fun G=>((cNs 4).val (wd (nA (tm dN u) 1))),pv 8 34 [7] [] fun G=>((cNs 4).val (wd (riv (nA (tm dN u) 1)))),pv 9 35 [2,8] [] fun G=>((cNs 4).val (wd (tm (nS u 1) (riv (nA (tm dN u) 1))))),pv 10 36 [9] [] fun G=>(.tuple #[((cNs 4).val (wd (rRt (tm (nS u 1) (riv (nA (tm dN u) 1)))%pN))),(.bool (decide (rOk (tm (nS u 1) (riv (nA (tm dN u) 1))))))]),pv 11 25 [10] [] fun G=>(.tuple #[((cNs 4).val (wd (rRt (tm (nS u 1) (riv (nA (tm dN u) 1)))%pN))),(.bool (decide (rOk (tm (nS u 1) (riv (nA (tm dN u) 1))))))]),pv 12 37 [11] [] fun G=>((cNs 4).val (wd (rRt (tm (nS u 1) (riv (nA (tm dN u) 1)))%pN))),pv 13 38 [11] [] fun G=>(.bool (decide (rOk (tm (nS u 1) (riv (nA (tm dN u) 1)))))),alv 14 7 [] [] fun G g=>[bl g 97 ((cNs 4).enc (fun _=>0))],stv 15 [12,14] [14] 14 fun G=>[bl (G 14).g 97 ((cNs 4).enc (wd (rRt (tm (nS u 1) (riv (nA (tm dN u) 1)))%pN)))],pv 16 8 [13] [] fun G=>(.bool (decide (rOk (tm (nS u 1) (riv (nA (tm dN u) 1))))))] (fun G=>[(7,(.pointer (some ⟨(G 14).g,0,none⟩))),(8,(.bool (decide (rOk (tm (nS u 1) (riv (nA (tm dN u) 1))))))),(5,(.pointer (some ⟨g7,0,none⟩))),(4,(.int .u8 ((((sr8 (b 31) 7).toNat):Nat):Int))),(2,(.pointer (some ⟨g2,0,none⟩)))]) (fun G=>[[bl g1 22 ((ae 32).enc (dPt b))],[bl g2 113 (cPt.enc (fun _=>0,fun _=>0,fun _=>0,fun _=>0))],[bl g7 97 ((cNs 4).enc (wd y))],[bl g8 97 ((cNs 4).enc (wd u))],[bl (G 14).g 97 ((cNs 4).enc (wd (rRt (tm (nS u 1) (riv (nA (tm dN u) 1)))%pN)))]]) hH (.c (.ld (fun G _ _ hH=>(hH.q 0 rfl)) fun G=>(.ld (cNs 4) (wd u) (fun _=>ac))) <| .c (Sp.c Tryz.func72 (fun G=>(cd 1 (by decide))) fun _=>trivial) <| .c (Sp.c Tryz.func74 (fun G=>(ca u 1 lu (by decide))) fun _=>trivial) <| .c (Sp.c Tryz.func126 (fun G=>(zO)) fun _=>trivial) <| .c (.ld (fun G _ _ hH=>(hH.q 0 rfl)) fun G=>(.ld (cNs 4) (wd u) (fun _=>ac))) <| .c (Sp.c Tryz.func75 (fun G=>(aV dN u fl lu)) fun _=>trivial) <| .c (Sp.c Tryz.func72 (fun G=>(cd 1 (by decide))) fun _=>trivial) <| .c (Sp.c Tryz.func73 (fun G=>(cx (tm dN u) 1 (ba fl lu) (by decide))) fun _=>trivial) <| .c (Sp.c Tryz.func77 (fun G=>(gP (nA (tm dN u) 1) (bQ (ba fl lu) (by decide)))) fun _=>trivial) <| .c (Sp.c Tryz.func75 (fun G=>(aV (nS u 1) (riv (nA (tm dN u) 1)) (bV lu) (km (bQ (ba fl lu) (by decide))))) fun _=>trivial) <| .c (Sp.c Tryz.func125 (fun G=>(wY (tm (nS u 1) (riv (nA (tm dN u) 1))) (ba (bV lu) (km (bQ (ba fl lu) (by decide)))))) fun _=>trivial) <| .c (.v fun G=>.mv) <| .c (.v fun G=>.ext) <| .c (.v fun G=>.ext) <| .c (.a (fun _ _ _ _=>trivial) (fun G=>(.al (cNs 4) (fun _=>0))) fun _ _ _ h=>h) <| .c (.tn (fun G=>(.sw (cNs 4) (fun _=>0) (wd (rRt (tm (nS u 1) (riv (nA (tm dN u) 1)))%pN)))) (fun _ _ _ _=>trivial) fun _ _ _ h=>h) <| .c (.v fun G=>.mv) <| .nil) ?_
 clear hH
 rintro G w - hH
 revert hH
 generalize (G 14).g=g9
 intro hH
 refine rn ?_
 refine ak ?_
 have hQ:tm (nS u 1) (riv (nA (tm dN u) 1))=dcQ y:=by rw [hu]; rfl
 obtain ⟨xr,hx,lx⟩:∃ xr,xr=rRt (tm (nS u 1) (riv (nA (tm dN u) 1)))%pN∧xr<2^256:=⟨_,rfl,(Nat.lt_trans (Nat.mod_lt _ (by decide)) fH)⟩
 replace hH:HH w0 [] [[bl g1 22 ((ae 32).enc (dPt b))],[bl g2 113 (cPt.enc (fun _=>0,fun _=>0,fun _=>0,fun _=>0))],[bl g7 97 ((cNs 4).enc (wd y))],[bl g8 97 ((cNs 4).enc (wd u))],[bl g9 97 ((cNs 4).enc (wd xr))]] w:=by rw [hx]; exact hH
 rw [hQ] at hx
 refine zr (zv .mv 2 ?_)
 refine zv (v:=(.bool (decide (¬ (rOk (tm (nS u 1) (riv (nA (tm dN u) 1)))))))) (fun _ _ hF=>el rfl (hF.ev 0 rfl) decide_not.symm) 1 ?_
 refine zn ?_
 refine zP (fun hc10 => ?_) (fun hc10 => ?_)
 refine zr (zv (v:=(cPt.val (fun _=>0,fun _=>0,fun _=>0,fun _=>0))) (fun _ _ hF=>aG (cells:=cPt.enc (fun _=>0,fun _=>0,fun _=>0,fun _=>0)) (vals:=[]) rfl EvP.nil (by kernel_rfl) _) 15 ?_)
 refine ze0 1 hH rfl (.sw cPt (fun _=>0,fun _=>0,fun _=>0,fun _=>0) (fun _=>0,fun _=>0,fun _=>0,fun _=>0)) trivial ?_
 clear hH
 rintro _ _ w rfl hH
 refine zv .mv 1 ?_
 refine zn (au (bO ?_))
 refine bj 1 0 (hH.blk 1 rfl) rfl rfl rfl (by kernel_rfl) (Cod.size _ _) (by kernel_rfl) ?_
 have he:dcR b=((0,0,0,0),false):=by unfold dcR; rw [if_pos (show lv (dPt b) 32<pN from Decidable.not_not.1 hc6),if_neg (by rw [← hy,← hQ]; exact hc10)]
 exact ⟨by rw [he]; exact congrArg (fun q=>Ending.returned (.tuple #[q,.bool false])) mU,HH.toBelow hH⟩
 refine av (ah (ak (zx ?_)))
 replace hH:=hH.drew
 refine rld 0 (hH.q 4 rfl) (.ld (cNs 4) (wd xr) (fun _=>ac)) 1 ?_
 refine rx1k 1 (rpc 1 Tryz.func72 (cd 0 (by decide)) trivial hH 0 (.keep (.nil _ [])) ?_)
 clear hH
 intro w hH
 refine ⟨pcons (hH.blk 4 rfl) an,?_⟩
 refine rv 2 (v:=(.bool (decide (xr=0)))) (fun _ _ hF=>uQ (n:=4) (e:=72) (f:=(wd xr)) (g:=(wd 0)) rfl (by kernel_rfl) (by kernel_rfl) (by kernel_rfl) (hF.ev 1 rfl) (hF.ev 0 rfl) (by kernel_rfl) (ra lx (b:=0) (by decide))) 3 ?_
 refine rv 3 .mv 1 ?_
 refine sQ 0 rfl (l1:=[(45,(.bool true)),(7,(.pointer (some ⟨g9,0,none⟩))),(5,(.pointer (some ⟨g7,0,none⟩))),(4,(.int .u8 ((((sr8 (b 31) 7).toNat):Nat):Int))),(2,(.pointer (some ⟨g2,0,none⟩)))]) (l2:=[(45,(.bool false)),(7,(.pointer (some ⟨g9,0,none⟩))),(5,(.pointer (some ⟨g7,0,none⟩))),(4,(.int .u8 ((((sr8 (b 31) 7).toNat):Nat):Int))),(2,(.pointer (some ⟨g2,0,none⟩)))]) rfl rfl (fun hg11 => ?_) (fun hg11 => ?_)
 refine rxV 4 rfl (by kernel_rfl) rfl (gOn 0 rfl rfl rfl (by decide)) (fun _ _ hF=>bo rfl (hF.ev 3 rfl)) (kA rfl) (by decide) (v:=(.int .u8 ((((sr8 (b 31) 7).toNat):Nat):Int))) ?_
 refine rxV 5 rfl (by kernel_rfl) rfl (gOn 1 rfl rfl rfl (by decide)) (fun _ _ hF=>dH rfl (hF.ev 0 rfl) rfl (dc (by omega))) (kM [false,true,true,true,true,true] rfl rfl) (by decide) (v:=(.bool (decide ((sr8 (b 31) 7).toNat=1)))) ?_
 refine rv 6 (v:=(.bool (decide ((sr8 (b 31) 7).toNat=1)))) (fun _ _ hF=>ce rfl (hF.ev 1 rfl) (hF.ev 0 rfl)) 3 ?_
 refine rn ?_
 refine zP (fun hc12 => ?_) (fun hc12 => ?_)
 refine zr (zv (v:=(cPt.val (fun _=>0,fun _=>0,fun _=>0,fun _=>0))) (fun _ _ hF=>aG (cells:=cPt.enc (fun _=>0,fun _=>0,fun _=>0,fun _=>0)) (vals:=[]) rfl EvP.nil (by kernel_rfl) _) 15 ?_)
 refine ze0 1 hH rfl (.sw cPt (fun _=>0,fun _=>0,fun _=>0,fun _=>0) (fun _=>0,fun _=>0,fun _=>0,fun _=>0)) trivial ?_
 clear hH
 rintro _ _ w rfl hH
 refine zv .mv 1 ?_
 refine zn (au (bO ?_))
 refine bj 1 0 (hH.blk 1 rfl) rfl rfl rfl (by kernel_rfl) (Cod.size _ _) (by kernel_rfl) ?_
 have hok:rOk (dcQ (lv (dPt b) 32)):=by rw [← hy,← hQ]; exact Decidable.not_not.1 hc10
 have he:dcR b=((0,0,0,0),false):=by unfold dcR; rw [if_pos (show lv (dPt b) 32<pN from Decidable.not_not.1 hc6),if_pos hok,← hy,← hx,if_pos ⟨hg11,hc12⟩]
 exact ⟨by rw [he]; exact congrArg (fun q=>Ending.returned (.tuple #[q,.bool false])) mU,HH.toBelow hH⟩
 refine av (ah ?_)
 refine kI (σ:=Nat) (fun x=>[(7,(.pointer (some ⟨g9,0,none⟩))),(5,(.pointer (some ⟨g7,0,none⟩))),(2,(.pointer (some ⟨g2,0,none⟩)))]) (fun x w=>HH w0 [] [[bl g1 22 ((ae 32).enc (dPt b))],[bl g2 113 (cPt.enc (fun _=>0,fun _=>0,fun _=>0,fun _=>0))],[bl g7 97 ((cNs 4).enc (wd y))],[bl g8 97 ((cNs 4).enc (wd u))],[bl g9 97 ((cNs 4).enc (wd x))]] w∧(x=dcX xr (sr8 (b 31) 7))∧(x<2^256)) ?_ ?_
 refine zr ?_
 have hi13:0<4:=by omega
 refine zv (.ia 1 4 0 (hi:=hi13)) 1 ?_
 refine zs (hH.q 4 rfl) (.ld sNt.cod ((wd xr) 0) (fun _ hS=>((ac hS).eltV hi13))) 1 ?_
 refine zv (v:=(.int .u64 (((((wd xr) 0)%2):Nat):Int))) (fun _ _ hF=>bu (z:=((((wd xr) 0)%2:Nat):Int)) rfl (hF.ev 0 rfl) rfl (by omega) cy) 1 ?_
 refine zv .cb 1 ?_
 refine zv .mv 8 ?_
 refine zv (.ne ((UInt8.ofNat (((wd xr) 0)%2)).toNat≠(sr8 (b 31) 7).toNat)) 3 ?_
 refine zn ?_
 refine zP (fun hc14 => ?_) (fun hc14 => ?_)
 refine bv mixedOrders (by kernel_rfl) ?_
 replace hH:=hH.drew
 refine rld 1 (hH.q 4 rfl) (.ld (cNs 4) (wd xr) (fun _=>ac)) 1 ?_
 refine rx1k 0 (rpc 0 Tryz.func72 (cd 0 (by decide)) trivial hH 0 (.keep (.nil _ [])) ?_)
 clear hH
 intro w hH
 refine ⟨pcons (hH.blk 4 rfl) an,?_⟩
 refine rx1k 2 (rpc 2 Tryz.func74 (ca 0 xr (by decide) lx) trivial hH 3 (pgo [] (.nil _ [])) ?_)
 clear hH
 intro w hH
 refine ⟨an,?_⟩
 refine rx1k 3 (rpc 3 Tryz.func119 (eh (nS 0 xr) (bV (by decide))) trivial hH 1 (.nil _ []) ?_)
 clear hH
 intro w hH
 refine ⟨an,rx1k 4 ?_⟩
 refine re0 4 4 hH rfl (.sw (cNs 4) (wd xr) (wd ((nS 0 xr)%pN))) trivial (.nil _ []) ?_
 clear hH
 rintro _ _ w rfl hH
 refine ⟨an,cg (by kernel_rfl) ?_⟩
 exact ek ((nS 0 xr)%pN) ⟨hH,(show dcX xr (sr8 (b 31) 7)=_ from if_pos hc14).symm,(Nat.lt_trans (Nat.mod_lt _ (by decide)) fH)⟩ (cD [1,2,3] rfl)
 refine av ?_
 exact ek xr ⟨hH,(show dcX xr (sr8 (b 31) 7)=_ from if_neg hc14).symm,lx⟩ (cD [1,2,3] rfl)
 clear hH
 rintro v w ⟨hH,hv,lvv⟩
 change CX _ _ _ _ [(7,(.pointer (some ⟨g9,0,none⟩))),(5,(.pointer (some ⟨g7,0,none⟩))),(2,(.pointer (some ⟨g2,0,none⟩)))] _
 replace hH:HH w0 [] [[bl g1 22 ((ae 32).enc (dPt b))],[bl g2 113 (cPt.enc (fun _=>0,fun _=>0,fun _=>0,fun _=>0))],[bl g7 97 ((cNs 4).enc (wd y))],[bl g8 97 ((cNs 4).enc (wd u))],[bl g9 97 ((cNs 4).enc (wd v))]] w:=hH
 replace hv:v=dcX xr (sr8 (b 31) 7):=hv
 replace lvv:v<2^256:=lvv
 refine zx ?_
 replace hH:=hH.drew
 refine rld 0 (hH.q 4 rfl) (.ld (cNs 4) (wd v) (fun _=>ac)) 0 ?_
 refine rld 1 (hH.q 2 rfl) (.ld (cNs 4) (wd y) (fun _=>ac)) 0 ?_
 refine rld 3 (hH.q 4 rfl) (.ld (cNs 4) (wd v) (fun _=>ac)) 4 ?_
 refine rld 4 (hH.q 2 rfl) (.ld (cNs 4) (wd y) (fun _=>ac)) 8 ?_
 refine rx1k 2 (rpc 2 Tryz.func72 (cd 1 (by decide)) trivial hH 0 (.keep (.keep (.keep (.keep (.nil _ []))))) ?_)
 clear hH
 intro w hH
 refine ⟨pcons (hH.blk 2 rfl) (pcons (hH.blk 4 rfl) (pcons (hH.blk 2 rfl) (pcons (hH.blk 4 rfl) an))),?_⟩
 refine rx1k 5 (rpc 5 Tryz.func75 (aV v y lvv ly) trivial hH 6 (pgo [] (pgo [] (.keep (.keep (.nil _ []))))) ?_)
 clear hH
 intro w hH
 refine ⟨pcons (hH.blk 2 rfl) (pcons (hH.blk 4 rfl) an),?_⟩
 refine rv 6 (v:=(cPt.val (wd v,wd y,wd 1,wd (tm v y)))) (fun _ _ hF=>aG (cells:=cPt.enc (wd v,wd y,wd 1,wd (tm v y))) rfl (EvP.cons (v:=((cNs 4).val (wd v))) (hF.ev 3 rfl) (EvP.cons (v:=((cNs 4).val (wd y))) (hF.ev 2 rfl) (EvP.cons (v:=((cNs 4).val (wd 1))) (hF.ev 1 rfl) (EvP.cons (v:=((cNs 4).val (wd (tm v y)))) (hF.ev 0 rfl) EvP.nil)))) (gc (x:=(wd v,wd y,wd 1,wd (tm v y))) (by kernel_rfl) rfl rfl rfl rfl) _) 15 ?_
 refine rx1k 7 ?_
 refine re0 7 1 hH rfl (.sw cPt (fun _=>0,fun _=>0,fun _=>0,fun _=>0) (wd v,wd y,wd 1,wd (tm v y))) trivial (pgo [] (pgo [] (.nil _ []))) ?_
 clear hH
 rintro _ _ w rfl hH
 refine ⟨an,rv 8 .mv 1 ?_⟩
 refine rn ?_
 refine au (bj 1 0 (hH.blk 1 rfl) rfl rfl rfl (by kernel_rfl) (Cod.size _ _) (by kernel_rfl) ?_)
 have hok:rOk (dcQ (lv (dPt b) 32)):=by rw [← hy,← hQ]; exact Decidable.not_not.1 hc10
 have hno:¬ (xr=0∧(sr8 (b 31) 7).toNat=1):=by first | exact fun hc=>hg11 hc.1 | exact fun hc=>hc12 hc.2
 have he:dcR b=((v,y,1,tm v y),true):=by unfold dcR; rw [if_pos (show lv (dPt b) 32<pN from Decidable.not_not.1 hc6),if_pos hok,← hy,← hx,if_neg hno,← hv]
 exact ⟨by rw [he]; rfl,HH.toBelow hH⟩
 refine rxU 4 rfl (by kernel_rfl) rfl (gA 0 rfl rfl rfl (by decide)) (kA rfl) (by decide) ?_
 refine rxU 5 rfl (by kernel_rfl) rfl (gA 0 rfl rfl rfl (by decide)) (kA rfl) (by decide) ?_
 refine rv 6 (v:=(.bool false)) (fun _ _ hF=>dt rfl (hF.ev 0 rfl) rfl) 1 ?_
 refine rn ?_
 refine zF ?_
 refine av (ah ?_)
 refine kI (σ:=Nat) (fun x=>[(7,(.pointer (some ⟨g9,0,none⟩))),(5,(.pointer (some ⟨g7,0,none⟩))),(2,(.pointer (some ⟨g2,0,none⟩)))]) (fun x w=>HH w0 [] [[bl g1 22 ((ae 32).enc (dPt b))],[bl g2 113 (cPt.enc (fun _=>0,fun _=>0,fun _=>0,fun _=>0))],[bl g7 97 ((cNs 4).enc (wd y))],[bl g8 97 ((cNs 4).enc (wd u))],[bl g9 97 ((cNs 4).enc (wd x))]] w∧(x=dcX xr (sr8 (b 31) 7))∧(x<2^256)) ?_ ?_
 refine zr ?_
 have hi15:0<4:=by omega
 refine zv (.ia 1 4 0 (hi:=hi15)) 1 ?_
 refine zs (hH.q 4 rfl) (.ld sNt.cod ((wd xr) 0) (fun _ hS=>((ac hS).eltV hi15))) 1 ?_
 refine zv (v:=(.int .u64 (((((wd xr) 0)%2):Nat):Int))) (fun _ _ hF=>bu (z:=((((wd xr) 0)%2:Nat):Int)) rfl (hF.ev 0 rfl) rfl (by omega) cy) 1 ?_
 refine zv .cb 1 ?_
 refine zv .mv 8 ?_
 refine zv (.ne ((UInt8.ofNat (((wd xr) 0)%2)).toNat≠(sr8 (b 31) 7).toNat)) 3 ?_
 refine zn ?_
 refine zP (fun hc16 => ?_) (fun hc16 => ?_)
 refine bv mixedOrders (by kernel_rfl) ?_
 replace hH:=hH.drew
 refine rld 1 (hH.q 4 rfl) (.ld (cNs 4) (wd xr) (fun _=>ac)) 1 ?_
 refine rx1k 0 (rpc 0 Tryz.func72 (cd 0 (by decide)) trivial hH 0 (.keep (.nil _ [])) ?_)
 clear hH
 intro w hH
 refine ⟨pcons (hH.blk 4 rfl) an,?_⟩
 refine rx1k 2 (rpc 2 Tryz.func74 (ca 0 xr (by decide) lx) trivial hH 3 (pgo [] (.nil _ [])) ?_)
 clear hH
 intro w hH
 refine ⟨an,?_⟩
 refine rx1k 3 (rpc 3 Tryz.func119 (eh (nS 0 xr) (bV (by decide))) trivial hH 1 (.nil _ []) ?_)
 clear hH
 intro w hH
 refine ⟨an,rx1k 4 ?_⟩
 refine re0 4 4 hH rfl (.sw (cNs 4) (wd xr) (wd ((nS 0 xr)%pN))) trivial (.nil _ []) ?_
 clear hH
 rintro _ _ w rfl hH
 refine ⟨an,cg (by kernel_rfl) ?_⟩
 exact ek ((nS 0 xr)%pN) ⟨hH,(show dcX xr (sr8 (b 31) 7)=_ from if_pos hc16).symm,(Nat.lt_trans (Nat.mod_lt _ (by decide)) fH)⟩ (cD [1,2,3] rfl)
 refine av ?_
 exact ek xr ⟨hH,(show dcX xr (sr8 (b 31) 7)=_ from if_neg hc16).symm,lx⟩ (cD [1,2,3] rfl)
 clear hH
 rintro v w ⟨hH,hv,lvv⟩
 change CX _ _ _ _ [(7,(.pointer (some ⟨g9,0,none⟩))),(5,(.pointer (some ⟨g7,0,none⟩))),(2,(.pointer (some ⟨g2,0,none⟩)))] _
 replace hH:HH w0 [] [[bl g1 22 ((ae 32).enc (dPt b))],[bl g2 113 (cPt.enc (fun _=>0,fun _=>0,fun _=>0,fun _=>0))],[bl g7 97 ((cNs 4).enc (wd y))],[bl g8 97 ((cNs 4).enc (wd u))],[bl g9 97 ((cNs 4).enc (wd v))]] w:=hH
 replace hv:v=dcX xr (sr8 (b 31) 7):=hv
 replace lvv:v<2^256:=lvv
 refine zx ?_
 replace hH:=hH.drew
 refine rld 0 (hH.q 4 rfl) (.ld (cNs 4) (wd v) (fun _=>ac)) 0 ?_
 refine rld 1 (hH.q 2 rfl) (.ld (cNs 4) (wd y) (fun _=>ac)) 0 ?_
 refine rld 3 (hH.q 4 rfl) (.ld (cNs 4) (wd v) (fun _=>ac)) 4 ?_
 refine rld 4 (hH.q 2 rfl) (.ld (cNs 4) (wd y) (fun _=>ac)) 8 ?_
 refine rx1k 2 (rpc 2 Tryz.func72 (cd 1 (by decide)) trivial hH 0 (.keep (.keep (.keep (.keep (.nil _ []))))) ?_)
 clear hH
 intro w hH
 refine ⟨pcons (hH.blk 2 rfl) (pcons (hH.blk 4 rfl) (pcons (hH.blk 2 rfl) (pcons (hH.blk 4 rfl) an))),?_⟩
 refine rx1k 5 (rpc 5 Tryz.func75 (aV v y lvv ly) trivial hH 6 (pgo [] (pgo [] (.keep (.keep (.nil _ []))))) ?_)
 clear hH
 intro w hH
 refine ⟨pcons (hH.blk 2 rfl) (pcons (hH.blk 4 rfl) an),?_⟩
 refine rv 6 (v:=(cPt.val (wd v,wd y,wd 1,wd (tm v y)))) (fun _ _ hF=>aG (cells:=cPt.enc (wd v,wd y,wd 1,wd (tm v y))) rfl (EvP.cons (v:=((cNs 4).val (wd v))) (hF.ev 3 rfl) (EvP.cons (v:=((cNs 4).val (wd y))) (hF.ev 2 rfl) (EvP.cons (v:=((cNs 4).val (wd 1))) (hF.ev 1 rfl) (EvP.cons (v:=((cNs 4).val (wd (tm v y)))) (hF.ev 0 rfl) EvP.nil)))) (gc (x:=(wd v,wd y,wd 1,wd (tm v y))) (by kernel_rfl) rfl rfl rfl rfl) _) 15 ?_
 refine rx1k 7 ?_
 refine re0 7 1 hH rfl (.sw cPt (fun _=>0,fun _=>0,fun _=>0,fun _=>0) (wd v,wd y,wd 1,wd (tm v y))) trivial (pgo [] (pgo [] (.nil _ []))) ?_
 clear hH
 rintro _ _ w rfl hH
 refine ⟨an,rv 8 .mv 1 ?_⟩
 refine rn ?_
 refine au (bj 1 0 (hH.blk 1 rfl) rfl rfl rfl (by kernel_rfl) (Cod.size _ _) (by kernel_rfl) ?_)
 have hok:rOk (dcQ (lv (dPt b) 32)):=by rw [← hy,← hQ]; exact Decidable.not_not.1 hc10
 have hno:¬ (xr=0∧(sr8 (b 31) 7).toNat=1):=by first | exact fun hc=>hg11 hc.1 | exact fun hc=>hg11 hc.2
 have he:dcR b=((v,y,1,tm v y),true):=by unfold dcR; rw [if_pos (show lv (dPt b) 32<pN from Decidable.not_not.1 hc6),if_pos hok,← hy,← hx,if_neg hno,← hv]
 exact ⟨by rw [he]; rfl,HH.toBelow hH⟩
def bsE (n:Nat→UInt8):Nat→UInt8:=pEn (pOf n (dcR gq).1 256)
theorem w9 (n:Nat→UInt8):Pure Tryz.prog 44 #[((ae 32).val n)] (fun _=>True) ((ae 32).val (bsE n)):=by
 refine pU Tryz.func44 Tryz.ntmps44 ?_
 intro w0 hH hR
 refine zr (zm hH (.bx (ae 32) n) trivial 1 ?_)
 clear hH
 rintro _ _ w ⟨g1,rfl,rfl⟩ hH
 refine zm hH (.al (ae 32) (fun _=>0)) trivial 0 ?_
 clear hH
 rintro _ _ w ⟨g2,rfl,rfl⟩ hH
 refine zn (zr (zc Tryz.func84 (zV) trivial hH 0 ?_))
 clear hH
 intro w hH
 refine zc Tryz.func83 (zW gq) trivial hH 1 ?_
 clear hH
 intro w hH
 refine zv .mv 1 ?_
 refine zv .ext 0 ?_
 refine zv .ext 2 ?_
 refine zm hH (.al cPt (fun _=>0,fun _=>0,fun _=>0,fun _=>0)) trivial 0 ?_
 clear hH
 rintro _ _ w ⟨g3,rfl,rfl⟩ hH
 refine ze0 2 hH rfl (.sw cPt (fun _=>0,fun _=>0,fun _=>0,fun _=>0) (wd ((dcR gq).1).1,wd ((dcR gq).1).2.1,wd ((dcR gq).1).2.2.1,wd ((dcR gq).1).2.2.2)) trivial ?_
 clear hH
 rintro _ _ w rfl hH
 refine zv .mv 6 ?_
 refine zn (zr (zs (hH.q 0 rfl) (.ld (ae 32) n (fun _=>ac)) 9 ?_))
 refine zs (hH.q 2 rfl) (.ld cPt (wd ((dcR gq).1).1,wd ((dcR gq).1).2.1,wd ((dcR gq).1).2.2.1,wd ((dcR gq).1).2.2.2) (fun _=>ac)) 2 ?_
 refine zc Tryz.func86 (uT n ((dcR gq).1) (uV gq)) trivial hH 3 ?_
 clear hH
 intro w hH
 refine zc Tryz.func85 (zU (pOf n ((dcR gq).1) 256) (jb (uV gq) _)) trivial hH 1 ?_
 clear hH
 intro w hH
 refine ze0 1 hH rfl (.sw (ae 32) (fun _=>0) (pEn (pOf n ((dcR gq).1) 256))) trivial ?_
 clear hH
 rintro _ _ w rfl hH
 refine zn (au (aH 1 (hH.blk 1 rfl) rfl rfl (by kernel_rfl) (Cod.size _ _) (by kernel_rfl) ?_))
 exact ⟨rfl,HH.toBelow hH⟩
def rhB (X:Nat→UInt8):Nat→UInt8:=stF (stF (ovr (((lst 64 X).take 32).take 32) fun _=>0) 0 (ovr (((lst 64 X).take 32).take 32) (fun _=>0) 0 &&& 248)) 31 ((stF (ovr (((lst 64 X).take 32).take 32) fun _=>0) 0 (ovr (((lst 64 X).take 32).take 32) (fun _=>0) 0 &&& 248) 31 &&& 127) ||| 64)
def rEd (s:Nat→UInt8):Nat→UInt8:=bsE (rhB (bM (lst 32 s)))
theorem sF (s:Nat→UInt8):Does Tryz.prog 43 #[((ae 32).val s)] [] (fun _=>True) (fun v E' => ∃ q l,v=.tuple #[(ae 32).val (rhB (bM (lst 32 s))),q]∧OwnT af 5 q l E'):=by
 refine dU Tryz.func43 Tryz.ntmps43 ?_
 intro w0 hH hR
 replace hH:HH w0 [] [] w0:=hH.only [false]
 refine zr (zm hH (.bx (ae 32) s) trivial 1 ?_)
 clear hH
 rintro _ _ w ⟨g1,rfl,rfl⟩ hH
 refine zm hH (.al (ae 32) (fun _=>0)) trivial 0 ?_
 clear hH
 rintro _ _ w ⟨g2,rfl,rfl⟩ hH
 refine zv .mv 0 ?_
 refine zn (zr (zv (v:=(.slice (some ⟨g1,0,none⟩) 32 32)) (fun _ _ hF=>aY (n:=32) (e:=5) (sz:=1) rfl (by kernel_rfl) (by kernel_rfl) (hF.ev 2 rfl)) 5 ?_))
 refine zc Tryz.func82 (w7 (some ⟨g1,0,none⟩) 32 32 (lst 32 s) (by decide)) (bp (hH.blk 0 rfl)) hH 1 ?_
 clear hH
 intro w hH
 refine zm hH (.al (ae 64) (fun _=>0)) trivial 0 ?_
 clear hH
 rintro _ _ w ⟨g3,rfl,rfl⟩ hH
 refine ze0 2 hH rfl (.sw (ae 64) (fun _=>0) (bM (lst 32 s))) trivial ?_
 clear hH
 rintro _ _ w rfl hH
 refine zn ?_
 obtain ⟨X,hX⟩:∃ X,X=bM (lst 32 s):=⟨_,rfl⟩
 replace hH:HH w0 [] [[bl g1 22 ((ae 32).enc s)],[bl g2 22 ((ae 32).enc (fun _=>0))],[bl g3 93 ((ae 64).enc X)]] w:=by rw [hX]; exact hH
 refine zr (zm hH (.al (ae 32) (fun _=>0)) trivial 2 ?_)
 clear hH
 rintro _ _ w ⟨g4,rfl,rfl⟩ hH
 refine zn (zx ?_)
 replace hH:=hH.drew
 refine rv 0 (v:=(.slice (some ⟨g4,0,none⟩) 32 32)) (fun _ _ hF=>aY (n:=32) (e:=5) (sz:=1) rfl (by kernel_rfl) (by kernel_rfl) (hF.ev 0 rfl)) 0 ?_
 refine rv 1 (v:=(.slice (some ⟨g3,0,none⟩) 32 64)) (fun _ _ hF=>ex (m:=64) (h:=32) (e:=5) (sz:=1) rfl (by kernel_rfl) (by kernel_rfl) (hF.ev 2 rfl) rfl rfl (by omega)) 0 ?_
 refine rx1k 2 ?_
 refine re 2 3 hH rfl (fun _ hF=>eM (C:=af) (m:=((lst 64 X).take 32)) (e:=5) 32 rfl rfl (by kernel_rfl) (by kernel_rfl) (ltb rfl) (hF.ev 1 rfl) (hF.ev 0 rfl) (by rw [List.length_take,ao]; rfl) (by rw [Cod.size]; show 0+32*1≤32; omega) (hJ _ _)) ((bp (hH.blk 2 rfl)).head (m:=32) (by omega)) 3 (.nil _ []) ?_
 clear hH
 rintro _ _ w ⟨rfl,rfl⟩ hH
 refine ⟨an,rn ?_⟩
 refine zr ?_
 have hi5:0<32:=by omega
 refine zv (.ia 1 32 0 (hi:=hi5)) 1 ?_
 refine zs (hH.q 3 rfl) (.ld af ((ovr (((lst 64 X).take 32).take 32) (fun _=>0)) 0) (fun _ hS=>((ac hS).elt hi5))) 1 ?_
 refine zv (.ab (((ovr (((lst 64 X).take 32).take 32) (fun _=>0)) 0) &&& (248:UInt8)) (u:=((ovr (((lst 64 X).take 32).take 32) (fun _=>0)) 0)) (v:=(248:UInt8))) 1 ?_
 have hi6:0<32:=by omega
 refine zv (.ia 1 32 0 (hi:=hi6)) 0 ?_
 refine ze0 3 hH rfl (.st af (((ovr (((lst 64 X).take 32).take 32) (fun _=>0)) 0) &&& (248:UInt8)) (aW (S:=sBy) (C:=(ae 32)) rfl hi6) (aQ (ovr (((lst 64 X).take 32).take 32) (fun _=>0)) (((ovr (((lst 64 X).take 32).take 32) (fun _=>0)) 0) &&& (248:UInt8)) hi6)) trivial ?_
 clear hH
 rintro _ _ w rfl hH
 refine zn (zr ?_)
 have hi7:31<32:=by omega
 refine zv (.ia 1 32 31 (hi:=hi7)) 3 ?_
 refine zs (hH.q 3 rfl) (.ld af ((stF (ovr (((lst 64 X).take 32).take 32) (fun _=>0)) 0 (((ovr (((lst 64 X).take 32).take 32) (fun _=>0)) 0) &&& (248:UInt8))) 31) (fun _ hS=>((ac hS).elt hi7))) 1 ?_
 refine zv (.ab (((stF (ovr (((lst 64 X).take 32).take 32) (fun _=>0)) 0 (((ovr (((lst 64 X).take 32).take 32) (fun _=>0)) 0) &&& (248:UInt8))) 31) &&& (127:UInt8)) (u:=((stF (ovr (((lst 64 X).take 32).take 32) (fun _=>0)) 0 (((ovr (((lst 64 X).take 32).take 32) (fun _=>0)) 0) &&& (248:UInt8))) 31)) (v:=(127:UInt8))) 1 ?_
 refine zv (.ob ((((stF (ovr (((lst 64 X).take 32).take 32) (fun _=>0)) 0 (((ovr (((lst 64 X).take 32).take 32) (fun _=>0)) 0) &&& (248:UInt8))) 31) &&& (127:UInt8)) ||| (64:UInt8)) (u:=(((stF (ovr (((lst 64 X).take 32).take 32) (fun _=>0)) 0 (((ovr (((lst 64 X).take 32).take 32) (fun _=>0)) 0) &&& (248:UInt8))) 31) &&& (127:UInt8))) (v:=(64:UInt8))) 1 ?_
 have hi8:31<32:=by omega
 refine zv (.ia 1 32 31 (hi:=hi8)) 0 ?_
 refine ze0 3 hH rfl (.st af ((((stF (ovr (((lst 64 X).take 32).take 32) (fun _=>0)) 0 (((ovr (((lst 64 X).take 32).take 32) (fun _=>0)) 0) &&& (248:UInt8))) 31) &&& (127:UInt8)) ||| (64:UInt8)) (aW (S:=sBy) (C:=(ae 32)) rfl hi8) (aQ (stF (ovr (((lst 64 X).take 32).take 32) (fun _=>0)) 0 (((ovr (((lst 64 X).take 32).take 32) (fun _=>0)) 0) &&& (248:UInt8))) ((((stF (ovr (((lst 64 X).take 32).take 32) (fun _=>0)) 0 (((ovr (((lst 64 X).take 32).take 32) (fun _=>0)) 0) &&& (248:UInt8))) 31) &&& (127:UInt8)) ||| (64:UInt8)) hi8)) trivial ?_
 clear hH
 rintro _ _ w rfl hH
 refine zn (zx ?_)
 replace hH:=hH.drew
 refine rld 0 (hH.q 3 rfl) (.ld (ae 32) (stF (stF (ovr (((lst 64 X).take 32).take 32) (fun _=>0)) 0 (((ovr (((lst 64 X).take 32).take 32) (fun _=>0)) 0) &&& (248:UInt8))) 31 ((((stF (ovr (((lst 64 X).take 32).take 32) (fun _=>0)) 0 (((ovr (((lst 64 X).take 32).take 32) (fun _=>0)) 0) &&& (248:UInt8))) 31) &&& (127:UInt8)) ||| (64:UInt8))) (fun _=>ac)) 7 ?_
 refine rv 2 (v:=(.slice (some ⟨g3,0+32*1,none⟩) (64 - 32) (64 - 32))) (fun _ _ hF=>dC (m:=64) (l:=32) (e:=5) (sz:=1) rfl (by kernel_rfl) (by kernel_rfl) (hF.ev 1 rfl) rfl rfl (by omega)) 2 ?_
 refine rx1k 1 ?_
 refine rm 1 hH (fun _ hF=>l7 (e:=5) rfl (by kernel_rfl) (by kernel_rfl)) trivial 0 (.keep (.nil _ [])) ?_
 clear hH
 rintro _ _ w ⟨g9,rfl,rfl⟩ hH
 refine ⟨pcons (hH.blk 3 rfl) an,?_⟩
 refine rx1k 3 ?_
 refine re 3 4 hH rfl (fun _ hF=>ck (C:=af) (l:=[]) (m:=((lst 64 X).drop 32)) (e:=5) (z:=(.int .u8 0)) (by_:=1) rfl (by kernel_rfl) (by kernel_rfl) rfl (ltb rfl) (hF.ev 0 rfl) ((Bk.lit0 (C:=af)).own 5 g9 rfl) (hF.ev 1 rfl) (by rw [List.length_drop,ao]) (fun h=>by cases h) (by rw [List.length_nil]; unfold maxLen; omega) (by rw [List.length_nil]; omega)) (bK (sz:=1) (b:=g3) (off:=0) (c:=64) (k:=32) (by omega) ▸ ((bp (hH.blk 2 rfl)).from (k:=32) (by omega))) 3 (.keep (.nil _ [])) ?_
 clear hH
 rintro v12 E13 w ⟨hO14,_⟩ hH
 replace hO14:OwnT af 5 v12 ((lst 64 X).drop 32) E13:=hO14
 obtain ⟨A10,c11,rfl⟩:=hO14.slice
 refine ⟨pcons (hH.blk 3 rfl) an,?_⟩
 refine rx1k 4 ?_
 refine re0 4 1 hH rfl (.sw (ae 32) (fun _=>0) (stF (stF (ovr (((lst 64 X).take 32).take 32) (fun _=>0)) 0 (((ovr (((lst 64 X).take 32).take 32) (fun _=>0)) 0) &&& (248:UInt8))) 31 ((((stF (ovr (((lst 64 X).take 32).take 32) (fun _=>0)) 0 (((ovr (((lst 64 X).take 32).take 32) (fun _=>0)) 0) &&& (248:UInt8))) 31) &&& (127:UInt8)) ||| (64:UInt8)))) trivial (pgo [] (.nil _ [])) ?_
 clear hH
 rintro _ _ w rfl hH
 refine ⟨an,rv 5 .mv 3 ?_⟩
 refine rn ?_
 refine au (bj 1 0 (hH.blk 1 rfl) rfl rfl rfl (by kernel_rfl) (Cod.size _ _) (by kernel_rfl) ?_)
 subst hX
 exact ⟨_,_,rfl,⟨_,_,rfl,hO14⟩,hH.out1 [false,false,false,false,true] rfl⟩
theorem xW (s:Nat→UInt8):Pure Tryz.prog 25 #[((ae 32).val s)] (fun _=>True) ((ae 32).val (rEd s)):=by
 refine pU Tryz.func25 Tryz.ntmps25 ?_
 intro w0 hH hR
 refine zr (zm hH (.bx (ae 32) s) trivial 1 ?_)
 clear hH
 rintro _ _ w ⟨g1,rfl,rfl⟩ hH
 refine zm hH (.al (ae 32) (fun _=>0)) trivial 0 ?_
 clear hH
 rintro _ _ w ⟨g2,rfl,rfl⟩ hH
 refine zn (zr (zs (hH.q 0 rfl) (.ld (ae 32) s (fun _=>ac)) 2 ?_))
 refine zm hH (.call Tryz.func43 (sF s)) trivial 1 ?_
 clear hH
 rintro _ E3 w ⟨q4,l5,rfl,hO6⟩ hH
 refine zv .mv 1 ?_
 refine zv .ext 0 ?_
 refine zv .ext 2 ?_
 refine zm hH (.al (ae 32) (fun _=>0)) trivial 0 ?_
 clear hH
 rintro _ _ w ⟨g7,rfl,rfl⟩ hH
 refine ze0 3 hH rfl (.sw (ae 32) (fun _=>0) (rhB (bM (lst 32 s)))) trivial ?_
 clear hH
 rintro _ _ w rfl hH
 refine zv .mv 6 ?_
 refine zn (zr (zs (hH.q 3 rfl) (.ld (ae 32) (rhB (bM (lst 32 s))) (fun _=>ac)) 3 ?_))
 refine zc Tryz.func44 (w9 (rhB (bM (lst 32 s)))) trivial hH 1 ?_
 clear hH
 intro w hH
 refine ze0 1 hH rfl (.sw (ae 32) (fun _=>0) (bsE (rhB (bM (lst 32 s))))) trivial ?_
 clear hH
 rintro _ _ w rfl hH
 refine zn (au (aH 1 (hH.blk 1 rfl) rfl rfl (by kernel_rfl) (Cod.size _ _) (by kernel_rfl) ?_))
 exact ⟨rfl,HH.toBelow hH⟩
theorem og {s i:Nat} {v:Value} {r:List (Nat×Value)} {cs:Array Value} (hv:v.cells.size=s) (hf:i*s+s≤cs.size):Instr.fill (fun i=>some (i*s,s)) cs ((i,v) :: r)=Instr.fill (fun i=>some (i*s,s)) (bJ cs (i*s) v.cells.toList) r:=by
 conv=>lhs; unfold Instr.fill
 simp only [hv]
 rw [if_neg (by simp; omega)]
 have hq:=e8 v.cells.toList (i*s) cs 0
 rw [Nat.add_zero] at hq
 rw [← Array.foldl_toList,Array.toList_zipIdx,hq]
def uW (P:Program) (ty:TypeId) (s:Nat):Bool:=match P.underlying ty with
 | some (.array _ e)=>(P.info? e).map (·.size) == some s
 | _=>false
theorem ga {P:Program} {ty:TypeId} {a b:Nat→UInt8} {u v:Value} (h:uW P ty 32=true) (hz:((P.info? ty).bind (·.zero)).map (·.cells)=some ((ae 64).enc (fun _=>0))) (hu:(ae 32).val a=u) (hv:(ae 32).val b=v):P.built ty [(0,u),(1,v)]=some ((ae 64).enc (kQ (kQ (fun _=>0) 0 a) 1 b)):=by
 subst hu hv
 unfold uW at h
 unfold Program.built
 cases hi:P.info? ty with
 | none=>rw [hi] at hz; cases hz
 | some it =>
  rw [hi] at hz
  cases hd:P.underlying ty with
  | none=>rw [hd] at h; cases h
  | some d =>
   rw [hd] at h
   cases d <;> try (cases h; done)
   rename_i len e
   simp only at h ⊢
   cases hzz:it.zero with
   | none=>simp [hzz] at hz
   | some zv =>
    cases he:P.info? e with
    | none=>rw [he] at h; cases h
    | some ie =>
     rw [he] at h
     have hs:ie.size=32:=by simpa using h
     have hc:zv.cells=(ae 64).enc (fun _=>0):=by simpa [hzz] using hz
     have z0:((ae 64).enc (fun _=>0)).size=64:=(ae 64).size _
     simp only [hs,hc]
     rw [og (s:=32) (i:=0) ((ae 32).len a) (by rw [z0]; decide),og (s:=32) (i:=1) ((ae 32).len b) (by rw [putL_size,z0]; decide)]
     show some (bJ (bJ ((ae 64).enc fun _=>0) (0*32) ((ae 32).enc a).toList) (1*32) ((ae 32).enc b).toList)=_
     rw [mF,mF]
theorem BB (k:Bt×Bt) (t:Nat) (ht:t<4294967296):Pure Tryz.prog 10 #[(cKy.val k),(.int .u32 t)] (fun _=>True) (cCe.val (aN sha t (rEd k.1) (aI k.2))):=by
 refine pU Tryz.func10 Tryz.ntmps10 ?_
 intro w0 hH hR
 refine zr (zm hH (.bx cKy k) trivial 1 ?_)
 clear hH
 rintro _ _ w ⟨g1,rfl,rfl⟩ hH
 refine zm hH (.al cCe (0,fun _=>0,fun _=>0,fun _=>0)) trivial 0 ?_
 clear hH
 rintro _ _ w ⟨g2,rfl,rfl⟩ hH
 refine zn (zx ?_)
 replace hH:=hH.drew
 refine rv 0 .mv 0 ?_
 refine rv 1 (.fld 0) 0 ?_
 refine rld 2 (hH.q 0 rfl) (.ld (ae 32) k.1 (fun _ hS=>(ac hS).fst)) 1 ?_
 refine rv 4 (.fld 32) 8 ?_
 refine rld 5 (hH.q 0 rfl) (.ld (ae 32) k.2 (fun _ hS=>(ac hS).snd)) 1 ?_
 refine rx2 3 8 (by kernel_rfl) ?_ ?_
 refine rpc 3 Tryz.func25 (xW k.1) trivial hH 2 (.keep (pgo [] (.nil _ []))) ?_
 clear hH
 intro w hH
 refine ⟨pcons (hH.blk 0 rfl) an,?_⟩
 refine rx2 6 8 (by kernel_rfl) ?_ ?_
 refine rpc 6 Tryz.func21 (mQ k.2) trivial hH 2 (pgo [] (.nil _ [])) ?_
 clear hH
 intro w hH
 refine ⟨an,rv 7 (v:=(cCe.val (t,rEd k.1,aI k.2,fun _=>0))) (fun _ _ hF=>aG (cells:=cCe.enc (t,rEd k.1,aI k.2,fun _=>0)) rfl (EvP.cons (v:=(.int .u32 t)) (hF.ev 2 rfl) (EvP.cons (v:=((ae 32).val (rEd k.1))) (hF.ev 1 rfl) (EvP.cons (v:=((ae 32).val (aI k.2))) (hF.ev 0 rfl) EvP.nil))) (gR (A:=fo .u32) (B:=ae 32) (C:=ae 32) (D:=ae 64) 0 (fun _=>0) (fun _=>0) (fun _=>0) (by kernel_rfl) (by kernel_rfl) rfl rfl rfl) _) 7 ?_⟩
 refine rx1k 8 ?_
 refine rm 8 hH (.al cCe (0,fun _=>0,fun _=>0,fun _=>0)) trivial 0 (.nil _ []) ?_
 clear hH
 rintro _ _ w ⟨g3,rfl,rfl⟩ hH
 refine ⟨an,rx1k 9 ?_⟩
 refine re0 9 2 hH rfl (.sw cCe (0,fun _=>0,fun _=>0,fun _=>0) (t,rEd k.1,aI k.2,fun _=>0)) trivial (.nil _ []) ?_
 clear hH
 rintro _ _ w rfl hH
 refine ⟨an,rn ?_⟩
 refine zx ?_
 replace hH:=hH.drew
 refine rv 0 .mv 2 ?_
 refine rv 1 (.fld 1) 0 ?_
 refine rld 2 (hH.q 2 rfl) (.ld (ae 32) (rEd k.1) (fun _ hS=>((ac hS).snd).fst)) 1 ?_
 refine rv 5 .mv 16 ?_
 refine rv 6 (.fld 33) 0 ?_
 refine rld 7 (hH.q 2 rfl) (.ld (ae 32) (aI k.2) (fun _ hS=>(((ac hS).snd).snd).fst)) 1 ?_
 refine rx1k 3 ?_
 refine rm 3 hH (.call Tryz.func27 ((lP t ht 27 (rEd k.1)))) trivial 12 (.keep (pgo [] (.nil _ []))) ?_
 clear hH
 rintro v8 E4 w hO5 hH
 obtain ⟨A6,c7,rfl⟩:=hO5.slice
 refine ⟨pcons (hH.blk 2 rfl) an,?_⟩
 refine rx1k 4 (rpc 4 Tryz.func26 (lQ A6 ((kpL t 27 (rEd k.1)).length) c7 (kpL t 27 (rEd k.1)) (by rw [eO]; omega)) (hO5.vuAt (hH.has 3 rfl)) hH 1 (.keep (.nil _ [])) ?_)
 clear hH
 intro w hH
 refine ⟨pcons (hH.blk 2 rfl) an,?_⟩
 refine rx1k 8 ?_
 refine rm 8 hH (.call Tryz.func27 ((lP t ht 25 (aI k.2)))) trivial 6 (pgo [] (.nil _ [])) ?_
 clear hH
 rintro v14 E10 w hO11 hH
 obtain ⟨A12,c13,rfl⟩:=hO11.slice
 refine ⟨an,?_⟩
 refine rx1k 9 (rpc 9 Tryz.func26 (lQ A12 ((kpL t 25 (aI k.2)).length) c13 (kpL t 25 (aI k.2)) (by rw [eO]; omega)) (hO11.vuAt (hH.has 4 rfl)) hH 1 (.nil _ []) ?_)
 clear hH
 intro w hH
 refine ⟨an,rv 10 (v:=((ae 64).val (prB sha t (rEd k.1) (aI k.2)))) (fun _ _ hF=>aG (cells:=(ae 64).enc (prB sha t (rEd k.1) (aI k.2))) rfl (EvP.cons (v:=((ae 32).val (sha (hfL (kpL t 27 (rEd k.1)))))) (hF.ev 1 rfl) (EvP.cons (v:=((ae 32).val (sha (hfL (kpL t 25 (aI k.2)))))) (hF.ev 0 rfl) EvP.nil)) (ga (by kernel_rfl) (by kernel_rfl) rfl rfl) _) 3 ?_⟩
 refine rv 11 (.fld 65) 0 ?_
 refine rx1k 12 ?_
 refine re0 12 2 hH rfl (fun _ hF=>bY (C:=(ae 64)) (z:=(prB sha t (rEd k.1) (aI k.2))) rfl (hF.ev 0 rfl) (hF.ev 1 rfl) rfl (by kernel_rfl) (by rw [Cod.size]; exact leb rfl) (cm (cm (cm (cA (ae 64) _ _) rfl) rfl) rfl)) trivial (.nil _ []) ?_
 clear hH
 rintro _ _ w rfl hH
 refine ⟨an,rn ?_⟩
 replace hH:HH w0 [] [[bl g1 24 (cKy.enc k)],[bl g2 36 (cCe.enc (0,fun _=>0,fun _=>0,fun _=>0))],[bl g3 36 (cCe.enc (aN sha t (rEd k.1) (aI k.2)))],E4,E10] w:=hH
 refine zr (zs (hH.q 2 rfl) (.ld cCe (aN sha t (rEd k.1) (aI k.2)) (fun _=>ac)) 7 ?_)
 refine ze0 1 hH rfl (.sw cCe (0,fun _=>0,fun _=>0,fun _=>0) (aN sha t (rEd k.1) (aI k.2))) trivial ?_
 clear hH
 rintro _ _ w rfl hH
 refine zn (au (aH 1 (hH.blk 1 rfl) rfl rfl (by kernel_rfl) (Cod.size _ _) (by kernel_rfl) ?_))
 exact ⟨rfl,HH.toBelow hH⟩
 refine rm 8 hH (.al cCe (0,fun _=>0,fun _=>0,fun _=>0)) trivial 0 (.keep (.nil _ [])) ?_
 clear hH
 rintro _ _ w ⟨g16,rfl,rfl⟩ hH
 refine ⟨pcons (hH.blk 0 rfl) an,?_⟩
 refine rx1k 6 (rpc 6 Tryz.func21 (mQ k.2) trivial hH 4 (pgo [] (.nil _ [])) ?_)
 clear hH
 intro w hH
 refine ⟨an,rv 7 (v:=(cCe.val (t,rEd k.1,aI k.2,fun _=>0))) (fun _ _ hF=>aG (cells:=cCe.enc (t,rEd k.1,aI k.2,fun _=>0)) rfl (EvP.cons (v:=(.int .u32 t)) (hF.ev 3 rfl) (EvP.cons (v:=((ae 32).val (rEd k.1))) (hF.ev 2 rfl) (EvP.cons (v:=((ae 32).val (aI k.2))) (hF.ev 0 rfl) EvP.nil))) (gR (A:=fo .u32) (B:=ae 32) (C:=ae 32) (D:=ae 64) 0 (fun _=>0) (fun _=>0) (fun _=>0) (by kernel_rfl) (by kernel_rfl) rfl rfl rfl) _) 13 ?_⟩
 refine rx1k 9 ?_
 refine re0 9 2 hH rfl (.sw cCe (0,fun _=>0,fun _=>0,fun _=>0) (t,rEd k.1,aI k.2,fun _=>0)) trivial (.nil _ []) ?_
 clear hH
 rintro _ _ w rfl hH
 refine ⟨an,rn ?_⟩
 refine zx ?_
 replace hH:=hH.drew
 refine rv 0 .mv 1 ?_
 refine rv 1 (.fld 1) 0 ?_
 refine rld 2 (hH.q 2 rfl) (.ld (ae 32) (rEd k.1) (fun _ hS=>((ac hS).snd).fst)) 1 ?_
 refine rv 5 .mv 16 ?_
 refine rv 6 (.fld 33) 0 ?_
 refine rld 7 (hH.q 2 rfl) (.ld (ae 32) (aI k.2) (fun _ hS=>(((ac hS).snd).snd).fst)) 1 ?_
 refine rx1k 3 ?_
 refine rm 3 hH (.call Tryz.func27 ((lP t ht 27 (rEd k.1)))) trivial 12 (.keep (pgo [] (.nil _ []))) ?_
 clear hH
 rintro v21 E17 w hO18 hH
 obtain ⟨A19,c20,rfl⟩:=hO18.slice
 refine ⟨pcons (hH.blk 2 rfl) an,?_⟩
 refine rx1k 4 (rpc 4 Tryz.func26 (lQ A19 ((kpL t 27 (rEd k.1)).length) c20 (kpL t 27 (rEd k.1)) (by rw [eO]; omega)) (hO18.vuAt (hH.has 3 rfl)) hH 1 (.keep (.nil _ [])) ?_)
 clear hH
 intro w hH
 refine ⟨pcons (hH.blk 2 rfl) an,?_⟩
 refine rx1k 8 ?_
 refine rm 8 hH (.call Tryz.func27 ((lP t ht 25 (aI k.2)))) trivial 6 (pgo [] (.nil _ [])) ?_
 clear hH
 rintro v27 E23 w hO24 hH
 obtain ⟨A25,c26,rfl⟩:=hO24.slice
 refine ⟨an,?_⟩
 refine rx1k 9 (rpc 9 Tryz.func26 (lQ A25 ((kpL t 25 (aI k.2)).length) c26 (kpL t 25 (aI k.2)) (by rw [eO]; omega)) (hO24.vuAt (hH.has 4 rfl)) hH 1 (.nil _ []) ?_)
 clear hH
 intro w hH
 refine ⟨an,rv 10 (v:=((ae 64).val (prB sha t (rEd k.1) (aI k.2)))) (fun _ _ hF=>aG (cells:=(ae 64).enc (prB sha t (rEd k.1) (aI k.2))) rfl (EvP.cons (v:=((ae 32).val (sha (hfL (kpL t 27 (rEd k.1)))))) (hF.ev 1 rfl) (EvP.cons (v:=((ae 32).val (sha (hfL (kpL t 25 (aI k.2)))))) (hF.ev 0 rfl) EvP.nil)) (ga (by kernel_rfl) (by kernel_rfl) rfl rfl) _) 3 ?_⟩
 refine rv 11 (.fld 65) 0 ?_
 refine rx1k 12 ?_
 refine re0 12 2 hH rfl (fun _ hF=>bY (C:=(ae 64)) (z:=(prB sha t (rEd k.1) (aI k.2))) rfl (hF.ev 0 rfl) (hF.ev 1 rfl) rfl (by kernel_rfl) (by rw [Cod.size]; exact leb rfl) (cm (cm (cm (cA (ae 64) _ _) rfl) rfl) rfl)) trivial (.nil _ []) ?_
 clear hH
 rintro _ _ w rfl hH
 refine ⟨an,rn ?_⟩
 replace hH:HH w0 [] [[bl g1 24 (cKy.enc k)],[bl g2 36 (cCe.enc (0,fun _=>0,fun _=>0,fun _=>0))],[bl g16 36 (cCe.enc (aN sha t (rEd k.1) (aI k.2)))],E17,E23] w:=hH
 refine zr (zs (hH.q 2 rfl) (.ld cCe (aN sha t (rEd k.1) (aI k.2)) (fun _=>ac)) 7 ?_)
 refine ze0 1 hH rfl (.sw cCe (0,fun _=>0,fun _=>0,fun _=>0) (aN sha t (rEd k.1) (aI k.2))) trivial ?_
 clear hH
 rintro _ _ w rfl hH
 refine zn (au (aH 1 (hH.blk 1 rfl) rfl rfl (by kernel_rfl) (Cod.size _ _) (by kernel_rfl) ?_))
 exact ⟨rfl,HH.toBelow hH⟩
 refine rm 8 hH (.al cCe (0,fun _=>0,fun _=>0,fun _=>0)) trivial 0 (.keep (.keep (.nil _ []))) ?_
 clear hH
 rintro _ _ w ⟨g29,rfl,rfl⟩ hH
 refine ⟨pcons (hH.blk 0 rfl) (pcons (hH.blk 0 rfl) an),?_⟩
 refine rx1k 3 (rpc 3 Tryz.func25 (xW k.1) trivial hH 4 (.keep (pgo [] (.nil _ []))) ?_)
 clear hH
 intro w hH
 refine ⟨pcons (hH.blk 0 rfl) an,?_⟩
 refine rx1k 6 (rpc 6 Tryz.func21 (mQ k.2) trivial hH 4 (pgo [] (.nil _ [])) ?_)
 clear hH
 intro w hH
 refine ⟨an,rv 7 (v:=(cCe.val (t,rEd k.1,aI k.2,fun _=>0))) (fun _ _ hF=>aG (cells:=cCe.enc (t,rEd k.1,aI k.2,fun _=>0)) rfl (EvP.cons (v:=(.int .u32 t)) (hF.ev 3 rfl) (EvP.cons (v:=((ae 32).val (rEd k.1))) (hF.ev 1 rfl) (EvP.cons (v:=((ae 32).val (aI k.2))) (hF.ev 0 rfl) EvP.nil))) (gR (A:=fo .u32) (B:=ae 32) (C:=ae 32) (D:=ae 64) 0 (fun _=>0) (fun _=>0) (fun _=>0) (by kernel_rfl) (by kernel_rfl) rfl rfl rfl) _) 11 ?_⟩
 refine rx1k 9 ?_
 refine re0 9 2 hH rfl (.sw cCe (0,fun _=>0,fun _=>0,fun _=>0) (t,rEd k.1,aI k.2,fun _=>0)) trivial (.nil _ []) ?_
 clear hH
 rintro _ _ w rfl hH
 refine ⟨an,rn ?_⟩
 refine zx ?_
 replace hH:=hH.drew
 refine rv 0 .mv 1 ?_
 refine rv 1 (.fld 1) 0 ?_
 refine rld 2 (hH.q 2 rfl) (.ld (ae 32) (rEd k.1) (fun _ hS=>((ac hS).snd).fst)) 1 ?_
 refine rv 5 .mv 16 ?_
 refine rv 6 (.fld 33) 0 ?_
 refine rld 7 (hH.q 2 rfl) (.ld (ae 32) (aI k.2) (fun _ hS=>(((ac hS).snd).snd).fst)) 1 ?_
 refine rx1k 3 ?_
 refine rm 3 hH (.call Tryz.func27 ((lP t ht 27 (rEd k.1)))) trivial 12 (.keep (pgo [] (.nil _ []))) ?_
 clear hH
 rintro v34 E30 w hO31 hH
 obtain ⟨A32,c33,rfl⟩:=hO31.slice
 refine ⟨pcons (hH.blk 2 rfl) an,?_⟩
 refine rx1k 4 (rpc 4 Tryz.func26 (lQ A32 ((kpL t 27 (rEd k.1)).length) c33 (kpL t 27 (rEd k.1)) (by rw [eO]; omega)) (hO31.vuAt (hH.has 3 rfl)) hH 1 (.keep (.nil _ [])) ?_)
 clear hH
 intro w hH
 refine ⟨pcons (hH.blk 2 rfl) an,?_⟩
 refine rx1k 8 ?_
 refine rm 8 hH (.call Tryz.func27 ((lP t ht 25 (aI k.2)))) trivial 6 (pgo [] (.nil _ [])) ?_
 clear hH
 rintro v40 E36 w hO37 hH
 obtain ⟨A38,c39,rfl⟩:=hO37.slice
 refine ⟨an,?_⟩
 refine rx1k 9 (rpc 9 Tryz.func26 (lQ A38 ((kpL t 25 (aI k.2)).length) c39 (kpL t 25 (aI k.2)) (by rw [eO]; omega)) (hO37.vuAt (hH.has 4 rfl)) hH 1 (.nil _ []) ?_)
 clear hH
 intro w hH
 refine ⟨an,rv 10 (v:=((ae 64).val (prB sha t (rEd k.1) (aI k.2)))) (fun _ _ hF=>aG (cells:=(ae 64).enc (prB sha t (rEd k.1) (aI k.2))) rfl (EvP.cons (v:=((ae 32).val (sha (hfL (kpL t 27 (rEd k.1)))))) (hF.ev 1 rfl) (EvP.cons (v:=((ae 32).val (sha (hfL (kpL t 25 (aI k.2)))))) (hF.ev 0 rfl) EvP.nil)) (ga (by kernel_rfl) (by kernel_rfl) rfl rfl) _) 3 ?_⟩
 refine rv 11 (.fld 65) 0 ?_
 refine rx1k 12 ?_
 refine re0 12 2 hH rfl (fun _ hF=>bY (C:=(ae 64)) (z:=(prB sha t (rEd k.1) (aI k.2))) rfl (hF.ev 0 rfl) (hF.ev 1 rfl) rfl (by kernel_rfl) (by rw [Cod.size]; exact leb rfl) (cm (cm (cm (cA (ae 64) _ _) rfl) rfl) rfl)) trivial (.nil _ []) ?_
 clear hH
 rintro _ _ w rfl hH
 refine ⟨an,rn ?_⟩
 replace hH:HH w0 [] [[bl g1 24 (cKy.enc k)],[bl g2 36 (cCe.enc (0,fun _=>0,fun _=>0,fun _=>0))],[bl g29 36 (cCe.enc (aN sha t (rEd k.1) (aI k.2)))],E30,E36] w:=hH
 refine zr (zs (hH.q 2 rfl) (.ld cCe (aN sha t (rEd k.1) (aI k.2)) (fun _=>ac)) 7 ?_)
 refine ze0 1 hH rfl (.sw cCe (0,fun _=>0,fun _=>0,fun _=>0) (aN sha t (rEd k.1) (aI k.2))) trivial ?_
 clear hH
 rintro _ _ w rfl hH
 refine zn (au (aH 1 (hH.blk 1 rfl) rfl rfl (by kernel_rfl) (Cod.size _ _) (by kernel_rfl) ?_))
 exact ⟨rfl,HH.toBelow hH⟩
theorem sG (S:Bt) (k:Bt×Bt) (t:Nat) (ht:t<4294967296) (d:Bt):Pure Tryz.prog 3 #[((ae 32).val S),(cKy.val k),(.int .u32 t),((ae 32).val d)] (fun w=>w.heap[4]?=some (.cells ((cQs 80).enc K64) 159 (0,0))∧w.heap[1]?=some (.cells ((cQs 8).enc H64) 141 (0,0))∧w.heap[3]?=some (.cells ((cWs 64).enc K32) 119 (0,0))∧w.heap[2]?=some (.cells ((cWs 8).enc H32) 118 (0,0))∧w.heap[0]?=some (.cells ((ae 256).enc ag) 103 (0,0))) (.bool true):=by
 refine pU Tryz.func3 Tryz.ntmps3 ?_
 intro w0 hH hR
 refine zr (zm hH (.bx (ae 32) S) trivial 1 ?_)
 clear hH
 rintro _ _ w ⟨g1,rfl,rfl⟩ hH
 refine zm hH (.bx cKy k) trivial 2 ?_
 clear hH
 rintro _ _ w ⟨g2,rfl,rfl⟩ hH
 refine zm hH (.bx (ae 32) d) trivial 8 ?_
 clear hH
 rintro _ _ w ⟨g3,rfl,rfl⟩ hH
 refine zv .mv 0 ?_
 refine zn (ak (zr (zm hH (.call Tryz.func6 (zK.does)) (⟨(hH.oldBlk hR.1 (by simp)),(hH.oldBlk hR.2.1 (by simp)),(hH.oldBlk hR.2.2.1 (by simp)),(hH.oldBlk hR.2.2.2.1 (by simp)),(hH.oldBlk hR.2.2.2.2 (by simp))⟩) 1 ?_)))
 clear hH
 rintro _ _ w ⟨rfl,rfl⟩ hH
 replace hH:HH w0 [] [[bl g1 22 ((ae 32).enc S)],[bl g2 24 (cKy.enc k)],[bl g3 22 ((ae 32).enc d)]] w:=hH.unpad
 refine zv (v:=(.bool false)) (fun _ _ hF=>el rfl (hF.ev 0 rfl) rfl) 1 ?_
 refine zn (zF ?_)
 refine av (ah ?_)
 have hs1:skE d (aN sha t (aX k.1) (aI k.2))=0:=mR _ _ _ rfl
 have hs2:skE d (aN sha t (rEd k.1) (aI k.2))=0:=mR _ _ _ rfl
 have hq:skL S (aN sha t (aX k.1) (aI k.2)) d=skL S (aN sha t (rEd k.1) (aI k.2)) d:=uP _ _ _ _ _ _ _
 have ho:lst 32 (opR (skL S (aN sha t (aX k.1) (aI k.2)) d) k.2 (aN sha t (aX k.1) (aI k.2))).1=lst 32 S∧(opR (skL S (aN sha t (aX k.1) (aI k.2)) d) k.2 (aN sha t (aX k.1) (aI k.2))).2=0:=uN rfl
 refine zx ?_
 replace hH:=hH.drew
 refine rld 0 (hH.q 0 rfl) (.ld (ae 32) S (fun _=>ac)) 1 ?_
 refine rld 1 (hH.q 1 rfl) (.ld cKy k (fun _=>ac)) 0 ?_
 refine rv 2 .mv 0 ?_
 refine rld 4 (hH.q 2 rfl) (.ld (ae 32) d (fun _=>ac)) 0 ?_
 refine rx1k 3 (rpc 3 Tryz.func8 (jK k t) (⟨(hH.oldBlk hR.1 (by simp)),(hH.oldBlk hR.2.1 (by simp)),(hH.oldBlk hR.2.2.1 (by simp)),(hH.oldBlk hR.2.2.2.1 (by simp))⟩) hH 6 (.keep (pgo [] (.keep (.nil _ [])))) ?_)
 clear hH
 intro w hH
 refine ⟨pcons (hH.blk 2 rfl) (pcons (hH.blk 0 rfl) an),?_⟩
 refine rx1k 5 ?_
 refine rm 5 hH (.call Tryz.func7 (uE S (aN sha t (aX k.1) (aI k.2)) d)) (⟨(hH.oldBlk hR.2.2.1 (by simp)),(hH.oldBlk hR.2.2.2.1 (by simp)),(hH.oldBlk hR.2.2.2.2 (by simp))⟩) 7 (pgo [] (pgo [] (.nil _ []))) ?_
 clear hH
 rintro _ E4 w ⟨s8,rfl,hO5⟩ hH
 obtain ⟨A6,c7,rfl⟩:=hO5.slice
 refine ⟨an,rv 6 .mv 1 ?_⟩
 refine rv 7 .ext 0 ?_
 refine rv 8 .ext 2 ?_
 refine rv 9 .mv 2 ?_
 refine rv 10 .mv 2 ?_
 refine rn ?_
 refine zx ?_
 replace hH:=hH.drew
 refine rld 0 (hH.q 0 rfl) (.ld (ae 32) S (fun _=>ac)) 0 ?_
 refine rld 1 (hH.q 1 rfl) (.ld cKy k (fun _=>ac)) 0 ?_
 refine rv 2 .mv 0 ?_
 refine rld 4 (hH.q 2 rfl) (.ld (ae 32) d (fun _=>ac)) 32 ?_
 refine rx1k 3 (rpc 3 Tryz.func10 (BB k t ht) trivial hH 6 (.keep (pgo [] (.keep (.nil _ [])))) ?_)
 clear hH
 intro w hH
 refine ⟨pcons (hH.blk 2 rfl) (pcons (hH.blk 0 rfl) an),?_⟩
 refine rx1k 5 ?_
 refine rm 5 hH (.call Tryz.func9 (wU S (aN sha t (rEd k.1) (aI k.2)) d)) trivial 7 (pgo [] (pgo [] (.nil _ []))) ?_
 clear hH
 rintro _ E10 w ⟨s14,rfl,hO11⟩ hH
 obtain ⟨A12,c13,rfl⟩:=hO11.slice
 refine ⟨an,rv 6 .mv 1 ?_⟩
 refine rv 7 .ext 0 ?_
 refine rv 8 .ext 2 ?_
 refine rv 9 .mv 2 ?_
 refine rv 10 .mv 2 ?_
 refine rn ?_
 refine zx ?_
 replace hH:=hH.drew
 refine rv 0 .mv 0 ?_
 refine rld 1 (hH.q 1 rfl) (.ld cKy k (fun _=>ac)) 0 ?_
 refine rld 2 (hH.q 1 rfl) (.ld cKy k (fun _=>ac)) 64 ?_
 refine rv 3 .mv 256 ?_
 refine rx2 4 9 (by kernel_rfl) ?_ ?_
 refine rpc 4 Tryz.func8 (jK k t) (⟨(hH.oldBlk hR.1 (by simp)),(hH.oldBlk hR.2.1 (by simp)),(hH.oldBlk hR.2.2.1 (by simp)),(hH.oldBlk hR.2.2.2.1 (by simp))⟩) hH 3 (pgo [] (.keep (.nil _ []))) ?_
 clear hH
 intro w hH
 refine ⟨pcons (hH.blk 1 rfl) an,?_⟩
 refine rx2 5 9 (by kernel_rfl) ?_ ?_
 refine rpc 5 Tryz.func11 (pl A6 ((skL S (aN sha t (aX k.1) (aI k.2)) d).length) c7 (skL S (aN sha t (aX k.1) (aI k.2)) d) k (aN sha t (aX k.1) (aI k.2))) (⟨(hH.oldBlk hR.2.2.1 (by simp)),(hH.oldBlk hR.2.2.2.1 (by simp)),(hH.oldBlk hR.2.2.2.2 (by simp)),(hO5.vuAt (hH.has 3 rfl))⟩) hH 7 (pgo [] (.nil _ [])) ?_
 clear hH
 intro w hH
 refine ⟨an,rv 6 .mv 1 ?_⟩
 refine rv 7 .ext 0 ?_
 refine rv 8 .ext 2 ?_
 refine rx1k 9 ?_
 refine rm 9 hH (.al (ae 32) (fun _=>0)) trivial 0 (.nil _ []) ?_
 clear hH
 rintro _ _ w ⟨g16,rfl,rfl⟩ hH
 refine ⟨an,rx1k 10 ?_⟩
 refine re0 10 5 hH rfl (.sw (ae 32) (fun _=>0) ((opR (skL S (aN sha t (aX k.1) (aI k.2)) d) k.2 (aN sha t (aX k.1) (aI k.2))).1)) trivial (.nil _ []) ?_
 clear hH
 rintro _ _ w rfl hH
 refine ⟨an,rv 11 .mv 6 ?_⟩
 refine rn ?_
 refine zr (zv .mv 32 ?_)
 refine zs (S:=fun w=>Vu af w A6 ((skL S (aN sha t (aX k.1) (aI k.2)) d).length) c7 (skL S (aN sha t (aX k.1) (aI k.2)) d)) (hO5.vuAt (hH.has 3 rfl)) (v:=(.string (gn (skL S (aN sha t (aX k.1) (aI k.2)) d)))) (fun _ _ hF hS=>jj (e:=5) rfl (by kernel_rfl) (by kernel_rfl) (by kernel_rfl) (hF.ev 0 rfl) hS) 1 ?_
 refine zv .mv 16 ?_
 refine zs (S:=fun w=>Vu af w A12 ((skL S (aN sha t (rEd k.1) (aI k.2)) d).length) c13 (skL S (aN sha t (rEd k.1) (aI k.2)) d)) (hO11.vuAt (hH.has 4 rfl)) (v:=(.string (gn (skL S (aN sha t (rEd k.1) (aI k.2)) d)))) (fun _ _ hF hS=>jj (e:=5) rfl (by kernel_rfl) (by kernel_rfl) (by kernel_rfl) (hF.ev 0 rfl) hS) 1 ?_
 refine zv (v:=(.bool true)) (fun _ _ hF=>oH (l:=(skL S (aN sha t (aX k.1) (aI k.2)) d)) (m:=(skL S (aN sha t (rEd k.1) (aI k.2)) d)) rfl (hF.ev 1 rfl) (hF.ev 0 rfl) (decide_eq_true (by rw [hq]))) 3 ?_
 refine zv .mv 1 ?_
 refine pxV (v:=(.int .i64 (((skE d (aN sha t (aX k.1) (aI k.2))):Nat):Int))) (fun _ _ hF=>bo rfl (hF.ev 4 rfl)) rfl (gOn 0 rfl rfl rfl (by decide)) (kA rfl) (by decide) ?_
 refine pxV (v:=(.int .i64 (((skE d (aN sha t (rEd k.1) (aI k.2))):Nat):Int))) (fun _ _ hF=>bo rfl (hF.ev 4 rfl)) rfl (gOn 1 rfl rfl rfl (by decide)) (kM [true,true,true,true,false,true,true] rfl rfl) (by decide) ?_
 refine pxV (v:=(.bool true)) (fun _ _ hF=>dH rfl (hF.ev 1 rfl) (hF.ev 0 rfl) (decide_eq_true (by rw [hs1,hs2]))) rfl (gOn 2 rfl rfl rfl (by decide)) (kM [false,false,true,true,true,true,true] rfl rfl) (by decide) ?_
 refine zv (v:=(.bool true)) (fun _ _ hF=>ce rfl (hF.ev 1 rfl) (hF.ev 0 rfl)) 3 ?_
 refine zv .mv 1 ?_
 refine pxV (v:=(.int .i64 (((skE d (aN sha t (aX k.1) (aI k.2))):Nat):Int))) (fun _ _ hF=>bo rfl (hF.ev 3 rfl)) rfl (gOn 0 rfl rfl rfl (by decide)) (kM [true,true,true,false,true] rfl rfl) (by decide) ?_
 refine pxV (v:=(.bool true)) (fun _ _ hF=>dH rfl (hF.ev 0 rfl) rfl (decide_eq_true (by rw [hs1]; rfl))) rfl (gOn 1 rfl rfl rfl (by decide)) (kM [false,true,true,true,true] rfl rfl) (by decide) ?_
 refine zv (v:=(.bool true)) (fun _ _ hF=>ce rfl (hF.ev 1 rfl) (hF.ev 0 rfl)) 3 ?_
 refine zv .mv 1 ?_
 refine pxV (v:=(.int .i64 ((((opR (skL S (aN sha t (aX k.1) (aI k.2)) d) k.2 (aN sha t (aX k.1) (aI k.2))).2):Nat):Int))) (fun _ _ hF=>bo rfl (hF.ev 1 rfl)) rfl (gOn 0 rfl rfl rfl (by decide)) (kM [true,false,true,true] rfl rfl) (by decide) ?_
 refine pxV (v:=(.bool true)) (fun _ _ hF=>dH rfl (hF.ev 0 rfl) rfl (decide_eq_true (by rw [ho.2]; rfl))) rfl (gOn 1 rfl rfl rfl (by decide)) (kM [false,true,true,true] rfl rfl) (by decide) ?_
 refine zv (v:=(.bool true)) (fun _ _ hF=>ce rfl (hF.ev 1 rfl) (hF.ev 0 rfl)) 3 ?_
 refine zv .mv 1 ?_
 refine pxS (v:=((ae 32).val ((opR (skL S (aN sha t (aX k.1) (aI k.2)) d) k.2 (aN sha t (aX k.1) (aI k.2))).1))) (fun w=>w.heap[g16]?=some (.cells ((ae 32).enc ((opR (skL S (aN sha t (aX k.1) (aI k.2)) d) k.2 (aN sha t (aX k.1) (aI k.2))).1)) 22 (0,0))) (hH.blk 5 rfl) (fun _ _ hF hS=>fp (C:=(ae 32)) (y:=(opR (skL S (aN sha t (aX k.1) (aI k.2)) d) k.2 (aN sha t (aX k.1) (aI k.2))).1) rfl (hF.ev 1 rfl) (by kernel_rfl) (ac hS) rfl) rfl (gOn 0 rfl rfl rfl (by decide)) (kM [true,false,true] rfl rfl) (by decide) ?_
 refine pxS (v:=((ae 32).val S)) (fun w=>w.heap[g1]?=some (.cells ((ae 32).enc S) 22 (0,0))) (hH.blk 0 rfl) (fun _ _ hF hS=>fp (C:=(ae 32)) (y:=S) rfl (hF.ev 2 rfl) (by kernel_rfl) (ac hS) rfl) rfl (gOn 1 rfl rfl rfl (by decide)) (kM [true,true,false] rfl rfl) (by decide) ?_
 refine pxV (v:=(.bool true)) (fun _ _ hF=>jW (n:=32) (e:=5) (f:=(opR (skL S (aN sha t (aX k.1) (aI k.2)) d) k.2 (aN sha t (aX k.1) (aI k.2))).1) (g:=S) (p:=True) rfl (by kernel_rfl) (by kernel_rfl) (by kernel_rfl) (hF.ev 1 rfl) (hF.ev 0 rfl) (by kernel_rfl) ⟨fun _=>trivial,fun _=>ho.1⟩) rfl (gOn 2 rfl rfl rfl (by decide)) (kM [false,false,true] rfl rfl) (by decide) ?_
 refine zv (v:=(.bool true)) (fun _ _ hF=>ce rfl (hF.ev 1 rfl) (hF.ev 0 rfl)) 3 ?_
 refine zv .mv 1 ?_
 refine zn (au (aZ 0 rfl rfl ?_))
 exact ⟨rfl,HH.toBelow hH⟩
 refine rm 9 hH (.al (ae 32) (fun _=>0)) trivial 0 (.keep (.nil _ [])) ?_
 clear hH
 rintro _ _ w ⟨g17,rfl,rfl⟩ hH
 refine ⟨pcons (hH.blk 1 rfl) an,?_⟩
 refine rx1k 5 (rpc 5 Tryz.func11 (pl A6 ((skL S (aN sha t (aX k.1) (aI k.2)) d).length) c7 (skL S (aN sha t (aX k.1) (aI k.2)) d) k (aN sha t (aX k.1) (aI k.2))) (⟨(hH.oldBlk hR.2.2.1 (by simp)),(hH.oldBlk hR.2.2.2.1 (by simp)),(hH.oldBlk hR.2.2.2.2 (by simp)),(hO5.vuAt (hH.has 3 rfl))⟩) hH 14 (pgo [] (.nil _ [])) ?_)
 clear hH
 intro w hH
 refine ⟨an,rv 6 .mv 1 ?_⟩
 refine rv 7 .ext 0 ?_
 refine rv 8 .ext 2 ?_
 refine rx1k 10 ?_
 refine re0 10 5 hH rfl (.sw (ae 32) (fun _=>0) ((opR (skL S (aN sha t (aX k.1) (aI k.2)) d) k.2 (aN sha t (aX k.1) (aI k.2))).1)) trivial (.nil _ []) ?_
 clear hH
 rintro _ _ w rfl hH
 refine ⟨an,rv 11 .mv 3 ?_⟩
 refine rn ?_
 refine zr (zv .mv 32 ?_)
 refine zs (S:=fun w=>Vu af w A6 ((skL S (aN sha t (aX k.1) (aI k.2)) d).length) c7 (skL S (aN sha t (aX k.1) (aI k.2)) d)) (hO5.vuAt (hH.has 3 rfl)) (v:=(.string (gn (skL S (aN sha t (aX k.1) (aI k.2)) d)))) (fun _ _ hF hS=>jj (e:=5) rfl (by kernel_rfl) (by kernel_rfl) (by kernel_rfl) (hF.ev 0 rfl) hS) 1 ?_
 refine zv .mv 16 ?_
 refine zs (S:=fun w=>Vu af w A12 ((skL S (aN sha t (rEd k.1) (aI k.2)) d).length) c13 (skL S (aN sha t (rEd k.1) (aI k.2)) d)) (hO11.vuAt (hH.has 4 rfl)) (v:=(.string (gn (skL S (aN sha t (rEd k.1) (aI k.2)) d)))) (fun _ _ hF hS=>jj (e:=5) rfl (by kernel_rfl) (by kernel_rfl) (by kernel_rfl) (hF.ev 0 rfl) hS) 1 ?_
 refine zv (v:=(.bool true)) (fun _ _ hF=>oH (l:=(skL S (aN sha t (aX k.1) (aI k.2)) d)) (m:=(skL S (aN sha t (rEd k.1) (aI k.2)) d)) rfl (hF.ev 1 rfl) (hF.ev 0 rfl) (decide_eq_true (by rw [hq]))) 3 ?_
 refine zv .mv 1 ?_
 refine pxV (v:=(.int .i64 (((skE d (aN sha t (aX k.1) (aI k.2))):Nat):Int))) (fun _ _ hF=>bo rfl (hF.ev 4 rfl)) rfl (gOn 0 rfl rfl rfl (by decide)) (kA rfl) (by decide) ?_
 refine pxV (v:=(.int .i64 (((skE d (aN sha t (rEd k.1) (aI k.2))):Nat):Int))) (fun _ _ hF=>bo rfl (hF.ev 4 rfl)) rfl (gOn 1 rfl rfl rfl (by decide)) (kM [true,true,true,true,false,true,true] rfl rfl) (by decide) ?_
 refine pxV (v:=(.bool true)) (fun _ _ hF=>dH rfl (hF.ev 1 rfl) (hF.ev 0 rfl) (decide_eq_true (by rw [hs1,hs2]))) rfl (gOn 2 rfl rfl rfl (by decide)) (kM [false,false,true,true,true,true,true] rfl rfl) (by decide) ?_
 refine zv (v:=(.bool true)) (fun _ _ hF=>ce rfl (hF.ev 1 rfl) (hF.ev 0 rfl)) 3 ?_
 refine zv .mv 1 ?_
 refine pxV (v:=(.int .i64 (((skE d (aN sha t (aX k.1) (aI k.2))):Nat):Int))) (fun _ _ hF=>bo rfl (hF.ev 3 rfl)) rfl (gOn 0 rfl rfl rfl (by decide)) (kM [true,true,true,false,true] rfl rfl) (by decide) ?_
 refine pxV (v:=(.bool true)) (fun _ _ hF=>dH rfl (hF.ev 0 rfl) rfl (decide_eq_true (by rw [hs1]; rfl))) rfl (gOn 1 rfl rfl rfl (by decide)) (kM [false,true,true,true,true] rfl rfl) (by decide) ?_
 refine zv (v:=(.bool true)) (fun _ _ hF=>ce rfl (hF.ev 1 rfl) (hF.ev 0 rfl)) 3 ?_
 refine zv .mv 1 ?_
 refine pxV (v:=(.int .i64 ((((opR (skL S (aN sha t (aX k.1) (aI k.2)) d) k.2 (aN sha t (aX k.1) (aI k.2))).2):Nat):Int))) (fun _ _ hF=>bo rfl (hF.ev 1 rfl)) rfl (gOn 0 rfl rfl rfl (by decide)) (kM [true,false,true,true] rfl rfl) (by decide) ?_
 refine pxV (v:=(.bool true)) (fun _ _ hF=>dH rfl (hF.ev 0 rfl) rfl (decide_eq_true (by rw [ho.2]; rfl))) rfl (gOn 1 rfl rfl rfl (by decide)) (kM [false,true,true,true] rfl rfl) (by decide) ?_
 refine zv (v:=(.bool true)) (fun _ _ hF=>ce rfl (hF.ev 1 rfl) (hF.ev 0 rfl)) 3 ?_
 refine zv .mv 1 ?_
 refine pxS (v:=((ae 32).val ((opR (skL S (aN sha t (aX k.1) (aI k.2)) d) k.2 (aN sha t (aX k.1) (aI k.2))).1))) (fun w=>w.heap[g17]?=some (.cells ((ae 32).enc ((opR (skL S (aN sha t (aX k.1) (aI k.2)) d) k.2 (aN sha t (aX k.1) (aI k.2))).1)) 22 (0,0))) (hH.blk 5 rfl) (fun _ _ hF hS=>fp (C:=(ae 32)) (y:=(opR (skL S (aN sha t (aX k.1) (aI k.2)) d) k.2 (aN sha t (aX k.1) (aI k.2))).1) rfl (hF.ev 1 rfl) (by kernel_rfl) (ac hS) rfl) rfl (gOn 0 rfl rfl rfl (by decide)) (kM [true,false,true] rfl rfl) (by decide) ?_
 refine pxS (v:=((ae 32).val S)) (fun w=>w.heap[g1]?=some (.cells ((ae 32).enc S) 22 (0,0))) (hH.blk 0 rfl) (fun _ _ hF hS=>fp (C:=(ae 32)) (y:=S) rfl (hF.ev 2 rfl) (by kernel_rfl) (ac hS) rfl) rfl (gOn 1 rfl rfl rfl (by decide)) (kM [true,true,false] rfl rfl) (by decide) ?_
 refine pxV (v:=(.bool true)) (fun _ _ hF=>jW (n:=32) (e:=5) (f:=(opR (skL S (aN sha t (aX k.1) (aI k.2)) d) k.2 (aN sha t (aX k.1) (aI k.2))).1) (g:=S) (p:=True) rfl (by kernel_rfl) (by kernel_rfl) (by kernel_rfl) (hF.ev 1 rfl) (hF.ev 0 rfl) (by kernel_rfl) ⟨fun _=>trivial,fun _=>ho.1⟩) rfl (gOn 2 rfl rfl rfl (by decide)) (kM [false,false,true] rfl rfl) (by decide) ?_
 refine zv (v:=(.bool true)) (fun _ _ hF=>ce rfl (hF.ev 1 rfl) (hF.ev 0 rfl)) 3 ?_
 refine zv .mv 1 ?_
 refine zn (au (aZ 0 rfl rfl ?_))
 exact ⟨rfl,HH.toBelow hH⟩
 refine rm 9 hH (.al (ae 32) (fun _=>0)) trivial 0 (.keep (.keep (.nil _ []))) ?_
 clear hH
 rintro _ _ w ⟨g18,rfl,rfl⟩ hH
 refine ⟨pcons (hH.blk 1 rfl) (pcons (hH.blk 1 rfl) an),?_⟩
 refine rx1k 4 (rpc 4 Tryz.func8 (jK k t) (⟨(hH.oldBlk hR.1 (by simp)),(hH.oldBlk hR.2.1 (by simp)),(hH.oldBlk hR.2.2.1 (by simp)),(hH.oldBlk hR.2.2.2.1 (by simp))⟩) hH 6 (pgo [] (.keep (.nil _ []))) ?_)
 clear hH
 intro w hH
 refine ⟨pcons (hH.blk 1 rfl) an,?_⟩
 refine rx1k 5 (rpc 5 Tryz.func11 (pl A6 ((skL S (aN sha t (aX k.1) (aI k.2)) d).length) c7 (skL S (aN sha t (aX k.1) (aI k.2)) d) k (aN sha t (aX k.1) (aI k.2))) (⟨(hH.oldBlk hR.2.2.1 (by simp)),(hH.oldBlk hR.2.2.2.1 (by simp)),(hH.oldBlk hR.2.2.2.2 (by simp)),(hO5.vuAt (hH.has 3 rfl))⟩) hH 13 (pgo [] (.nil _ [])) ?_)
 clear hH
 intro w hH
 refine ⟨an,rv 6 .mv 1 ?_⟩
 refine rv 7 .ext 0 ?_
 refine rv 8 .ext 2 ?_
 refine rx1k 10 ?_
 refine re0 10 5 hH rfl (.sw (ae 32) (fun _=>0) ((opR (skL S (aN sha t (aX k.1) (aI k.2)) d) k.2 (aN sha t (aX k.1) (aI k.2))).1)) trivial (.nil _ []) ?_
 clear hH
 rintro _ _ w rfl hH
 refine ⟨an,rv 11 .mv 3 ?_⟩
 refine rn ?_
 refine zr (zv .mv 32 ?_)
 refine zs (S:=fun w=>Vu af w A6 ((skL S (aN sha t (aX k.1) (aI k.2)) d).length) c7 (skL S (aN sha t (aX k.1) (aI k.2)) d)) (hO5.vuAt (hH.has 3 rfl)) (v:=(.string (gn (skL S (aN sha t (aX k.1) (aI k.2)) d)))) (fun _ _ hF hS=>jj (e:=5) rfl (by kernel_rfl) (by kernel_rfl) (by kernel_rfl) (hF.ev 0 rfl) hS) 1 ?_
 refine zv .mv 16 ?_
 refine zs (S:=fun w=>Vu af w A12 ((skL S (aN sha t (rEd k.1) (aI k.2)) d).length) c13 (skL S (aN sha t (rEd k.1) (aI k.2)) d)) (hO11.vuAt (hH.has 4 rfl)) (v:=(.string (gn (skL S (aN sha t (rEd k.1) (aI k.2)) d)))) (fun _ _ hF hS=>jj (e:=5) rfl (by kernel_rfl) (by kernel_rfl) (by kernel_rfl) (hF.ev 0 rfl) hS) 1 ?_
 refine zv (v:=(.bool true)) (fun _ _ hF=>oH (l:=(skL S (aN sha t (aX k.1) (aI k.2)) d)) (m:=(skL S (aN sha t (rEd k.1) (aI k.2)) d)) rfl (hF.ev 1 rfl) (hF.ev 0 rfl) (decide_eq_true (by rw [hq]))) 3 ?_
 refine zv .mv 1 ?_
 refine pxV (v:=(.int .i64 (((skE d (aN sha t (aX k.1) (aI k.2))):Nat):Int))) (fun _ _ hF=>bo rfl (hF.ev 4 rfl)) rfl (gOn 0 rfl rfl rfl (by decide)) (kA rfl) (by decide) ?_
 refine pxV (v:=(.int .i64 (((skE d (aN sha t (rEd k.1) (aI k.2))):Nat):Int))) (fun _ _ hF=>bo rfl (hF.ev 4 rfl)) rfl (gOn 1 rfl rfl rfl (by decide)) (kM [true,true,true,true,false,true,true] rfl rfl) (by decide) ?_
 refine pxV (v:=(.bool true)) (fun _ _ hF=>dH rfl (hF.ev 1 rfl) (hF.ev 0 rfl) (decide_eq_true (by rw [hs1,hs2]))) rfl (gOn 2 rfl rfl rfl (by decide)) (kM [false,false,true,true,true,true,true] rfl rfl) (by decide) ?_
 refine zv (v:=(.bool true)) (fun _ _ hF=>ce rfl (hF.ev 1 rfl) (hF.ev 0 rfl)) 3 ?_
 refine zv .mv 1 ?_
 refine pxV (v:=(.int .i64 (((skE d (aN sha t (aX k.1) (aI k.2))):Nat):Int))) (fun _ _ hF=>bo rfl (hF.ev 3 rfl)) rfl (gOn 0 rfl rfl rfl (by decide)) (kM [true,true,true,false,true] rfl rfl) (by decide) ?_
 refine pxV (v:=(.bool true)) (fun _ _ hF=>dH rfl (hF.ev 0 rfl) rfl (decide_eq_true (by rw [hs1]; rfl))) rfl (gOn 1 rfl rfl rfl (by decide)) (kM [false,true,true,true,true] rfl rfl) (by decide) ?_
 refine zv (v:=(.bool true)) (fun _ _ hF=>ce rfl (hF.ev 1 rfl) (hF.ev 0 rfl)) 3 ?_
 refine zv .mv 1 ?_
 refine pxV (v:=(.int .i64 ((((opR (skL S (aN sha t (aX k.1) (aI k.2)) d) k.2 (aN sha t (aX k.1) (aI k.2))).2):Nat):Int))) (fun _ _ hF=>bo rfl (hF.ev 1 rfl)) rfl (gOn 0 rfl rfl rfl (by decide)) (kM [true,false,true,true] rfl rfl) (by decide) ?_
 refine pxV (v:=(.bool true)) (fun _ _ hF=>dH rfl (hF.ev 0 rfl) rfl (decide_eq_true (by rw [ho.2]; rfl))) rfl (gOn 1 rfl rfl rfl (by decide)) (kM [false,true,true,true] rfl rfl) (by decide) ?_
 refine zv (v:=(.bool true)) (fun _ _ hF=>ce rfl (hF.ev 1 rfl) (hF.ev 0 rfl)) 3 ?_
 refine zv .mv 1 ?_
 refine pxS (v:=((ae 32).val ((opR (skL S (aN sha t (aX k.1) (aI k.2)) d) k.2 (aN sha t (aX k.1) (aI k.2))).1))) (fun w=>w.heap[g18]?=some (.cells ((ae 32).enc ((opR (skL S (aN sha t (aX k.1) (aI k.2)) d) k.2 (aN sha t (aX k.1) (aI k.2))).1)) 22 (0,0))) (hH.blk 5 rfl) (fun _ _ hF hS=>fp (C:=(ae 32)) (y:=(opR (skL S (aN sha t (aX k.1) (aI k.2)) d) k.2 (aN sha t (aX k.1) (aI k.2))).1) rfl (hF.ev 1 rfl) (by kernel_rfl) (ac hS) rfl) rfl (gOn 0 rfl rfl rfl (by decide)) (kM [true,false,true] rfl rfl) (by decide) ?_
 refine pxS (v:=((ae 32).val S)) (fun w=>w.heap[g1]?=some (.cells ((ae 32).enc S) 22 (0,0))) (hH.blk 0 rfl) (fun _ _ hF hS=>fp (C:=(ae 32)) (y:=S) rfl (hF.ev 2 rfl) (by kernel_rfl) (ac hS) rfl) rfl (gOn 1 rfl rfl rfl (by decide)) (kM [true,true,false] rfl rfl) (by decide) ?_
 refine pxV (v:=(.bool true)) (fun _ _ hF=>jW (n:=32) (e:=5) (f:=(opR (skL S (aN sha t (aX k.1) (aI k.2)) d) k.2 (aN sha t (aX k.1) (aI k.2))).1) (g:=S) (p:=True) rfl (by kernel_rfl) (by kernel_rfl) (by kernel_rfl) (hF.ev 1 rfl) (hF.ev 0 rfl) (by kernel_rfl) ⟨fun _=>trivial,fun _=>ho.1⟩) rfl (gOn 2 rfl rfl rfl (by decide)) (kM [false,false,true] rfl rfl) (by decide) ?_
 refine zv (v:=(.bool true)) (fun _ _ hF=>ce rfl (hF.ev 1 rfl) (hF.ev 0 rfl)) 3 ?_
 refine zv .mv 1 ?_
 refine zn (au (aZ 0 rfl rfl ?_))
 exact ⟨rfl,HH.toBelow hH⟩
section
open Go.WideShapes Go.Deep
def lZ {α:Type} (P:Program) (t:TypeId) (C:Cod α) (Ok:World→α→Prop):Prop :=
 ∀ {H:Type} (enc:TypeId×Value→H) (w:World) (fuel:Nat) (cs:List Value) (x:DataW H×List MemPlace),DataW.trod enc P w 0 (fun _=>true) true fuel t cs=some x→(x.1.weights P t).all (·≤reachBytes)=true → ∃ a,cs=(C.enc a).toList∧Ok w a
section
variable {P:Program} {t e:TypeId} {α β:Type} {A C:Cod α} {B:Cod β} {Ok OkA:World→α→Prop} {OkB:World→β→Prop}
theorem sH (hu:P.underlying t=some (.int .u32)):lZ P t (fo .u32) (fun _ n=>n<4294967296):=fun enc w fuel cs x h _=>by
 obtain ⟨n,rfl,_,hw⟩:=DataW.trod_int hu h
 have h8:0≤n∧n≤4294967295:=by
  simp [Lit.wf,IntKind.min,IntKind.max,IntKind.signed,IntKind.bits] at hw
  omega
 refine ⟨n.toNat,?_,by omega⟩
 have e:((n.toNat:Nat):Int)=n:=by omega
 show _=[Value.int .u32 ((n.toNat:Nat):Int)]
 rw [e]
def fieldsOf (P:Program) (t:TypeId):Option (List (TypeId×Nat)) :=
 match P.underlying t with
 | some (.struct fs)=>some (fs.toList.map fun f=>(f.type,f.offset))
 | _=>none
def jM {α:Type} (P:Program) (fs:List (TypeId×Nat)) (off:Nat) (C:Cod α) (Ok:World→α→Prop):Prop :=
 ∀ {H:Type} (enc:TypeId×Value→H) (w:World) (n:Nat) (cs:List Value) (xs:List (DataW H×List MemPlace)),cs.length=off+C.sz→xs.length=fs.length →
  (∀ (i:Nat) (f:TypeId×Nat),fs[i]?=some f→DataW.trod enc P w 0 (fun _=>true) true n f.1 ((cs.drop f.2).take (P.cellsOf f.1))=xs[i]?)→(DataW.weightsEach P (fs.map (·.1)) (xs.map (·.1))).all (·≤reachBytes)=true →
  ∃ a,cs.drop off=(C.enc a).toList∧Ok w a
theorem mV {off:Nat} (hc:P.cellsOf t=C.sz) (h:lZ P t C Ok):jM P [(t,off)] off C Ok:=fun enc w n cs xs hl hx hf hz=>by
 match xs,hx with
 | [y],_ =>
  have h1:=hf 0 (t,off) rfl
  simp only [List.getElem?_cons_zero] at h1
  rw [hc,List.take_of_length_le (by rw [List.length_drop]; omega)] at h1
  simp only [List.map_cons,List.map_nil,DataW.weightsEach,List.append_nil] at hz
  exact h enc w n _ y h1 hz
theorem mW {off:Nat} {r:List (TypeId×Nat)} (hc:P.cellsOf t=A.sz) (h:lZ P t A OkA) (hr:jM P r (off+A.sz) B OkB):jM P ((t,off) :: r) off (bm A B) (fun w x=>OkA w x.1∧OkB w x.2):=fun enc w n cs xs hl hx hf hz=>by
 match xs,hx with
 | y :: ys,hx =>
  have h1:=hf 0 (t,off) rfl
  simp only [List.getElem?_cons_zero] at h1
  simp only [List.map_cons,DataW.weightsEach,List.all_append,Bool.and_eq_true] at hz
  rw [hc] at h1
  obtain ⟨a,ha,hoa⟩:=h enc w n _ y h1 hz.1
  have hl':cs.length=off+A.sz+B.sz:=by rw [hl]; show off+(A.sz+B.sz)=_; omega
  obtain ⟨b,hb,hob⟩:=hr enc w n cs ys hl' (by simpa using hx) (fun i f hi=>by have:=hf (i+1) f (by simpa using hi); simpa using this) hz.2
  refine ⟨(a,b),?_,hoa,hob⟩
  rw [bw,Array.toList_append,← ha,← hb]
  have:cs.drop (off+A.sz)=(cs.drop off).drop A.sz:=by rw [List.drop_drop]
  rw [this,List.take_append_drop]
theorem mY {fs:List (TypeId×Nat)} (hu:fieldsOf P t=some fs) (hc:P.cellsOf t=C.sz) (h:jM P fs 0 C Ok):lZ P t C Ok:=fun enc w fuel cs x hx hz=>by
 unfold fieldsOf at hu
 split at hu
 ·rename_i fa hfa
  obtain rfl:=Option.some.inj hu
  obtain ⟨xs,n,_,rfl,hl,hlen,hf⟩:=DataW.trod_struct hfa hx
  simp only [DataW.weights,hfa] at hz
  have:=h enc w n cs xs (by rw [hl,hc]; omega) (by simp [hlen]) (fun i f hi=>by
   rw [List.getElem?_map] at hi
   cases hfi:fa.toList[i]? with
   | none=>rw [hfi] at hi; cases hi
   | some g =>
    rw [hfi] at hi
    obtain rfl:=Option.some.inj hi
    exact hf i g (by rw [← Array.getElem?_toList]; exact hfi)) (by simpa [List.map_map,Function.comp_def] using hz)
  simpa using this
 ·cases hu
theorem opens_arr {n:Nat} (hu:P.underlying t=some (.array n e)) (hc:P.cellsOf t=n) (he:P.underlying e=some (.int .u8)) (h1:P.cellsOf e=1):lZ P t (ae n) (fun _ _=>True):=fun enc w fuel cs x h _=>by
 obtain ⟨xs,m,_,_,hl,hx,hel⟩:=DataW.trod_array hu h
 have each:∀ i,i<n → ∃ b:UInt8,cs[i]?=some (.int .u8 (b.toNat:Int)):=fun i hi=>by
  have h2:=hel i hi
  rw [h1,List.getElem?_eq_getElem (by omega)] at h2
  obtain ⟨k,hn,_,hw⟩:=DataW.trod_int he h2
  have hr:0≤k∧k≤255:=by
   simp [Lit.wf,IntKind.min,IntKind.max,IntKind.signed,IntKind.bits] at hw
   omega
  refine ⟨UInt8.ofNat k.toNat,?_⟩
  have h3:=congrArg (fun l=>l[0]?) hn
  simp at h3
  rw [h3]
  congr 2
  rw [UInt8.toNat_ofNat']
  omega
 obtain ⟨f,hf⟩:∃ f:Nat→UInt8,∀ i,i<n→cs[i]?=some (.int .u8 ((f i).toNat:Int)) :=
  ⟨fun i=>if h:i<n then (each i h).choose else 0,fun i hi=>by simpa [hi] using (each i hi).choose_spec⟩
 refine ⟨f,?_,trivial⟩
 apply List.ext_getElem?
 intro i
 rw [cW,Array.getElem?_toList (xs:=row n f)]
 by_cases hi:i<n
 ·rw [bX n f i hi,hf i hi]
  rfl
 ·rw [List.getElem?_eq_none (by rw [hl,hc]; omega),Array.getElem?_eq_none (by rw [bD]; omega)]
theorem mZ {w:World} {base:Nat} {cs:Array Value} (hd:(P.underlying t).map (·.isRow)=some false) (h:Value.okWide P w .any base t (.agg cs)):False:=by
 cases hu:P.underlying t with
 | none=>rw [hu] at hd; cases hd
 | some d =>
  rw [hu] at hd
  have hd:=Option.some.inj hd
  cases d <;> first | (cases hd; done) | (simp [Value.okWide,hu,Cell.okWide,Cell.ok] at h)
theorem iJ {H:Type} {enc:TypeId×Value→H} {W:World} {base:Nat} {v:Value} {d:DataW H} {p:List MemPlace} (ho:lZ P t C Ok) (hty:tyOk P t C=true) (hval:Value.okWide P W .any base t v) (h:DataW.Trod enc P W 0 (fun _=>true) true t v d p)
  (hz:(d.weights P t).all (·≤reachBytes)=true):∃ a,v=C.val a∧Ok W a:=by
 obtain ⟨fuel,hf⟩:=h
 obtain ⟨a,ha,hok⟩:=ho enc W fuel _ _ hf hz
 refine ⟨a,?_,hok⟩
 have ha':v.cells=C.enc a:=Array.ext' ha
 obtain ⟨hd,_⟩:=tyOk.spec hty
 cases hr:C.row with
 | true =>
  rw [hr] at hd
  have:∃ cs,v=.agg cs:=by
   cases hu:P.underlying t with
   | none=>rw [hu] at hd; cases hd
   | some dd =>
    rw [hu] at hd
    have hd:=Option.some.inj hd
    simp only [Value.okWide,hu] at hval
    cases dd <;> first | (cases hd; done) | (obtain ⟨cs,rfl,_⟩:=hval; exact ⟨cs,rfl⟩)
  obtain ⟨cs,rfl⟩:=this
  rw [C.agg hr a]
  exact congrArg Value.agg ha'
 | false =>
  rw [hr] at hd
  have h1:=dp (C.scal hr a)
  have h2:v.cells = #[C.val a]:=ha'.trans h1
  cases v with
  | agg cs=>exact (mZ hd hval).elim
  | _=>simpa [Value.cells] using h2
end
end
end Go.Proofs.YtajppfmjbkebfaaGreatDoor
