/- What the claim leans on, part 5: plain theorems, and walks of functions of the program and of the document. -/
import Derived.Test.YtajppfmjbkebfaaGreatDoorKPkeskTurnedCD
import Derived.Test.YtajppfmjbkebfaaGreatDoorKPkeskTurnedCB
import Derived.Test.YtajppfmjbkebfaaGreatDoorKPkeskTurnedCA
set_option maxHeartbeats 8000000
namespace Go.Proofs.YtajppfmjbkebfaaGreatDoor
open Go Go.RowKit
set_option maxRecDepth 100000
theorem Ag(y:Bt):Pure Tryz.prog 145 #[((ac 32).val y)] (fun _=>True) ((ac 32).val (eC y)):=by
 refine pU Tryz.func145 Tryz.ntmps145 ?_
 intro w0 hH hR
 refine zr (zB hH (ac 32) y 1 ?_)
 clear hH
 intro g1 w hH
 refine zA hH (ac 32) (fun _=>0) 0 ?_
 clear hH
 intro g2 w hH
 refine zn (zr (zs (hH.q 0 rfl) (.l0 (ac 32) y) 0 ?_))
 refine zs (hH.q 0 rfl) (.l0 (ac 32) y) 4 ?_
 refine zc Tryz.func96 (d9 y y) trivial hH 3 ?_
 clear hH
 intro w hH
 refine zA hH (ac 32) (fun _=>0) 0 ?_
 clear hH
 intro g3 w hH
 refine zW 2 hH rfl (fM y y) ?_
 clear hH
 intro w hH
 refine zn (zx ?_)
 replace hH:=hH.drew
 refine rld 0 (hH.q 2 rfl) (.l0 (ac 32) (fM y y)) 2 ?_
 refine rld 4 (hH.q 2 rfl) (.l0 (ac 32) (fM y y)) 2 ?_
 refine ao 1 (rpc 1 Tryz.func147 (rh ) trivial hH 0 (.keep (.keep (.nil _ []))) ?_)
 clear hH
 intro w hH
 refine ⟨am (hH.blk 2 rfl) (am (hH.blk 2 rfl) an),?_⟩
 refine ao 2 (rpc 2 Tryz.func134 (jj (fM y y) cp) trivial hH 5 (.keep (pgo [] (.nil _ []))) ?_)
 clear hH
 intro w hH
 refine ⟨am (hH.blk 2 rfl) an,?_⟩
 refine ao 3 (rpc 3 Tryz.func151 (BP ) trivial hH 0 (.keep (.nil _ [])) ?_)
 clear hH
 intro w hH
 refine ⟨am (hH.blk 2 rfl) an,?_⟩
 refine ao 5 (rpc 5 Tryz.func96 (d9 dB (fM y y)) trivial hH 5 (pgo [] (.nil _ [])) ?_)
 clear hH
 intro w hH
 refine ⟨an,?_⟩
 refine ao 6 (rpc 6 Tryz.func147 (rh ) trivial hH 0 (.nil _ []) ?_)
 clear hH
 intro w hH
 refine ⟨an,?_⟩
 refine ao 7 (rpc 7 Tryz.func133 (gD (fM dB (fM y y)) cp) trivial hH 3 (.nil _ []) ?_)
 clear hH
 intro w hH
 refine ⟨an,?_⟩
 refine ao 8 (rpc 8 Tryz.func97 (zU (fA (fM dB (fM y y)) cp)) trivial hH 1 (.nil _ []) ?_)
 clear hH
 intro w hH
 refine ⟨an,?_⟩
 refine ao 9 (rpc 9 Tryz.func96 (d9 (fS (fM y y) cp) (fI (fA (fM dB (fM y y)) cp))) trivial hH 3 (.nil _ []) ?_)
 clear hH
 intro w hH
 refine ⟨an,ao 10 ?_⟩
 refine re0 10 1 hH rfl (.sw (ac 32) (fun _=>0) (fM (fS (fM y y) cp) (fI (fA (fM dB (fM y y)) cp)))) trivial (.nil _ []) ?_
 clear hH
 rintro _ _ w rfl hH
 refine ⟨an,rn ?_⟩
 refine ar (aI 1 (hH.blk 1 rfl) rfl rfl (by kernel_rfl) (Cod.size _ _) (by kernel_rfl) ?_)
 exact zE hH
theorem BU(a:Bt×Bt×Bt×Bt):Pure Tryz.prog 112 #[(cPl.val a)] (fun _=>True) ((ac 32).val (bOf a)):=by
 refine pU Tryz.func112 Tryz.ntmps112 ?_
 intro w0 hH hR
 refine zr (zB hH cPl a 1 ?_)
 clear hH
 intro g1 w hH
 refine zA hH (ac 32) (fun _=>0) 0 ?_
 clear hH
 intro g2 w hH
 refine zn (zr (zv (.fld 64) 0 ?_))
 refine zs (hH.q 0 rfl) (.ld (ac 32) a.2.2.1 (fun _ hS=>(((ae hS).snd).snd).fst)) 1 ?_
 refine zc Tryz.func97 (zU a.2.2.1) trivial hH 1 ?_
 clear hH
 intro w hH
 refine zA hH (ac 32) (fun _=>0) 0 ?_
 clear hH
 intro g3 w hH
 refine zW 2 hH rfl (fI a.2.2.1) ?_
 clear hH
 intro w hH
 refine zn (zx ?_)
 replace hH:=hH.drew
 refine de 0 [pv 0 9 [] [] fun G=>(.pointer (some ⟨g1,0,none⟩)),ldv 1 10 [0] [] [1000] fun G=>((ac 32).val a.1),ldv 2 11 [] [] [1002] fun G=>((ac 32).val (fI a.2.2.1)),pv 3 12 [1,2] [] fun G=>((ac 32).val (fM a.1 (fI a.2.2.1))),pv 4 13 [] [] fun G=>(.pointer (some ⟨g1,32,none⟩)),ldv 5 14 [4] [] [1000] fun G=>((ac 32).val a.2.1),ldv 6 15 [] [] [1002] fun G=>((ac 32).val (fI a.2.2.1)),pv 7 16 [5,6] [] fun G=>((ac 32).val (fM a.2.1 (fI a.2.2.1))),alv 8 4 [] [] fun G g=>[bl g 22 ((ac 32).enc (fun _=>0))],alv 9 5 [] [] fun G g=>[bl g 22 ((ac 32).enc (fun _=>0))],stv 10 [3,8] [8] 8 fun G=>[bl (G 8).g 22 ((ac 32).enc (fM a.1 (fI a.2.2.1)))],stv 11 [7,9] [9] 9 fun G=>[bl (G 9).g 22 ((ac 32).enc (fM a.2.1 (fI a.2.2.1)))]] (fun G=>[(4,(.pointer (some ⟨(G 8).g,0,none⟩))),(5,(.pointer (some ⟨(G 9).g,0,none⟩))),(2,(.pointer (some ⟨g2,0,none⟩)))]) (fun G=>[[bl g1 149 (cPl.enc a)],[bl g2 22 ((ac 32).enc (fun _=>0))],[bl g3 22 ((ac 32).enc (fI a.2.2.1))],[bl (G 8).g 22 ((ac 32).enc (fM a.1 (fI a.2.2.1)))],[bl (G 9).g 22 ((ac 32).enc (fM a.2.1 (fI a.2.2.1)))]]) hH (.c (.v fun G=>(.fld 0)) <| .c (.ld (fun G _ _ hH=>(hH.q 0 rfl)) fun G=>(.ld (ac 32) a.1 (fun _ hS=>(ae hS).fst))) <| .c (.ld (fun G _ _ hH=>(hH.q 0 rfl)) fun G=>(.ld (ac 32) (fI a.2.2.1) (fun _=>ae))) <| .c (Sp.c Tryz.func96 (fun G=>(d9 a.1 (fI a.2.2.1))) fun _=>trivial) <| .c (.v fun G=>(.fld 32)) <| .c (.ld (fun G _ _ hH=>(hH.q 0 rfl)) fun G=>(.ld (ac 32) a.2.1 (fun _ hS=>((ae hS).snd).fst))) <| .c (.ld (fun G _ _ hH=>(hH.q 0 rfl)) fun G=>(.ld (ac 32) (fI a.2.2.1) (fun _=>ae))) <| .c (Sp.c Tryz.func96 (fun G=>(d9 a.2.1 (fI a.2.2.1))) fun _=>trivial) <| .c (.a (fun _ _ _ _=>trivial) (fun G=>(.al (ac 32) (fun _=>0))) fun _ _ _ h=>h) <| .c (.a (fun _ _ _ _=>trivial) (fun G=>(.al (ac 32) (fun _=>0))) fun _ _ _ h=>h) <| .c (.tn (fun G=>(.sw (ac 32) (fun _=>0) (fM a.1 (fI a.2.2.1)))) (fun _ _ _ _=>trivial) fun _ _ _ h=>h) <| .c (.tn (fun G=>(.sw (ac 32) (fun _=>0) (fM a.2.1 (fI a.2.2.1)))) (fun _ _ _ _=>trivial) fun _ _ _ h=>h) <| .nil) ?_
 clear hH
 rintro G w-hH
 revert hH
 generalize (G 8).g=g4
 generalize (G 9).g=g5
 intro hH
 refine rn ?_
 refine zr ?_
 have hi6:31<32:=by omega
 refine zv (.ia 1 32 31 (hi:=hi6)) 0 ?_
 refine zs (hH.q 4 rfl) (.ld af ((fM a.2.1 (fI a.2.2.1)) 31) (fun _ hS=>((ae hS).elt hi6))) 1 ?_
 have hi7:0<32:=by omega
 refine zv (.ia 1 32 0 (hi:=hi7)) 2 ?_
 refine zs (hH.q 3 rfl) (.ld af ((fM a.1 (fI a.2.2.1)) 0) (fun _ hS=>((ae hS).elt hi7))) 1 ?_
 refine zv (.lb 7 (u:=((fM a.1 (fI a.2.2.1)) 0))) 1 ?_
 refine zv (.ob (((fM a.2.1 (fI a.2.2.1)) 31)|||(sl8 ((fM a.1 (fI a.2.2.1)) 0) 7)) (u:=((fM a.2.1 (fI a.2.2.1)) 31)) (v:=(sl8 ((fM a.1 (fI a.2.2.1)) 0) 7))) 3 ?_
 have hi8:31<32:=by omega
 refine zv (.ia 1 32 31 (hi:=hi8)) 0 ?_
 refine ze0 4 hH rfl (.st af (((fM a.2.1 (fI a.2.2.1)) 31)|||(sl8 ((fM a.1 (fI a.2.2.1)) 0) 7)) (aU (S:=sBy) (C:=(ac 32)) rfl hi8) (aQ (fM a.2.1 (fI a.2.2.1)) (((fM a.2.1 (fI a.2.2.1)) 31)|||(sl8 ((fM a.1 (fI a.2.2.1)) 0) 7)) hi8)) trivial ?_
 clear hH
 rintro _ _ w rfl hH
 refine zn (zr (zs (hH.q 4 rfl) (.l0 (ac 32) (stF (fM a.2.1 (fI a.2.2.1)) 31 (((fM a.2.1 (fI a.2.2.1)) 31)|||(sl8 ((fM a.1 (fI a.2.2.1)) 0) 7)))) 7 ?_))
 refine zW 1 hH rfl (stF (fM a.2.1 (fI a.2.2.1)) 31 (((fM a.2.1 (fI a.2.2.1)) 31)|||(sl8 ((fM a.1 (fI a.2.2.1)) 0) 7))) ?_
 clear hH
 intro w hH
 refine zn (ar (aI 1 (hH.blk 1 rfl) rfl rfl (by kernel_rfl) (Cod.size _ _) (by kernel_rfl) ?_))
 exact zE hH
theorem Ah(t:UInt8)(b:Bt×Bt×Bt):Pure Tryz.prog 150 #[(.int .u8 t.toNat),(cSt.val b)] (fun _=>True) (cSt.val (uD t b)):=by
 refine pU Tryz.func150 Tryz.ntmps150 ?_
 intro w0 hH hR
 refine zr (zB hH cSt b 2 ?_)
 clear hH
 intro g1 w hH
 refine zA hH cSt (fun _=>0,fun _=>0,fun _=>0) 0 ?_
 clear hH
 intro g2 w hH
 refine zn (zr (zv .mv 0 ?_))
 refine zv (.gb (u:=t)) 1 ?_
 refine zv .mv 1 ?_
 refine zn (aj ?_)
 replace hH:HH w0 [] [[bl g1 152 (cSt.enc ((mk8 (-t) 0 b.1),(mk8 (-t) 0 b.2.1),(mk8 (-t) 0 b.2.2)))],[bl g2 152 (cSt.enc (fun _=>0,fun _=>0,fun _=>0))]] w:=by simp only[BG];exact hH
 refine zr (zv .mv 0 ?_)
 refine zn (ai (zL1 (fun (i:Nat)=>[(9,(.int .i64 i)),(5,(.int .u8 ((((-t).toNat):Nat):Int))),(4,(.pointer (some ⟨g2,0,none⟩))),(3,(.pointer (some ⟨g1,0,none⟩))),(0,(.int .u8 t.toNat))]) (fun i w=>HH w0 [] [[bl g1 152 (cSt.enc ((mk8 (-t) i b.1),(mk8 (-t) i b.2.1),(mk8 (-t) i b.2.2)))],[bl g2 152 (cSt.enc (fun _=>0,fun _=>0,fun _=>0))]] w∧(i≤32)) (fun i=>32-i) 0 ⟨hH,(Nat.zero_le _)⟩ ?_))
 clear hH
 rintro i w ⟨hH,hi⟩
 refine zr (zv (.lt (i<32)) 0 ?_)
 refine zn (aj ?_)
 refine zP (fun hc3 => ?_) (fun hc3 => ?_)
 refine aA (ag (aj (ai (zr (zv .mv 1 ?_)))))
 refine zv .mv 1 ?_
 refine zn (zr (zv .mv 0 ?_))
 refine zv (.fld 0) 0 ?_
 have hi4:i<32:=by omega
 refine zv (.ia 1 32 i (hi:=hi4)) 1 ?_
 refine zs (hH.q 0 rfl) (.ld af ((mk8 (-t) i b.1) i) (fun _ hS=>((ae hS).fst.elt hi4))) 1 ?_
 refine zv .mv 0 ?_
 refine zv (.ab (((mk8 (-t) i b.1) i)&&&(-t)) (u:=((mk8 (-t) i b.1) i)) (v:=(-t))) 3 ?_
 refine zv (.fld 0) 0 ?_
 have hi5:i<32:=by omega
 refine zv (.ia 1 32 i (hi:=hi5)) 5 ?_
 refine ze0 0 hH rfl (.st af (((mk8 (-t) i b.1) i)&&&(-t)) (by rw[Cod.size];show 0+i*1+1≤96;omega) (cD (aQ (mk8 (-t) i b.1) (((mk8 (-t) i b.1) i)&&&(-t)) hi5) (by show 0+i*1+1≤32;omega))) trivial ?_
 clear hH
 rintro _ _ w rfl hH
 refine zn ?_
 replace hH:HH w0 [] [[bl g1 152 (cSt.enc ((mk8 (-t) (i+1) b.1),(mk8 (-t) i b.2.1),(mk8 (-t) i b.2.2)))],[bl g2 152 (cSt.enc (fun _=>0,fun _=>0,fun _=>0))]] w:=by rw[kR]at hH;exact hH
 refine zr (zv .mv 3 ?_)
 refine zv (.fld 32) 0 ?_
 have hi6:i<32:=by omega
 refine zv (.ia 1 32 i (hi:=hi6)) 1 ?_
 refine zs (hH.q 0 rfl) (.ld af ((mk8 (-t) i b.2.1) i) (fun _ hS=>(((ae hS).snd).fst.elt hi6))) 1 ?_
 refine zv .mv 0 ?_
 refine zv (.ab (((mk8 (-t) i b.2.1) i)&&&(-t)) (u:=((mk8 (-t) i b.2.1) i)) (v:=(-t))) 3 ?_
 refine zv (.fld 32) 0 ?_
 have hi7:i<32:=by omega
 refine zv (.ia 1 32 i (hi:=hi7)) 5 ?_
 refine ze0 0 hH rfl (.st af (((mk8 (-t) i b.2.1) i)&&&(-t)) (by rw[Cod.size];show 32+i*1+1≤96;omega) (cE (a:=32) (o:=32+i*1) (cD (aQ (mk8 (-t) i b.2.1) (((mk8 (-t) i b.2.1) i)&&&(-t)) hi7) (by show 0+i*1+1≤32;omega)) (by omega))) trivial ?_
 clear hH
 rintro _ _ w rfl hH
 refine zn ?_
 replace hH:HH w0 [] [[bl g1 152 (cSt.enc ((mk8 (-t) (i+1) b.1),(mk8 (-t) (i+1) b.2.1),(mk8 (-t) i b.2.2)))],[bl g2 152 (cSt.enc (fun _=>0,fun _=>0,fun _=>0))]] w:=by rw[kR]at hH;exact hH
 refine aC (zv .mv 7 ?_)
 refine zv (.fld 64) 0 ?_
 have hi8:i<32:=by omega
 refine zv (.ia 1 32 i (hi:=hi8)) 1 ?_
 refine zs (hH.q 0 rfl) (.ld af ((mk8 (-t) i b.2.2) i) (fun _ hS=>(((ae hS).snd).snd.elt hi8))) 1 ?_
 refine zv .mv 0 ?_
 refine zv (.ab (((mk8 (-t) i b.2.2) i)&&&(-t)) (u:=((mk8 (-t) i b.2.2) i)) (v:=(-t))) 3 ?_
 refine zv (.fld 64) 0 ?_
 have hi9:i<32:=by omega
 refine zv (.ia 1 32 i (hi:=hi9)) 5 ?_
 refine ze0 0 hH rfl (.st af (((mk8 (-t) i b.2.2) i)&&&(-t)) (by rw[Cod.size];show 64+i*1+1≤96;omega) (cE (a:=32) (o:=64+i*1) (cE (a:=32) (o:=32+i*1) (aQ (mk8 (-t) i b.2.2) (((mk8 (-t) i b.2.2) i)&&&(-t)) hi9) (by omega)) (by omega))) trivial ?_
 clear hH
 rintro _ _ w rfl hH
 refine aD (aN (ag ?_))
 replace hH:HH w0 [] [[bl g1 152 (cSt.enc ((mk8 (-t) (i+1) b.1),(mk8 (-t) (i+1) b.2.1),(mk8 (-t) (i+1) b.2.2)))],[bl g2 152 (cSt.enc (fun _=>0,fun _=>0,fun _=>0))]] w:=by rw[kR]at hH;exact hH
 refine aC (zv (.add ((i+1:Nat):Int)) 7 ?_)
 refine zv .mv 1 ?_
 refine aD ?_
 exact zR1 (i+1) ⟨hH,(by omega)⟩ (by omega)
 refine aJ (ak (ak (aR (ag ?_))))
 obtain rfl:i=32:=by omega
 refine zr (zv (.fld 0) 7 ?_)
 have hi10:0<32:=by omega
 refine zv (.ia 1 32 0 (hi:=hi10)) 1 ?_
 refine zs (hH.q 0 rfl) (.ld af ((mk8 (-t) 32 b.1) 0) (fun _ hS=>((ae hS).fst.elt hi10))) 1 ?_
 refine zv .mv 0 ?_
 refine zv (.mb ((1:UInt8)-t) (u:=(1:UInt8)) (v:=t)) 1 ?_
 refine zv (.ob (((mk8 (-t) 32 b.1) 0)|||((1:UInt8)-t)) (u:=((mk8 (-t) 32 b.1) 0)) (v:=((1:UInt8)-t))) 3 ?_
 refine zv (.fld 0) 0 ?_
 have hi11:0<32:=by omega
 refine zv (.ia 1 32 0 (hi:=hi11)) 1 ?_
 refine ze0 0 hH rfl (.st af (((mk8 (-t) 32 b.1) 0)|||((1:UInt8)-t)) (by rw[Cod.size];show 0+0*1+1≤96;omega) (cD (aQ (mk8 (-t) 32 b.1) (((mk8 (-t) 32 b.1) 0)|||((1:UInt8)-t)) hi11) (by show 0+0*1+1≤32;omega))) trivial ?_
 clear hH
 rintro _ _ w rfl hH
 refine zn (zr (zv (.fld 32) 3 ?_))
 have hi12:0<32:=by omega
 refine zv (.ia 1 32 0 (hi:=hi12)) 1 ?_
 refine zs (hH.q 0 rfl) (.ld af ((mk8 (-t) 32 b.2.1) 0) (fun _ hS=>(((ae hS).snd).fst.elt hi12))) 1 ?_
 refine zv .mv 8 ?_
 refine zv (.mb ((1:UInt8)-t) (u:=(1:UInt8)) (v:=t)) 1 ?_
 refine zv (.ob (((mk8 (-t) 32 b.2.1) 0)|||((1:UInt8)-t)) (u:=((mk8 (-t) 32 b.2.1) 0)) (v:=((1:UInt8)-t))) 3 ?_
 refine zv (.fld 32) 0 ?_
 have hi13:0<32:=by omega
 refine zv (.ia 1 32 0 (hi:=hi13)) 1 ?_
 refine ze0 0 hH rfl (.st af (((mk8 (-t) 32 b.2.1) 0)|||((1:UInt8)-t)) (by rw[Cod.size];show 32+0*1+1≤96;omega) (cE (a:=32) (o:=32+0*1) (cD (aQ (mk8 (-t) 32 b.2.1) (((mk8 (-t) 32 b.2.1) 0)|||((1:UInt8)-t)) hi13) (by show 0+0*1+1≤32;omega)) (by omega))) trivial ?_
 clear hH
 rintro _ _ w rfl hH
 refine zn (zr (zs (hH.q 0 rfl) (.l0 cSt ((stF (mk8 (-t) 32 b.1) 0 (((mk8 (-t) 32 b.1) 0)|||((1:UInt8)-t))),(stF (mk8 (-t) 32 b.2.1) 0 (((mk8 (-t) 32 b.2.1) 0)|||((1:UInt8)-t))),(mk8 (-t) 32 b.2.2))) 11 ?_))
 refine zW 1 hH rfl ((stF (mk8 (-t) 32 b.1) 0 (((mk8 (-t) 32 b.1) 0)|||((1:UInt8)-t))),(stF (mk8 (-t) 32 b.2.1) 0 (((mk8 (-t) 32 b.2.1) 0)|||((1:UInt8)-t))),(mk8 (-t) 32 b.2.2)) ?_
 clear hH
 intro w hH
 refine zn (ar (aI 1 (hH.blk 1 rfl) rfl rfl (by kernel_rfl) (Cod.size _ _) (by kernel_rfl) ?_))
 exact zE hH
theorem BV(n:Bt)(b:Bt×Bt×Bt):Pure Tryz.prog 113 #[((ac 32).val n),(cSt.val b)] (fun _=>True) (cPl.val (tms n b)):=by
 refine pU Tryz.func113 Tryz.ntmps113 ?_
 intro w0 hH hR
 refine zr (zB hH (ac 32) n 1 ?_)
 clear hH
 intro g1 w hH
 refine zB hH cSt b 2 ?_
 clear hH
 intro g2 w hH
 refine zA hH cPl (fun _=>0,fun _=>0,fun _=>0,fun _=>0) 0 ?_
 clear hH
 intro g3 w hH
 refine zn (zr (zc Tryz.func147 (rh ) trivial hH 0 ?_))
 clear hH
 intro w hH
 refine zv (v:=(cPr.val (fun _=>0,cp))) (fun _ _ hF=>aE (cells:=cPr.enc (fun _=>0,cp)) (vals:=[(1,((ac 32).val cp))]) rfl (EvP.cons (v:=((ac 32).val cp)) (hF.ev 0 rfl) EvP.nil) (by kernel_rfl) _) 1 ?_
 refine zc Tryz.func146 (Ae (fun _=>0,cp)) trivial hH 1 ?_
 clear hH
 intro w hH
 refine zA hH cPl (fun _=>0,fun _=>0,fun _=>0,fun _=>0) 0 ?_
 clear hH
 intro g4 w hH
 refine zW 3 hH rfl (wV (fun _=>0,cp)) ?_
 clear hH
 intro w hH
 refine zn (aj ?_)
 replace hH:HH w0 [] [[bl g1 22 ((ac 32).enc n)],[bl g2 152 (cSt.enc b)],[bl g3 149 (cPl.enc (fun _=>0,fun _=>0,fun _=>0,fun _=>0))],[bl g4 149 (cPl.enc (eT n b 0))]] w:=by rw[show (eT n b 0)=wV (fun _=>0,cp) from rfl];exact hH
 refine zr (zv .mv 2 ?_)
 refine zn (ai (zL1 (fun (k:Nat)=>[(6,(.int .i64 (255-(k:Int)))),(5,(.pointer (some ⟨g4,0,none⟩))),(4,(.pointer (some ⟨g3,0,none⟩))),(3,(.pointer (some ⟨g2,0,none⟩))),(2,(.pointer (some ⟨g1,0,none⟩)))]) (fun k w=>HH w0 [] [[bl g1 22 ((ac 32).enc n)],[bl g2 152 (cSt.enc b)],[bl g3 149 (cPl.enc (fun _=>0,fun _=>0,fun _=>0,fun _=>0))],[bl g4 149 (cPl.enc (eT n b k))]] w∧(k≤256)) (fun k=>256-k) 0 ⟨hH,(Nat.zero_le _)⟩ ?_))
 clear hH
 rintro k w ⟨hH,hk⟩
 refine aj (zr (zv .mv 0 ?_))
 refine zv (v:=(.bool (decide ((255-(k:Int)) ≥ 0)))) (fun _ _ hF=>fL rfl (hF.ev 0 rfl) rfl rfl) 1 ?_
 refine zn ?_
 refine zP (fun hc5 => ?_) (fun hc5 => ?_)
 refine aA (ag (aj (ai ?_)))
 rw[show (255:Int)-(k:Int)=((255-k:Nat):Int) by omega]
 refine zr (zv .mv 1 ?_)
 refine zv (v:=(.int .i64 ((((255-k)/8):Nat):Int))) (fun _ _ hF=>cM (z:=(((255-k)/8:Nat):Int)) rfl (hF.ev 0 rfl) rfl (by omega) (wI dO (by omega) (by omega))) 1 ?_
 have hi6:(255-k)/8<32:=by omega
 refine zv (.ia 1 32 ((255-k)/8) (hi:=hi6)) 1 ?_
 refine zs (hH.q 0 rfl) (.ld af (n ((255-k)/8)) (fun _ hS=>((ae hS).elt hi6))) 1 ?_
 refine zv .mv 0 ?_
 refine zv (v:=(.int .i64 ((((255-k)%8):Nat):Int))) (fun _ _ hF=>bm (z:=(((255-k)%8:Nat):Int)) rfl (hF.ev 0 rfl) rfl (by omega) bW) 1 ?_
 refine zv (.rb ((255-k)%8) (u:=(n ((255-k)/8)))) 3 ?_
 refine zv (.ab ((sr8 (n ((255-k)/8)) ((255-k)%8))&&&(1:UInt8)) (u:=(sr8 (n ((255-k)/8)) ((255-k)%8))) (v:=(1:UInt8))) 1 ?_
 refine zv .mv 1 ?_
 refine zn (br mixedOrders (by kernel_rfl) ?_)
 replace hH:=hH.drew
 refine rld 0 (hH.q 3 rfl) (.l0 cPl (eT n b k)) 0 ?_
 refine rv 2 .mv 2 ?_
 refine rld 3 (hH.q 1 rfl) (.l0 cSt b) 0 ?_
 refine ao 1 (rpc 1 Tryz.func149 (BR (eT n b k)) trivial hH 4 (.keep (pgo [] (.nil _ []))) ?_)
 clear hH
 intro w hH
 refine ⟨am (hH.blk 1 rfl) an,?_⟩
 refine ao 4 (rpc 4 Tryz.func150 (Ah ((sr8 (n ((255-k)/8)) ((255-k)%8))&&&(1:UInt8)) b) trivial hH 6 (pgo [] (.nil _ [])) ?_)
 clear hH
 intro w hH
 refine ⟨an,?_⟩
 refine ao 5 (rpc 5 Tryz.func148 (BQ (ptD (eT n b k)) (uD ((sr8 (n ((255-k)/8)) ((255-k)%8))&&&(1:UInt8)) b)) trivial hH 3 (.nil _ []) ?_)
 clear hH
 intro w hH
 refine ⟨an,ao 6 ?_⟩
 refine re0 6 3 hH rfl (.sw cPl (eT n b k) (ptA (ptD (eT n b k)) (uD ((sr8 (n ((255-k)/8)) ((255-k)%8))&&&(1:UInt8)) b))) trivial (.nil _ []) ?_
 clear hH
 rintro _ _ w rfl hH
 refine ⟨an,bQ (by kernel_rfl) ?_⟩
 refine aN (ag ?_)
 replace hH:HH w0 [] [[bl g1 22 ((ac 32).enc n)],[bl g2 152 (cSt.enc b)],[bl g3 149 (cPl.enc (fun _=>0,fun _=>0,fun _=>0,fun _=>0))],[bl g4 149 (cPl.enc (eT n b (k+1)))]] w:=by rw[show (eT n b (k+1))=ptA (ptD (eT n b k)) (uD (bitB n (255-k)) b) from rfl];exact hH
 rw[show ((255-k:Nat):Int)=(255:Int)-(k:Int) by omega]
 refine aC (zv .mv 3 ?_)
 refine zv (.sub (255-((k+1:Nat):Int))) 1 ?_
 refine zv .mv 1 ?_
 refine aD ?_
 exact zR1 (k+1) ⟨hH,(by omega)⟩ (by omega)
 refine aJ (ak (ak (aR (ag ?_))))
 obtain rfl:k=256:=by omega
 replace hH:HH w0 [] [[bl g1 22 ((ac 32).enc n)],[bl g2 152 (cSt.enc b)],[bl g3 149 (cPl.enc (fun _=>0,fun _=>0,fun _=>0,fun _=>0))],[bl g4 149 (cPl.enc (tms n b))]] w:=by rw[show (tms n b)=eT n b 256 from rfl];exact hH
 refine zr (zs (hH.q 3 rfl) (.l0 cPl (tms n b)) 55 ?_)
 refine zW 2 hH rfl (tms n b) ?_
 clear hH
 intro w hH
 refine zn (ar (aI 1 (hH.blk 2 rfl) rfl rfl (by kernel_rfl) (Cod.size _ _) (by kernel_rfl) ?_))
 exact zE hH
theorem BW  : Pure Tryz.prog 70 #[] (fun _=>True) ((ac 32).val wW):=by
 refine pU Tryz.func70 Tryz.ntmps70 ?_
 intro w0 hH hR
 refine zr (zA hH (ac 32) (fun _=>0) 0 ?_)
 clear hH
 intro g1 w hH
 refine zn (zr (zA hH (ac 32) (fun _=>0) 0 ?_))
 clear hH
 intro g2 w hH
 refine zn (aj ?_)
 replace hH:HH w0 [] [[bl g1 22 ((ac 32).enc (fun _=>0))],[bl g2 22 ((ac 32).enc (gh 0))]] w:=hH
 refine zr (zv .mv 0 ?_)
 refine zn (ai (zL1 (fun (i:Nat)=>[(3,(.int .i64 i)),(1,(.pointer (some ⟨g2,0,none⟩))),(0,(.pointer (some ⟨g1,0,none⟩)))]) (fun i w=>HH w0 [] [[bl g1 22 ((ac 32).enc (fun _=>0))],[bl g2 22 ((ac 32).enc (gh i))]] w∧(i≤32)) (fun i=>32-i) 0 ⟨hH,(Nat.zero_le _)⟩ ?_))
 clear hH
 rintro i w ⟨hH,hi⟩
 refine zr (zv (.lt (i<32)) 0 ?_)
 refine zn (aj ?_)
 refine zP (fun hc3 => ?_) (fun hc3 => ?_)
 refine aA (ag (aj (ai (zr (zv .mv 1 ?_)))))
 refine zv .mv 1 ?_
 refine zn (aC (zv .mv 1 ?_))
 have hi4:i<32:=by omega
 refine zv (.ia 1 32 i (hi:=hi4)) 1 ?_
 refine ze0 1 hH rfl (.st af 102 (aU (S:=sBy) (C:=(ac 32)) rfl hi4) (aQ (gh i) 102 hi4)) trivial ?_
 clear hH
 rintro _ _ w rfl hH
 refine aD (aN (ag (aC (zv (.add ((i+1:Nat):Int)) 3 ?_))))
 refine zv .mv 1 ?_
 refine aD ?_
 replace hH:HH w0 [] [[bl g1 22 ((ac 32).enc (fun _=>0))],[bl g2 22 ((ac 32).enc (gh (i+1)))]] w:=by rw[pB]at hH;exact hH
 exact zR1 (i+1) ⟨hH,(by omega)⟩ (by omega)
 refine aJ (ak (ak (aR (ag ?_))))
 obtain rfl:i=32:=by omega
 refine zr ?_
 have hi5:0<32:=by omega
 refine zv (.ia 1 32 0 (hi:=hi5)) 3 ?_
 refine ze0 1 hH rfl (.st af 88 (aU (S:=sBy) (C:=(ac 32)) rfl hi5) (aQ (gh 32) 88 hi5)) trivial ?_
 clear hH
 rintro _ _ w rfl hH
 refine zn (zr (zs (hH.q 1 rfl) (.l0 (ac 32) (stF (gh 32) 0 88)) 3 ?_))
 refine zW 0 hH rfl (stF (gh 32) 0 88) ?_
 clear hH
 intro w hH
 refine zn (ar (aI 1 (hH.blk 0 rfl) rfl rfl (by kernel_rfl) (Cod.size _ _) (by kernel_rfl) ?_))
 exact zE hH
theorem BX{q:Bt}(hq:q=wW):Pure Tryz.prog 70 #[] (fun _=>True) ((ac 32).val q):=hq▸BW
theorem CY(p:Bt):Pure Tryz.prog 111 #[((ac 32).val p)] (fun _=>True) (.tuple #[cPr.val (rd p).1,.int .i64 ((rd p).2:Int)]):=by
 refine pU Tryz.func111 Tryz.ntmps111 ?_
 intro w0 hH hR
 refine zr (zB hH (ac 32) p 1 ?_)
 clear hH
 intro g1 w hH
 refine zA hH cPr (fun _=>0,fun _=>0) 0 ?_
 clear hH
 intro g2 w hH
 refine zv .mv 0 ?_
 refine zn (zr ?_)
 have hi3:31<32:=by omega
 refine zv (.ia 1 32 31 (hi:=hi3)) 1 ?_
 refine zs (hH.q 0 rfl) (.ld af (p 31) (fun _ hS=>((ae hS).elt hi3))) 1 ?_
 refine zv (.ab ((p 31)&&&(128:UInt8)) (u:=(p 31)) (v:=(128:UInt8))) 1 ?_
 refine zv (.ne (((p 31)&&&(128:UInt8)).toNat≠0)) 1 ?_
 refine zv .mv 1 ?_
 refine zn (zr (zs (hH.q 0 rfl) (.l0 (ac 32) p) 4 ?_))
 refine zA hH (ac 32) (fun _=>0) 0 ?_
 clear hH
 intro g4 w hH
 refine zW 2 hH rfl p ?_
 clear hH
 intro w hH
 refine zn (zr ?_)
 have hi5:31<32:=by omega
 refine zv (.ia 1 32 31 (hi:=hi5)) 2 ?_
 refine zs (hH.q 2 rfl) (.ld af (p 31) (fun _ hS=>((ae hS).elt hi5))) 1 ?_
 refine zv (.nb ((p 31) &&& ~~~(128:UInt8)) (u:=(p 31)) (v:=(128:UInt8))) 1 ?_
 have hi6:31<32:=by omega
 refine zv (.ia 1 32 31 (hi:=hi6)) 0 ?_
 refine ze0 2 hH rfl (.st af ((p 31) &&& ~~~(128:UInt8)) (aU (S:=sBy) (C:=(ac 32)) rfl hi6) (aQ p ((p 31) &&& ~~~(128:UInt8)) hi6)) trivial ?_
 clear hH
 rintro _ _ w rfl hH
 refine zn (aj (zr (zs (hH.q 2 rfl) (.l0 (ac 32) (stF p 31 ((p 31) &&& ~~~(128:UInt8)))) 3 ?_)))
 refine zc Tryz.func143 (CV (stF p 31 ((p 31) &&& ~~~(128:UInt8)))) trivial hH 1 ?_
 clear hH
 intro w hH
 refine zv (v:=(.bool (decide (¬ (lv (stF p 31 ((p 31) &&& ~~~(128:UInt8))) 32<pN))))) (fun _ _ hF=>ej rfl (hF.ev 0 rfl) decide_not.symm) 1 ?_
 refine zn ?_
 refine zP (fun hc7 => ?_) (fun hc7 => ?_)
 refine zr (zv (v:=(cPr.val z2)) (fun _ _ hF=>aE (cells:=cPr.enc z2) (vals:=[]) rfl EvP.nil (by kernel_rfl) _) 7 ?_)
 refine zW 1 hH rfl z2 ?_
 clear hH
 intro w hH
 refine zv .mv 1 ?_
 refine zn (ar (bj ?_))
 refine aX 1 0 (hH.blk 1 rfl) rfl rfl rfl (by kernel_rfl) (Cod.size _ _) (by kernel_rfl) ?_
 have e1:=(show rd p=_ from if_neg hc7)
 exact ⟨by rw[e1];rfl,HH.toBelow hH⟩
 refine aA (ag (zr (zs (hH.q 2 rfl) (.l0 (ac 32) (stF p 31 ((p 31) &&& ~~~(128:UInt8)))) 1 ?_)))
 refine zc Tryz.func145 (Ag (stF p 31 ((p 31) &&& ~~~(128:UInt8)))) trivial hH 1 ?_
 clear hH
 intro w hH
 refine zc Tryz.func144 (CW (eC (stF p 31 ((p 31) &&& ~~~(128:UInt8))))) trivial hH 1 ?_
 clear hH
 intro w hH
 refine zv .mv 1 ?_
 refine zv .ext 0 ?_
 refine zv .ext 2 ?_
 refine zA hH (ac 32) (fun _=>0) 0 ?_
 clear hH
 intro g8 w hH
 refine zW 3 hH rfl (sqX (eC (stF p 31 ((p 31) &&& ~~~(128:UInt8))))) ?_
 clear hH
 intro w hH
 refine zv .mv 6 ?_
 refine zn (aj (zr (zv .mv 1 ?_)))
 refine zv (.ne (sqE (eC (stF p 31 ((p 31) &&& ~~~(128:UInt8))))≠0)) 1 ?_
 refine zn ?_
 refine zP (fun hc9 => ?_) (fun hc9 => ?_)
 refine zr (zv (v:=(cPr.val z2)) (fun _ _ hF=>aE (cells:=cPr.enc z2) (vals:=[]) rfl EvP.nil (by kernel_rfl) _) 15 ?_)
 refine zW 1 hH rfl z2 ?_
 clear hH
 intro w hH
 refine zv .mv 1 ?_
 refine zn (ar (bj ?_))
 refine aX 1 0 (hH.blk 1 rfl) rfl rfl rfl (by kernel_rfl) (Cod.size _ _) (by kernel_rfl) ?_
 have e1:=(show rd p=_ from (if_pos (Decidable.of_not_not hc7)).trans (if_pos hc9))
 exact ⟨by rw[e1];rfl,HH.toBelow hH⟩
 refine aA (ag (aj (zr (zv .mv 9 ?_))))
 refine zv (v:=(.bool (decide (¬ (((p 31)&&&(128:UInt8)).toNat≠0))))) (fun _ _ hF=>ej rfl (hF.ev 0 rfl) decide_not.symm) 1 ?_
 refine zn ?_
 refine zP (fun hc10 => ?_) (fun hc10 => ?_)
 refine zr (zs (hH.q 3 rfl) (.l0 (ac 32) (sqX (eC (stF p 31 ((p 31) &&& ~~~(128:UInt8)))))) 3 ?_)
 refine zs (hH.q 2 rfl) (.l0 (ac 32) (stF p 31 ((p 31) &&& ~~~(128:UInt8)))) 2 ?_
 refine zv (v:=(cPr.val ((sqX (eC (stF p 31 ((p 31) &&& ~~~(128:UInt8))))),(stF p 31 ((p 31) &&& ~~~(128:UInt8)))))) (fun _ _ hF=>aE (cells:=cPr.enc ((sqX (eC (stF p 31 ((p 31) &&& ~~~(128:UInt8))))),(stF p 31 ((p 31) &&& ~~~(128:UInt8))))) rfl (EvP.cons (v:=((ac 32).val (sqX (eC (stF p 31 ((p 31) &&& ~~~(128:UInt8))))))) (hF.ev 1 rfl) (EvP.cons (v:=((ac 32).val (stF p 31 ((p 31) &&& ~~~(128:UInt8))))) (hF.ev 0 rfl) EvP.nil)) (eH (x:=(((sqX (eC (stF p 31 ((p 31) &&& ~~~(128:UInt8))))),(stF p 31 ((p 31) &&& ~~~(128:UInt8)))):Bt×Bt)) (by kernel_rfl) rfl rfl) _) 3 ?_
 refine zW 1 hH rfl ((sqX (eC (stF p 31 ((p 31) &&& ~~~(128:UInt8))))),(stF p 31 ((p 31) &&& ~~~(128:UInt8)))) ?_
 clear hH
 intro w hH
 refine zv .mv 1 ?_
 refine zn (ar (bj ?_))
 refine aX 1 0 (hH.blk 1 rfl) rfl rfl rfl (by kernel_rfl) (Cod.size _ _) (by kernel_rfl) ?_
 have e1:=(show rd p=_ from (if_pos (Decidable.of_not_not hc7)).trans ((if_neg hc9).trans (if_neg hc10)))
 exact ⟨by rw[e1];rfl,HH.toBelow hH⟩
 refine aA (ag (aj (zr (zs (hH.q 3 rfl) (.l0 (ac 32) (sqX (eC (stF p 31 ((p 31) &&& ~~~(128:UInt8)))))) 1 ?_))))
 refine zv (v:=((ac 32).val (fun _=>0))) (fun _ _ hF=>aE (cells:=(ac 32).enc (fun _=>0)) (vals:=[]) rfl EvP.nil (by kernel_rfl) _) 0 ?_
 refine zv (v:=(.bool (decide (lst 32 (sqX (eC (stF p 31 ((p 31) &&& ~~~(128:UInt8)))))=lst 32 (fun _=>0))))) (fun _ _ hF=>kg (n:=32) (e:=5) (f:=(sqX (eC (stF p 31 ((p 31) &&& ~~~(128:UInt8)))))) (g:=(fun _=>0)) rfl (by kernel_rfl) (by kernel_rfl) (by kernel_rfl) (hF.ev 1 rfl) (hF.ev 0 rfl) (by kernel_rfl) Iff.rfl) 3 ?_
 refine zn ?_
 refine zP (fun hc11 => ?_) (fun hc11 => ?_)
 refine zr (zv (v:=(cPr.val z2)) (fun _ _ hF=>aE (cells:=cPr.enc z2) (vals:=[]) rfl EvP.nil (by kernel_rfl) _) 7 ?_)
 refine zW 1 hH rfl z2 ?_
 clear hH
 intro w hH
 refine zv .mv 1 ?_
 refine zn (ar (bj ?_))
 refine aX 1 0 (hH.blk 1 rfl) rfl rfl rfl (by kernel_rfl) (Cod.size _ _) (by kernel_rfl) ?_
 have e1:=(show rd p=_ from (if_pos (Decidable.of_not_not hc7)).trans ((if_neg hc9).trans ((if_pos (Decidable.of_not_not hc10)).trans (if_pos hc11))))
 exact ⟨by rw[e1];rfl,HH.toBelow hH⟩
 refine aA (ag (zx ?_))
 replace hH:=hH.drew
 refine rv 0 (v:=((ac 32).val (fun _=>0))) (fun _ _ hF=>aE (cells:=(ac 32).enc (fun _=>0)) (vals:=[]) rfl EvP.nil (by kernel_rfl) _) 1 ?_
 refine rld 1 (hH.q 3 rfl) (.l0 (ac 32) (sqX (eC (stF p 31 ((p 31) &&& ~~~(128:UInt8)))))) 2 ?_
 refine rld 3 (hH.q 2 rfl) (.l0 (ac 32) (stF p 31 ((p 31) &&& ~~~(128:UInt8)))) 4 ?_
 refine ao 2 (rpc 2 Tryz.func134 (jj (fun _=>0) (sqX (eC (stF p 31 ((p 31) &&& ~~~(128:UInt8)))))) trivial hH 6 (.keep (pgo [] (.nil _ []))) ?_)
 clear hH
 intro w hH
 refine ⟨am (hH.blk 2 rfl) an,?_⟩
 refine rv 4 (v:=(cPr.val ((fS (fun _=>0) (sqX (eC (stF p 31 ((p 31) &&& ~~~(128:UInt8)))))),(stF p 31 ((p 31) &&& ~~~(128:UInt8)))))) (fun _ _ hF=>aE (cells:=cPr.enc ((fS (fun _=>0) (sqX (eC (stF p 31 ((p 31) &&& ~~~(128:UInt8)))))),(stF p 31 ((p 31) &&& ~~~(128:UInt8))))) rfl (EvP.cons (v:=((ac 32).val (fS (fun _=>0) (sqX (eC (stF p 31 ((p 31) &&& ~~~(128:UInt8)))))))) (hF.ev 0 rfl) (EvP.cons (v:=((ac 32).val (stF p 31 ((p 31) &&& ~~~(128:UInt8))))) (hF.ev 1 rfl) EvP.nil)) (eH (x:=(((fS (fun _=>0) (sqX (eC (stF p 31 ((p 31) &&& ~~~(128:UInt8)))))),(stF p 31 ((p 31) &&& ~~~(128:UInt8)))):Bt×Bt)) (by kernel_rfl) rfl rfl) _) 3 ?_
 refine ao 5 ?_
 refine re0 5 1 hH rfl (.sw cPr (fun _=>0,fun _=>0) ((fS (fun _=>0) (sqX (eC (stF p 31 ((p 31) &&& ~~~(128:UInt8)))))),(stF p 31 ((p 31) &&& ~~~(128:UInt8))))) trivial (pgo [] (.nil _ [])) ?_
 clear hH
 rintro _ _ w rfl hH
 refine ⟨an,rv 6 .mv 1 ?_⟩
 refine rn ?_
 refine ar (aX 1 0 (hH.blk 1 rfl) rfl rfl rfl (by kernel_rfl) (Cod.size _ _) (by kernel_rfl) ?_)
 have e1:=(show rd p=_ from (if_pos (Decidable.of_not_not hc7)).trans ((if_neg hc9).trans ((if_pos (Decidable.of_not_not hc10)).trans (if_neg hc11))))
 exact ⟨by rw[e1];rfl,HH.toBelow hH⟩
theorem w4(n p:Bt):Pure Tryz.prog 69 #[((ac 32).val n),((ac 32).val p)] (fun _=>True) (.tuple #[(ac 32).val (fz n p),.int .i64 ((rd p).2:Int)]):=by
 refine pU Tryz.func69 Tryz.ntmps69 ?_
 intro w0 hH hR
 refine zr (zB hH (ac 32) n 1 ?_)
 clear hH
 intro g1 w hH
 refine zB hH (ac 32) p 2 ?_
 clear hH
 intro g2 w hH
 refine zA hH (ac 32) (fun _=>0) 0 ?_
 clear hH
 intro g3 w hH
 refine zv .mv 0 ?_
 refine zn (zr (zs (hH.q 1 rfl) (.l0 (ac 32) p) 5 ?_))
 refine zc Tryz.func111 (CY p) trivial hH 1 ?_
 clear hH
 intro w hH
 refine zv .mv 1 ?_
 refine zv .ext 0 ?_
 refine zv .ext 2 ?_
 refine zA hH cPr (fun _=>0,fun _=>0) 0 ?_
 clear hH
 intro g4 w hH
 refine zW 3 hH rfl ((rd p).1) ?_
 clear hH
 intro w hH
 refine zv .mv 6 ?_
 refine zn (aj (zr (zv .mv 0 ?_)))
 refine zv (.ne ((rd p).2≠0)) 1 ?_
 refine zn ?_
 refine zP (fun hc5 => ?_) (fun hc5 => ?_)
 refine zr (zv (v:=((ac 32).val (fun _=>0))) (fun _ _ hF=>aE (cells:=(ac 32).enc (fun _=>0)) (vals:=[]) rfl EvP.nil (by kernel_rfl) _) 21 ?_)
 refine zv .mv 2 ?_
 refine zW 2 hH rfl (fun _=>0) ?_
 clear hH
 intro w hH
 refine zv .mv 3 ?_
 refine zn (ar (bj ?_))
 refine aX 1 0 (hH.blk 2 rfl) rfl rfl rfl (by kernel_rfl) (Cod.size _ _) (by kernel_rfl) ?_
 exact ⟨by rw[show fz n p=fun _=>0 from if_pos hc5];rfl,HH.toBelow hH⟩
 refine aA (ag (zx ?_))
 replace hH:=hH.drew
 refine rld 0 (hH.q 0 rfl) (.l0 (ac 32) n) 19 ?_
 refine rld 1 (hH.q 3 rfl) (.l0 cPr ((rd p).1)) 2 ?_
 refine ao 2 (rpc 2 Tryz.func114 (Af ((rd p).1)) trivial hH 1 (pgo [] (.keep (.nil _ []))) ?_)
 clear hH
 intro w hH
 refine ⟨am (hH.blk 0 rfl) an,?_⟩
 refine ao 3 (rpc 3 Tryz.func113 (BV n (sL ((rd p).1))) trivial hH 3 (pgo [] (.nil _ [])) ?_)
 clear hH
 intro w hH
 refine ⟨an,?_⟩
 refine ao 4 (rpc 4 Tryz.func112 (BU (tms n (sL ((rd p).1)))) trivial hH 1 (.nil _ []) ?_)
 clear hH
 intro w hH
 refine ⟨an,ao 5 ?_⟩
 refine re0 5 2 hH rfl (.sw (ac 32) (fun _=>0) (bOf (tms n (sL ((rd p).1))))) trivial (.nil _ []) ?_
 clear hH
 rintro _ _ w rfl hH
 refine ⟨an,rv 6 .mv 1 ?_⟩
 refine rn ?_
 refine ar (aX 1 0 (hH.blk 2 rfl) rfl rfl rfl (by kernel_rfl) (Cod.size _ _) (by kernel_rfl) ?_)
 have e2:(rd p).2=0:=Decidable.of_not_not hc5
 exact ⟨by rw[show fz n p=bOf (tms n (sL (rd p).1)) from if_neg hc5,e2];rfl,HH.toBelow hH⟩
theorem uJ(n q:Bt)(hq:q=wW):Pure Tryz.prog 38 #[((ac 32).val n)] (fun _=>True) ((ac 32).val (fz n q)):=by
 refine pU Tryz.func38 Tryz.ntmps38 ?_
 intro w0 hH hR
 refine zr (zB hH (ac 32) n 1 ?_)
 clear hH
 intro g1 w hH
 refine zA hH (ac 32) (fun _=>0) 0 ?_
 clear hH
 intro g2 w hH
 refine zn (zx ?_)
 replace hH:=hH.drew
 refine de 0 [ldv 0 6 [] [] [1000] fun G=>((ac 32).val n),pv 1 7 [] [] fun G=>((ac 32).val q),pv 2 8 [0,1] [] fun G=>(.tuple #[((ac 32).val (fz n q)),(.int .i64 ((((rd q).2):Nat):Int))]),pv 3 5 [2] [] fun G=>(.tuple #[((ac 32).val (fz n q)),(.int .i64 ((((rd q).2):Nat):Int))]),pv 4 9 [3] [] fun G=>((ac 32).val (fz n q)),pv 5 10 [3] [] fun G=>(.int .i64 ((((rd q).2):Nat):Int)),alv 6 3 [] [] fun G g=>[bl g 22 ((ac 32).enc (fun _=>0))],stv 7 [4,6] [6] 6 fun G=>[bl (G 6).g 22 ((ac 32).enc (fz n q))],pv 8 4 [5] [] fun G=>(.int .i64 ((((rd q).2):Nat):Int))] (fun G=>[(3,(.pointer (some ⟨(G 6).g,0,none⟩))),(2,(.pointer (some ⟨g2,0,none⟩)))]) (fun G=>[[bl g1 22 ((ac 32).enc n)],[bl g2 22 ((ac 32).enc (fun _=>0))],[bl (G 6).g 22 ((ac 32).enc (fz n q))]]) hH (.c (.ld (fun G _ _ hH=>(hH.q 0 rfl)) fun G=>(.ld (ac 32) n (fun _=>ae))) <| .c (Sp.c Tryz.func70 (fun G=>((BX hq) )) fun _=>trivial) <| .c (Sp.c Tryz.func69 (fun G=>(w4 n q)) fun _=>trivial) <| .c (.v fun G=>.mv) <| .c (.v fun G=>.ext) <| .c (.v fun G=>.ext) <| .c (.a (fun _ _ _ _=>trivial) (fun G=>(.al (ac 32) (fun _=>0))) fun _ _ _ h=>h) <| .c (.tn (fun G=>(.sw (ac 32) (fun _=>0) (fz n q))) (fun _ _ _ _=>trivial) fun _ _ _ h=>h) <| .c (.v fun G=>.mv) <| .nil) ?_
 clear hH
 rintro G w-hH
 revert hH
 generalize (G 6).g=g3
 intro hH
 refine rn ?_
 refine zr (zs (hH.q 2 rfl) (.l0 (ac 32) (fz n q)) 1 ?_)
 refine zW 1 hH rfl (fz n q) ?_
 clear hH
 intro w hH
 refine zn (ar (aI 1 (hH.blk 1 rfl) rfl rfl (by kernel_rfl) (Cod.size _ _) (by kernel_rfl) ?_))
 exact zE hH
theorem uK(n:Bt):Pure Tryz.prog 38 #[(ac 32).val n] (fun _=>True) ((ac 32).val (pD n)):=uJ n _ rfl
theorem w5(x:UInt64)(n:Nat)(h0:0<n)(h64:n<64):Pure Tryz.prog 184 #[(.int .u64 x.toNat),(.int .i64 (-(n:Int)))] (fun _=>True) (.int .u64 ((((cK x n).toNat):Nat):Int)):=by
 refine pU Tryz.func184 Tryz.ntmps184 ?_
 intro w0 hH hR
 refine zr (zv .mv 0 ?_)
 refine zn (zr (zv .mv 5 ?_))
 refine zv (v:=(.int .u64 (((18446744073709551616-n):Nat):Int))) (fun _ _ hF=>jR (k':=.u64) rfl (by kernel_rfl) (by kernel_rfl) (hF.ev 0 rfl) (ko h0 (by omega))) 1 ?_
 refine zv (v:=(.int .u64 (((64-n):Nat):Int))) (fun _ _ hF=>i8 (m:=18446744073709551616-n) (j:=63) (z:=(64-n)) rfl rfl (hF.ev 0 rfl) rfl (by show _<18446744073709551616;omega) (by decide) (by rw[show (63:Nat)=2^6-1 from rfl,nJ];omega)) 1 ?_
 refine zv .mv 1 ?_
 refine zn (zr (zv .mv 0 ?_))
 refine zv .mv 0 ?_
 refine zv (.lq (64-n)) 3 ?_
 refine zv .mv 4 ?_
 refine zv .mv 4 ?_
 refine zv (v:=(.int .u64 n)) (fun _ _ hF=>f8 (m:=64) (j:=64-n) (z:=n) rfl rfl rfl (hF.ev 0 rfl) (by show 64-n≤18446744073709551616;omega) (by show (64+(18446744073709551616-(64-n)))%18446744073709551616=_;omega)) 1 ?_
 refine zv (.rq n) 3 ?_
 refine zv (.oq (cK x n) (hz:=wb x n)) 3 ?_
 refine zv .mv 1 ?_
 refine zn (ar (aW 0 rfl rfl ?_))
 exact zE hH
theorem eh(x:UInt64)(n:Nat)(h0:0<n)(h64:n<64):Pure Tryz.prog 180 #[(.int .u64 x.toNat),(.int .i64 n)] (fun _=>True) (.int .u64 ((((cK x n).toNat):Nat):Int)):=by
 refine pU Tryz.func180 Tryz.ntmps180 ?_
 intro w0 hH hR
 refine zr (zv .mv 0 ?_)
 refine zn (zr (zv .mv 3 ?_))
 refine zv .mv 2 ?_
 refine zv (v:=(.int .i64 (-((n:Nat):Int)))) (fun _ _ hF=>oZ rfl (hF.ev 0 rfl) (wI (by omega) (by omega) (by omega))) 1 ?_
 refine zc Tryz.func184 (w5 x n h0 h64) trivial hH 3 ?_
 clear hH
 intro w hH
 refine zv .mv 1 ?_
 refine zn (ar (aW 0 rfl rfl ?_))
 exact zE hH
theorem sO(x:UInt64):Pure Tryz.prog 170 #[(.int .u64 x.toNat)] (fun _=>True) (.int .u64 ((((iw x).toNat):Nat):Int)):=by
 refine pU Tryz.func170 Tryz.ntmps170 ?_
 intro w0 hH hR
 refine zr (zv .mv 0 ?_)
 refine zn (zr (zv .mv 1 ?_))
 refine zc Tryz.func180 (eh x 28 (ltb rfl) (ltb rfl)) trivial hH 1 ?_
 clear hH
 intro w hH
 refine zv .mv 0 ?_
 refine zc Tryz.func180 (eh x 34 (ltb rfl) (ltb rfl)) trivial hH 1 ?_
 clear hH
 intro w hH
 refine zv (.xq (cJ (cK x 28) (cK x 34))) 3 ?_
 refine zv .mv 2 ?_
 refine zc Tryz.func180 (eh x 39 (ltb rfl) (ltb rfl)) trivial hH 1 ?_
 clear hH
 intro w hH
 refine zv (.xq (cJ (cJ (cK x 28) (cK x 34)) (cK x 39))) 3 ?_
 refine zv .mv 1 ?_
 refine zn (ar (aW 0 rfl rfl ?_))
 exact zE hH
theorem sP(x:UInt64):Pure Tryz.prog 169 #[(.int .u64 x.toNat)] (fun _=>True) (.int .u64 ((((dC x).toNat):Nat):Int)):=by
 refine pU Tryz.func169 Tryz.ntmps169 ?_
 intro w0 hH hR
 refine zr (zv .mv 0 ?_)
 refine zn (zr (zv .mv 1 ?_))
 refine zc Tryz.func180 (eh x 14 (ltb rfl) (ltb rfl)) trivial hH 1 ?_
 clear hH
 intro w hH
 refine zv .mv 0 ?_
 refine zc Tryz.func180 (eh x 18 (ltb rfl) (ltb rfl)) trivial hH 1 ?_
 clear hH
 intro w hH
 refine zv (.xq (cJ (cK x 14) (cK x 18))) 3 ?_
 refine zv .mv 2 ?_
 refine zc Tryz.func180 (eh x 41 (ltb rfl) (ltb rfl)) trivial hH 1 ?_
 clear hH
 intro w hH
 refine zv (.xq (cJ (cJ (cK x 14) (cK x 18)) (cK x 41))) 3 ?_
 refine zv .mv 1 ?_
 refine zn (ar (aW 0 rfl rfl ?_))
 exact zE hH
theorem sQ(x:UInt64):Pure Tryz.prog 179 #[(.int .u64 x.toNat)] (fun _=>True) (.int .u64 ((((db x).toNat):Nat):Int)):=by
 refine pU Tryz.func179 Tryz.ntmps179 ?_
 intro w0 hH hR
 refine zr (zv .mv 0 ?_)
 refine zn (zr (zv .mv 1 ?_))
 refine zc Tryz.func180 (eh x 1 (ltb rfl) (ltb rfl)) trivial hH 1 ?_
 clear hH
 intro w hH
 refine zv .mv 0 ?_
 refine zc Tryz.func180 (eh x 8 (ltb rfl) (ltb rfl)) trivial hH 1 ?_
 clear hH
 intro w hH
 refine zv (.xq (cJ (cK x 1) (cK x 8))) 3 ?_
 refine zv .mv 2 ?_
 refine zv (.rq 7) 1 ?_
 refine zv (.xq (cJ (cJ (cK x 1) (cK x 8)) (fV x 7))) 3 ?_
 refine zv .mv 1 ?_
 refine zn (ar (aW 0 rfl rfl ?_))
 exact zE hH
theorem sR(x:UInt64):Pure Tryz.prog 178 #[(.int .u64 x.toNat)] (fun _=>True) (.int .u64 ((((cF x).toNat):Nat):Int)):=by
 refine pU Tryz.func178 Tryz.ntmps178 ?_
 intro w0 hH hR
 refine zr (zv .mv 0 ?_)
 refine zn (zr (zv .mv 1 ?_))
 refine zc Tryz.func180 (eh x 19 (ltb rfl) (ltb rfl)) trivial hH 1 ?_
 clear hH
 intro w hH
 refine zv .mv 0 ?_
 refine zc Tryz.func180 (eh x 61 (ltb rfl) (ltb rfl)) trivial hH 1 ?_
 clear hH
 intro w hH
 refine zv (.xq (cJ (cK x 19) (cK x 61))) 3 ?_
 refine zv .mv 2 ?_
 refine zv (.rq 6) 1 ?_
 refine zv (.xq (cJ (cJ (cK x 19) (cK x 61)) (fV x 6))) 3 ?_
 refine zv .mv 1 ?_
 refine zn (ar (aW 0 rfl rfl ?_))
 exact zE hH
theorem uL(b:Nat→UInt8):Pure Tryz.prog 168 #[((ac 128).val b)] (fun _=>True) ((cQs 80).val (W64 b)):=by
 refine pU Tryz.func168 Tryz.ntmps168 ?_
 intro w0 hH hR
 refine zr (zB hH (ac 128) b 1 ?_)
 clear hH
 intro g1 w hH
 refine zA hH (cQs 80) (fun _=>0) 0 ?_
 clear hH
 intro g2 w hH
 refine zn (zr (zA hH (cQs 80) (fun _=>0) 0 ?_))
 clear hH
 intro g3 w hH
 refine zn (aj ?_)
 have he4:(cQs 80).enc (aT b 0)=(cQs 80).enc (fun _=>0):=aP (fun i _=>by rw[lT])
 replace hH:HH w0 [] [[bl g1 179 ((ac 128).enc b)],[bl g2 159 ((cQs 80).enc (fun _=>0))],[bl g3 159 ((cQs 80).enc (aT b 0))]] w:=by rw[he4];exact hH
 refine zr (zs (hH.q 0 rfl) (.l0 (ac 128) b) 4 ?_)
 refine zv .mv 0 ?_
 refine zn (ai (zL1 (fun (m:Nat)=>[(8,(.int .i64 m)),(7,((ac 128).val b)),(3,(.pointer (some ⟨g3,0,none⟩))),(2,(.pointer (some ⟨g2,0,none⟩)))]) (fun m w=>HH w0 [] [[bl g1 179 ((ac 128).enc b)],[bl g2 159 ((cQs 80).enc (fun _=>0))],[bl g3 159 ((cQs 80).enc (aT b m))]] w∧(m≤128)) (fun m=>128-m) 0 ⟨hH,(Nat.zero_le _)⟩ ?_))
 clear hH
 rintro m w ⟨hH,hm⟩
 refine zr (zv (.lt (m<128)) 0 ?_)
 refine zn (aj ?_)
 refine zP (fun hc5 => ?_) (fun hc5 => ?_)
 refine aA (ag (aj (ai (zr (zv .mv 1 ?_)))))
 have hi6:m<128:=by omega
 refine zv (v:=(.int .u8 ((((b m).toNat):Nat):Int))) (fun _ _ hF=>e8 (S:=sBy) (e:=5) (n:=128) (i:=m) (f:=b) rfl (by kernel_rfl) (by kernel_rfl) (hF.ev 2 rfl) (hF.ev 1 rfl) rfl hi6) 0 ?_
 refine zv .mv 2 ?_
 refine zv .mv 2 ?_
 refine zn (aC (zv .mv 0 ?_))
 refine zv (v:=(.int .i64 (((m/8):Nat):Int))) (fun _ _ hF=>cM (z:=((m/8:Nat):Int)) rfl (hF.ev 0 rfl) rfl (by omega) (wI dO (by omega) (by omega))) 1 ?_
 refine zv .mv 4 ?_
 refine zv (v:=(.int .i64 (((m/8):Nat):Int))) (fun _ _ hF=>cM (z:=((m/8:Nat):Int)) rfl (hF.ev 0 rfl) rfl (by omega) (wI dO (by omega) (by omega))) 1 ?_
 have hi7:m/8<80:=by omega
 refine zv (.ia 1 80 (m/8) (hi:=hi7)) 1 ?_
 refine zs (hH.q 2 rfl) (.ld cWq ((aT b m) (m/8)) (fun _ hS=>((ae hS).eltV hi7))) 1 ?_
 refine zv (.lq 8) 1 ?_
 refine zv .mv 4 ?_
 refine zv (v:=(.int .u64 ((((UInt64.ofNat (b m).toNat).toNat):Nat):Int))) (fun _ _ hF=>qq (z:=UInt64.ofNat (b m).toNat) rfl rfl (by kernel_rfl) (hF.ev 0 rfl) rfl) 1 ?_
 refine zv (.oq (aT b (m+1) (m/8)) (hz:=lS b m (m/8) rfl)) 3 ?_
 have hi8:m/8<80:=by omega
 refine zv (.ia 1 80 (m/8) (hi:=hi8)) 2 ?_
 refine ze0 2 hH rfl (.st cWq (aT b (m+1) (m/8)) (aU (S:=sWq) (C:=(cQs 80)) rfl hi8) (bE (aT b m) (aT b (m+1) (m/8)) hi8)) trivial ?_
 clear hH
 rintro _ _ w rfl hH
 refine aD (aN (ag (aC (zv (.add ((m+1:Nat):Int)) 7 ?_))))
 refine zv .mv 1 ?_
 refine aD ?_
 have he9:(cQs 80).enc (aT b (m+1))=(cQs 80).enc (stF (aT b m) (m/8) (aT b (m+1) (m/8))):=aP (fun i _=>(congrFun (nQ b m (m/8) _ rfl rfl) i).symm)
 replace hH:HH w0 [] [[bl g1 179 ((ac 128).enc b)],[bl g2 159 ((cQs 80).enc (fun _=>0))],[bl g3 159 ((cQs 80).enc (aT b (m+1)))]] w:=by rw[he9];exact hH
 exact zR1 (m+1) ⟨hH,(by omega)⟩ (by omega)
 refine aJ (ak (ak (aR (ag (aj ?_)))))
 obtain rfl:m=128:=by omega
 have he10:(cQs 80).enc (upF 16 (W64 b) (aT b 128))=(cQs 80).enc (aT b 128):=aP (fun i _=>by rw[lU])
 replace hH:HH w0 [] [[bl g1 179 ((ac 128).enc b)],[bl g2 159 ((cQs 80).enc (fun _=>0))],[bl g3 159 ((cQs 80).enc (upF 16 (W64 b) (aT b 128)))]] w:=by rw[he10];exact hH
 refine zr (zv .mv 7 ?_)
 refine zn (ai (zL1 (fun (t:Nat)=>[(6,(.int .i64 t)),(3,(.pointer (some ⟨g3,0,none⟩))),(2,(.pointer (some ⟨g2,0,none⟩)))]) (fun t w=>HH w0 [] [[bl g1 179 ((ac 128).enc b)],[bl g2 159 ((cQs 80).enc (fun _=>0))],[bl g3 159 ((cQs 80).enc (upF t (W64 b) (aT b 128)))]] w∧(16≤t)∧(t≤80)) (fun t=>80-t) 16 ⟨hH,(Nat.le_refl _),(by decide)⟩ ?_))
 clear hH
 rintro t w ⟨hH,h16,ht⟩
 refine aj (zr (zv .mv 0 ?_))
 refine zv (.lt (t<80)) 1 ?_
 refine zn ?_
 refine zP (fun hc11 => ?_) (fun hc11 => ?_)
 refine aA (ag (aj (ai (br mixedOrders (by kernel_rfl) ?_))))
 replace hH:=hH.drew
 refine rv 0 .mv 1 ?_
 refine rv 1 .mv 0 ?_
 refine rv 2 (.sub (((t-2):Nat):Int)) 1 ?_
 have hi12:t-2<80:=by omega
 refine rv 3 (.ia 1 80 (t-2) (hi:=hi12)) 1 ?_
 refine rld 4 (hH.q 2 rfl) (.ld cWq ((upF t (W64 b) (aT b 128)) (t-2)) (fun _ hS=>((ae hS).eltV hi12))) 1 ?_
 refine rv 6 .mv 0 ?_
 refine rv 7 (.sub (((t-7):Nat):Int)) 1 ?_
 have hi13:t-7<80:=by omega
 refine rv 8 (.ia 1 80 (t-7) (hi:=hi13)) 1 ?_
 refine rld 9 (hH.q 2 rfl) (.ld cWq ((upF t (W64 b) (aT b 128)) (t-7)) (fun _ hS=>((ae hS).eltV hi13))) 1 ?_
 refine rv 11 .mv 0 ?_
 refine rv 12 (.sub (((t-15):Nat):Int)) 1 ?_
 have hi14:t-15<80:=by omega
 refine rv 13 (.ia 1 80 (t-15) (hi:=hi14)) 1 ?_
 refine rld 14 (hH.q 2 rfl) (.ld cWq ((upF t (W64 b) (aT b 128)) (t-15)) (fun _ hS=>((ae hS).eltV hi14))) 1 ?_
 refine rv 17 .mv 0 ?_
 refine rv 18 (.sub (((t-16):Nat):Int)) 1 ?_
 have hi15:t-16<80:=by omega
 refine rv 19 (.ia 1 80 (t-16) (hi:=hi15)) 1 ?_
 refine rld 20 (hH.q 2 rfl) (.ld cWq ((upF t (W64 b) (aT b 128)) (t-16)) (fun _ hS=>((ae hS).eltV hi15))) 1 ?_
 refine ao 5 (rpc 5 Tryz.func178 (sR ((upF t (W64 b) (aT b 128)) (t-2))) trivial hH 8 (.keep (.keep (.keep (pgo [] (.nil _ []))))) ?_)
 clear hH
 intro w hH
 refine ⟨am (hH.blk 2 rfl) (am (hH.blk 2 rfl) (am (hH.blk 2 rfl) an)),?_⟩
 refine rv 10 (.aq (bh (cF ((upF t (W64 b) (aT b 128)) (t-2))) ((upF t (W64 b) (aT b 128)) (t-7)))) 9 ?_
 refine ao 15 (rpc 15 Tryz.func179 (sQ ((upF t (W64 b) (aT b 128)) (t-15))) trivial hH 4 (.keep (pgo [] (.keep (.nil _ [])))) ?_)
 clear hH
 intro w hH
 refine ⟨am (hH.blk 2 rfl) (am (hH.blk 2 rfl) an),?_⟩
 refine rv 16 (.aq (bh (bh (cF ((upF t (W64 b) (aT b 128)) (t-2))) ((upF t (W64 b) (aT b 128)) (t-7))) (db ((upF t (W64 b) (aT b 128)) (t-15))))) 3 ?_
 refine rv 21 (.aq (bh (bh (bh (cF ((upF t (W64 b) (aT b 128)) (t-2))) ((upF t (W64 b) (aT b 128)) (t-7))) (db ((upF t (W64 b) (aT b 128)) (t-15)))) ((upF t (W64 b) (aT b 128)) (t-16)))) 3 ?_
 have hi16:t<80:=by omega
 refine rv 22 (.ia 1 80 t (hi:=hi16)) 2 ?_
 refine ao 23 ?_
 refine re0 23 2 hH rfl (.st cWq (bh (bh (bh (cF ((upF t (W64 b) (aT b 128)) (t-2))) ((upF t (W64 b) (aT b 128)) (t-7))) (db ((upF t (W64 b) (aT b 128)) (t-15)))) ((upF t (W64 b) (aT b 128)) (t-16))) (aU (S:=sWq) (C:=(cQs 80)) rfl hi16) (bE (upF t (W64 b) (aT b 128)) (bh (bh (bh (cF ((upF t (W64 b) (aT b 128)) (t-2))) ((upF t (W64 b) (aT b 128)) (t-7))) (db ((upF t (W64 b) (aT b 128)) (t-15)))) ((upF t (W64 b) (aT b 128)) (t-16))) hi16)) trivial (pgo [] (pgo [] (.nil _ []))) ?_
 clear hH
 rintro _ _ w rfl hH
 refine ⟨an,bQ (by kernel_rfl) ?_⟩
 refine aN (ag (aC (zv .mv 7 ?_)))
 refine zv (.add ((t+1:Nat):Int)) 1 ?_
 refine zv .mv 1 ?_
 refine aD ?_
 have he17:(cQs 80).enc (upF (t+1) (W64 b) (aT b 128))=(cQs 80).enc (stF (upF t (W64 b) (aT b 128)) t (bh (bh (bh (cF ((upF t (W64 b) (aT b 128)) (t-2))) ((upF t (W64 b) (aT b 128)) (t-7))) (db ((upF t (W64 b) (aT b 128)) (t-15)))) ((upF t (W64 b) (aT b 128)) (t-16)))):=aP (fun i _=>(congrFun (bi t (W64 b) (aT b 128) (nR h16)) i).symm)
 replace hH:HH w0 [] [[bl g1 179 ((ac 128).enc b)],[bl g2 159 ((cQs 80).enc (fun _=>0))],[bl g3 159 ((cQs 80).enc (upF (t+1) (W64 b) (aT b 128)))]] w:=by rw[he17];exact hH
 exact zR1 (t+1) ⟨hH,(by omega),(by omega)⟩ (by omega)
 refine aJ (ak (ak (aR (ag ?_))))
 obtain rfl:t=80:=by omega
 have he18:(cQs 80).enc (W64 b)=(cQs 80).enc (upF 80 (W64 b) (aT b 128)):=aP (fun i hi=>(bz _ _ hi).symm)
 replace hH:HH w0 [] [[bl g1 179 ((ac 128).enc b)],[bl g2 159 ((cQs 80).enc (fun _=>0))],[bl g3 159 ((cQs 80).enc (W64 b))]] w:=by rw[he18];exact hH
 refine zr (zs (hH.q 2 rfl) (.l0 (cQs 80) (W64 b)) 7 ?_)
 refine zW 1 hH rfl (W64 b) ?_
 clear hH
 intro w hH
 refine zn (ar (aI 1 (hH.blk 1 rfl) rfl rfl (by kernel_rfl) (Cod.size _ _) (by kernel_rfl) ?_))
 exact zE hH
theorem uM(s:Nat→UInt64):Pure Tryz.prog 109 #[((cQs 8).val s)] (fun _=>True) ((ac 64).val (cj s)):=by
 refine pU Tryz.func109 Tryz.ntmps109 ?_
 intro w0 hH hR
 refine zr (zB hH (cQs 8) s 1 ?_)
 clear hH
 intro g1 w hH
 refine zA hH (ac 64) (fun _=>0) 0 ?_
 clear hH
 intro g2 w hH
 refine zn (zr (zA hH (ac 64) (fun _=>0) 0 ?_))
 clear hH
 intro g3 w hH
 refine zn (aj ?_)
 have he4:(ac 64).enc (upF 0 (cj s) (fun _=>0))=(ac 64).enc (fun _=>0):=aB (fun i _=>by rw[bw])
 replace hH:HH w0 [] [[bl g1 141 ((cQs 8).enc s)],[bl g2 93 ((ac 64).enc (fun _=>0))],[bl g3 93 ((ac 64).enc (upF 0 (cj s) (fun _=>0)))]] w:=by rw[he4];exact hH
 refine zr (zv .mv 0 ?_)
 refine zn (ai (zL1 (fun (m:Nat)=>[(5,(.int .i64 m)),(3,(.pointer (some ⟨g3,0,none⟩))),(2,(.pointer (some ⟨g2,0,none⟩))),(1,(.pointer (some ⟨g1,0,none⟩)))]) (fun m w=>HH w0 [] [[bl g1 141 ((cQs 8).enc s)],[bl g2 93 ((ac 64).enc (fun _=>0))],[bl g3 93 ((ac 64).enc (upF m (cj s) (fun _=>0)))]] w∧(m≤64)) (fun m=>64-m) 0 ⟨hH,(Nat.zero_le _)⟩ ?_))
 clear hH
 rintro m w ⟨hH,hm⟩
 refine zr (zv (.lt (m<64)) 0 ?_)
 refine zn (aj ?_)
 refine zP (fun hc5 => ?_) (fun hc5 => ?_)
 refine aA (ag (aj (ai (zr (zv .mv 1 ?_)))))
 refine zv .mv 1 ?_
 refine zn (aC (zv .mv 0 ?_))
 refine zv .mv 0 ?_
 refine zv (v:=(.int .i64 (((m/8):Nat):Int))) (fun _ _ hF=>cM (z:=((m/8:Nat):Int)) rfl (hF.ev 0 rfl) rfl (by omega) (wI dO (by omega) (by omega))) 1 ?_
 have hi6:m/8<8:=by omega
 refine zv (.ia 1 8 (m/8) (hi:=hi6)) 1 ?_
 refine zs (hH.q 0 rfl) (.ld cWq (s (m/8)) (fun _ hS=>((ae hS).eltV hi6))) 1 ?_
 refine zv .mv 4 ?_
 refine zv (v:=(.int .i64 (((m%8):Nat):Int))) (fun _ _ hF=>bm (z:=((m%8:Nat):Int)) rfl (hF.ev 0 rfl) rfl (by omega) bW) 1 ?_
 refine zv (.mul (((m%8)*8:Nat):Int)) 1 ?_
 refine zv (.sub (((56-m%8*8):Nat):Int)) 1 ?_
 refine zv (.rq (56-m%8*8)) 3 ?_
 refine zv .cb 1 ?_
 have hi7:m<64:=by omega
 refine zv (.ia 1 64 m (hi:=hi7)) 2 ?_
 refine ze0 2 hH rfl (.st af (UInt8.ofNat ((fV (s (m/8)) (56-m%8*8)).toNat)) (aU (S:=sBy) (C:=(ac 64)) rfl hi7) (aQ (upF m (cj s) (fun _=>0)) (UInt8.ofNat ((fV (s (m/8)) (56-m%8*8)).toNat)) hi7)) trivial ?_
 clear hH
 rintro _ _ w rfl hH
 refine aD (aN (ag (aC (zv (.add ((m+1:Nat):Int)) 7 ?_))))
 refine zv .mv 1 ?_
 refine aD ?_
 have he8:(ac 64).enc (upF (m+1) (cj s) (fun _=>0))=(ac 64).enc (stF (upF m (cj s) (fun _=>0)) m (UInt8.ofNat ((fV (s (m/8)) (56-m%8*8)).toNat))):=aB (fun i _=>(congrFun (bi m (cj s) (fun _=>0) (tQ s m)) i).symm)
 replace hH:HH w0 [] [[bl g1 141 ((cQs 8).enc s)],[bl g2 93 ((ac 64).enc (fun _=>0))],[bl g3 93 ((ac 64).enc (upF (m+1) (cj s) (fun _=>0)))]] w:=by rw[he8];exact hH
 exact zR1 (m+1) ⟨hH,(by omega)⟩ (by omega)
 refine aJ (ak (ak (aR (ag ?_))))
 obtain rfl:m=64:=by omega
 have he9:(ac 64).enc (cj s)=(ac 64).enc (upF 64 (cj s) (fun _=>0)):=aB (fun i hi=>(bz _ _ hi).symm)
 replace hH:HH w0 [] [[bl g1 141 ((cQs 8).enc s)],[bl g2 93 ((ac 64).enc (fun _=>0))],[bl g3 93 ((ac 64).enc (cj s))]] w:=by rw[he9];exact hH
 refine zr (zs (hH.q 2 rfl) (.l0 (ac 64) (cj s)) 23 ?_)
 refine zW 1 hH rfl (cj s) ?_
 clear hH
 intro w hH
 refine zn (ar (aI 1 (hH.blk 1 rfl) rfl rfl (by kernel_rfl) (Cod.size _ _) (by kernel_rfl) ?_))
 exact zE hH
theorem Ai(s:Nat→UInt64)(b:Nat→UInt8):Pure Tryz.prog 142 #[((cQs 8).val s),((ac 128).val b)] (fun w=>w.heap[4]?=some (.cells ((cQs 80).enc K64) 159 (0,0))) ((cQs 8).val (bs b s)):=by
 refine pU Tryz.func142 Tryz.ntmps142 ?_
 intro w0 hH hR
 refine zr (zB hH (cQs 8) s 1 ?_)
 clear hH
 intro g1 w hH
 refine zB hH (ac 128) b 2 ?_
 clear hH
 intro g2 w hH
 refine zA hH (cQs 8) (fun _=>0) 0 ?_
 clear hH
 intro g3 w hH
 refine zn (zr (zs (hH.q 1 rfl) (.l0 (ac 128) b) 2 ?_))
 refine zc Tryz.func168 (uL b) trivial hH 1 ?_
 clear hH
 intro w hH
 refine zA hH (cQs 80) (fun _=>0) 0 ?_
 clear hH
 intro g4 w hH
 refine zW 3 hH rfl (W64 b) ?_
 clear hH
 intro w hH
 refine zn (zx ?_)
 replace hH:=hH.drew
 have hi5:0<8:=by omega
 refine rv 0 (.ia 1 8 0 (hi:=hi5)) 2 ?_
 refine rld 1 (hH.q 0 rfl) (.ld cWq (s 0) (fun _ hS=>((ae hS).eltV hi5))) 1 ?_
 have hi6:1<8:=by omega
 refine rv 2 (.ia 1 8 1 (hi:=hi6)) 0 ?_
 refine rld 3 (hH.q 0 rfl) (.ld cWq (s 1) (fun _ hS=>((ae hS).eltV hi6))) 1 ?_
 have hi7:2<8:=by omega
 refine rv 4 (.ia 1 8 2 (hi:=hi7)) 0 ?_
 refine rld 5 (hH.q 0 rfl) (.ld cWq (s 2) (fun _ hS=>((ae hS).eltV hi7))) 1 ?_
 have hi8:3<8:=by omega
 refine rv 6 (.ia 1 8 3 (hi:=hi8)) 0 ?_
 refine rld 7 (hH.q 0 rfl) (.ld cWq (s 3) (fun _ hS=>((ae hS).eltV hi8))) 1 ?_
 have hi9:4<8:=by omega
 refine rv 8 (.ia 1 8 4 (hi:=hi9)) 0 ?_
 refine rld 9 (hH.q 0 rfl) (.ld cWq (s 4) (fun _ hS=>((ae hS).eltV hi9))) 1 ?_
 have hi10:5<8:=by omega
 refine rv 10 (.ia 1 8 5 (hi:=hi10)) 0 ?_
 refine rld 11 (hH.q 0 rfl) (.ld cWq (s 5) (fun _ hS=>((ae hS).eltV hi10))) 1 ?_
 have hi11:6<8:=by omega
 refine rv 12 (.ia 1 8 6 (hi:=hi11)) 0 ?_
 refine rld 13 (hH.q 0 rfl) (.ld cWq (s 6) (fun _ hS=>((ae hS).eltV hi11))) 1 ?_
 have hi12:7<8:=by omega
 refine rv 14 (.ia 1 8 7 (hi:=hi12)) 0 ?_
 refine rld 15 (hH.q 0 rfl) (.ld cWq (s 7) (fun _ hS=>((ae hS).eltV hi12))) 1 ?_
 refine rv 16 .mv 128 ?_
 refine rv 17 .mv 128 ?_
 refine rv 18 .mv 128 ?_
 refine rv 19 .mv 128 ?_
 refine rv 20 .mv 128 ?_
 refine rv 21 .mv 128 ?_
 refine rv 22 .mv 128 ?_
 refine rv 23 .mv 128 ?_
 refine rn ?_
 refine aj (zr (zv .mv 0 ?_))
 refine zn (ai (zL1 (fun (m:Nat)=>[(37,(.int .i64 m)),(13,(.int .u64 ((((av b s m 7).toNat):Nat):Int))),(12,(.int .u64 ((((av b s m 6).toNat):Nat):Int))),(11,(.int .u64 ((((av b s m 5).toNat):Nat):Int))),(10,(.int .u64 ((((av b s m 4).toNat):Nat):Int))),(9,(.int .u64 ((((av b s m 3).toNat):Nat):Int))),(8,(.int .u64 ((((av b s m 2).toNat):Nat):Int))),(7,(.int .u64 ((((av b s m 1).toNat):Nat):Int))),(6,(.int .u64 ((((av b s m 0).toNat):Nat):Int))),(5,(.pointer (some ⟨g4,0,none⟩))),(4,(.pointer (some ⟨g3,0,none⟩))),(2,(.pointer (some ⟨g1,0,none⟩)))]) (fun m w=>HH w0 [] [[bl g1 141 ((cQs 8).enc s)],[bl g2 179 ((ac 128).enc b)],[bl g3 141 ((cQs 8).enc (fun _=>0))],[bl g4 159 ((cQs 80).enc (W64 b))]] w∧(m≤80)) (fun m=>80-m) 0 ⟨hH,(Nat.zero_le _)⟩ ?_))
 clear hH
 rintro m w ⟨hH,hm⟩
 refine zr (zv (.lt (m<80)) 0 ?_)
 refine zn (aj ?_)
 refine zP (fun hc13 => ?_) (fun hc13 => ?_)
 refine aA (ag (aj (ai (zr (zv .mv 1 ?_)))))
 refine zv .mv 1 ?_
 refine zn (zx ?_)
 replace hH:=hH.drew
 refine rv 0 .mv 4 ?_
 refine rv 1 .mv 0 ?_
 refine rv 4 .mv 0 ?_
 refine rv 5 .mv 0 ?_
 refine rv 6 (.nq (bL (av b s m 4) (av b s m 5))) 3 ?_
 refine rv 7 .mv 0 ?_
 refine rv 8 .cq 1 ?_
 refine rv 9 .mv 0 ?_
 refine rv 10 (.nq (bL (ez (av b s m 4)) (av b s m 6))) 3 ?_
 refine rv 11 (.xq (cJ (bL (av b s m 4) (av b s m 5)) (bL (ez (av b s m 4)) (av b s m 6)))) 3 ?_
 refine rv 13 .mv 0 ?_
 have hi14:m<80:=by omega
 refine rv 14 (.ia 1 80 m (hi:=hi14)) 1 ?_
 refine rld 15 (hH.ob hR) (.ld cWq (K64 m) (fun _ hS=>((ae hS).eltV hi14))) 1 ?_
 refine rv 17 .mv 16 ?_
 have hi15:m<80:=by omega
 refine rv 18 (.ia 1 80 m (hi:=hi15)) 1 ?_
 refine rld 19 (hH.q 3 rfl) (.ld cWq ((W64 b) m) (fun _ hS=>((ae hS).eltV hi15))) 1 ?_
 refine ao 2 (rpc 2 Tryz.func169 (sP (av b s m 4)) trivial hH 8 (.keep (.keep (.nil _ []))) ?_)
 clear hH
 intro w hH
 refine ⟨am (hH.blk 3 rfl) (am (hH.oldBlk hR (by simp)) an),?_⟩
 refine rv 3 (.aq (bh (av b s m 7) (dC (av b s m 4)))) 17 ?_
 refine rv 12 (.aq (bh (bh (av b s m 7) (dC (av b s m 4))) (cJ (bL (av b s m 4) (av b s m 5)) (bL (ez (av b s m 4)) (av b s m 6))))) 9 ?_
 refine rv 16 (.aq (bh (bh (bh (av b s m 7) (dC (av b s m 4))) (cJ (bL (av b s m 4) (av b s m 5)) (bL (ez (av b s m 4)) (av b s m 6)))) (K64 m))) 5 ?_
 refine rv 20 (.aq (bh (bh (bh (bh (av b s m 7) (dC (av b s m 4))) (cJ (bL (av b s m 4) (av b s m 5)) (bL (ez (av b s m 4)) (av b s m 6)))) (K64 m)) ((W64 b) m))) 3 ?_
 refine rv 21 .mv 1 ?_
 refine rn ?_
 refine zr (zv .mv 0 ?_)
 refine zc Tryz.func170 (sO (av b s m 0)) trivial hH 1 ?_
 clear hH
 intro w hH
 refine zv .mv 0 ?_
 refine zv .mv 0 ?_
 refine zv (.nq (bL (av b s m 0) (av b s m 1))) 3 ?_
 refine zv .mv 0 ?_
 refine zv .mv 0 ?_
 refine zv (.nq (bL (av b s m 0) (av b s m 2))) 3 ?_
 refine zv (.xq (cJ (bL (av b s m 0) (av b s m 1)) (bL (av b s m 0) (av b s m 2)))) 3 ?_
 refine zv .mv 0 ?_
 refine zv .mv 0 ?_
 refine zv (.nq (bL (av b s m 1) (av b s m 2))) 3 ?_
 refine zv (.xq (cJ (cJ (bL (av b s m 0) (av b s m 1)) (bL (av b s m 0) (av b s m 2))) (bL (av b s m 1) (av b s m 2)))) 3 ?_
 refine zv (.aq (bh (iw (av b s m 0)) (cJ (cJ (bL (av b s m 0) (av b s m 1)) (bL (av b s m 0) (av b s m 2))) (bL (av b s m 1) (av b s m 2))))) 3 ?_
 refine zv .mv 1 ?_
 refine zn (aC (zv .mv 0 ?_))
 refine zv .mv 2 ?_
 refine zv (.aq (bh (bh (bh (bh (bh (av b s m 7) (dC (av b s m 4))) (cJ (bL (av b s m 4) (av b s m 5)) (bL (ez (av b s m 4)) (av b s m 6)))) (K64 m)) ((W64 b) m)) (bh (iw (av b s m 0)) (cJ (cJ (bL (av b s m 0) (av b s m 1)) (bL (av b s m 0) (av b s m 2))) (bL (av b s m 1) (av b s m 2)))))) 3 ?_
 refine zv .mv 512 ?_
 refine zv .mv 512 ?_
 refine zv .mv 512 ?_
 refine zv .mv 512 ?_
 refine zv .mv 32 ?_
 refine zv (.aq (bh (av b s m 3) (bh (bh (bh (bh (av b s m 7) (dC (av b s m 4))) (cJ (bL (av b s m 4) (av b s m 5)) (bL (ez (av b s m 4)) (av b s m 6)))) (K64 m)) ((W64 b) m)))) 3 ?_
 refine zv .mv 256 ?_
 refine zv .mv 256 ?_
 refine zv .mv 256 ?_
 refine zv .mv 128 ?_
 refine zv .mv 128 ?_
 refine zv .mv 128 ?_
 refine zv .mv 128 ?_
 refine zv .mv 128 ?_
 refine zv .mv 128 ?_
 refine zv .mv 128 ?_
 refine zv .mv 128 ?_
 refine aD (aN (ag (aC (zv (.add ((m+1:Nat):Int)) 256 ?_))))
 refine zv .mv 1 ?_
 refine aD ?_
 exact zR1 (m+1) ⟨hH,(by omega)⟩ (by omega)
 refine aJ (ak (ak (aR (ag (aj ?_)))))
 obtain rfl:m=80:=by omega
 refine zr (zv .mv 1539 ?_)
 refine zv .mv 128 ?_
 refine zv .mv 128 ?_
 refine zv .mv 128 ?_
 refine zv .mv 128 ?_
 refine zv .mv 128 ?_
 refine zv .mv 128 ?_
 refine zv .mv 128 ?_
 refine zv (v:=((cQs 8).val (av b s 80))) (fun _ _ hF=>aE (cells:=(cQs 8).enc (av b s 80)) (vals:=[(0,(.int .u64 ((((av b s 80 0).toNat):Nat):Int))),(1,(.int .u64 ((((av b s 80 1).toNat):Nat):Int))),(2,(.int .u64 ((((av b s 80 2).toNat):Nat):Int))),(3,(.int .u64 ((((av b s 80 3).toNat):Nat):Int))),(4,(.int .u64 ((((av b s 80 4).toNat):Nat):Int))),(5,(.int .u64 ((((av b s 80 5).toNat):Nat):Int))),(6,(.int .u64 ((((av b s 80 6).toNat):Nat):Int))),(7,(.int .u64 ((((av b s 80 7).toNat):Nat):Int)))]) rfl (EvP.cons (v:=(.int .u64 ((((av b s 80 0).toNat):Nat):Int))) (hF.ev 7 rfl) (EvP.cons (v:=(.int .u64 ((((av b s 80 1).toNat):Nat):Int))) (hF.ev 6 rfl) (EvP.cons (v:=(.int .u64 ((((av b s 80 2).toNat):Nat):Int))) (hF.ev 5 rfl) (EvP.cons (v:=(.int .u64 ((((av b s 80 3).toNat):Nat):Int))) (hF.ev 4 rfl) (EvP.cons (v:=(.int .u64 ((((av b s 80 4).toNat):Nat):Int))) (hF.ev 3 rfl) (EvP.cons (v:=(.int .u64 ((((av b s 80 5).toNat):Nat):Int))) (hF.ev 2 rfl) (EvP.cons (v:=(.int .u64 ((((av b s 80 6).toNat):Nat):Int))) (hF.ev 1 rfl) (EvP.cons (v:=(.int .u64 ((((av b s 80 7).toNat):Nat):Int))) (hF.ev 0 rfl) EvP.nil)))))))) (by kernel_rfl) _) 255 ?_
 have he16:(cQs 8).enc (upF 0 (bs b s) s)=(cQs 8).enc s:=aP (fun i _=>by rw[bw])
 replace hH:HH w0 [] [[bl g1 141 ((cQs 8).enc (upF 0 (bs b s) s))],[bl g2 179 ((ac 128).enc b)],[bl g3 141 ((cQs 8).enc (fun _=>0))],[bl g4 159 ((cQs 80).enc (W64 b))]] w:=by rw[he16];exact hH
 refine zv .mv 0 ?_
 refine zn (ai (zL1 (fun (q:Nat)=>[(97,(.int .i64 q)),(96,((cQs 8).val (av b s 80))),(4,(.pointer (some ⟨g3,0,none⟩))),(2,(.pointer (some ⟨g1,0,none⟩)))]) (fun q w=>HH w0 [] [[bl g1 141 ((cQs 8).enc (upF q (bs b s) s))],[bl g2 179 ((ac 128).enc b)],[bl g3 141 ((cQs 8).enc (fun _=>0))],[bl g4 159 ((cQs 80).enc (W64 b))]] w∧(q≤8)) (fun q=>8-q) 0 ⟨hH,(Nat.zero_le _)⟩ ?_))
 clear hH
 rintro q w ⟨hH,hq⟩
 refine zr (zv (.lt (q<8)) 0 ?_)
 refine zn (aj ?_)
 refine zP (fun hc17 => ?_) (fun hc17 => ?_)
 refine aA (ag (aj (ai (zr (zv .mv 1 ?_)))))
 have hi18:q<8:=by omega
 refine zv (v:=(.int .u64 (((((av b s 80) q).toNat):Nat):Int))) (fun _ _ hF=>e8 (S:=sWq) (e:=72) (n:=8) (i:=q) (f:=(av b s 80)) rfl (by kernel_rfl) (by kernel_rfl) (hF.ev 2 rfl) (hF.ev 1 rfl) rfl hi18) 0 ?_
 refine zv .mv 2 ?_
 refine zv .mv 2 ?_
 refine zn (aC (zv .mv 2 ?_))
 have hi19:q<8:=by omega
 refine zv (.ia 1 8 q (hi:=hi19)) 0 ?_
 refine zs (hH.q 0 rfl) (.ld cWq ((upF q (bs b s) s) q) (fun _ hS=>((ae hS).eltV hi19))) 1 ?_
 refine zv .mv 4 ?_
 refine zv (.aq (bh ((upF q (bs b s) s) q) ((av b s 80) q))) 3 ?_
 have hi20:q<8:=by omega
 refine zv (.ia 1 8 q (hi:=hi20)) 2 ?_
 refine ze0 0 hH rfl (.st cWq (bh ((upF q (bs b s) s) q) ((av b s 80) q)) (aU (S:=sWq) (C:=(cQs 8)) rfl hi20) (bE (upF q (bs b s) s) (bh ((upF q (bs b s) s) q) ((av b s 80) q)) hi20)) trivial ?_
 clear hH
 rintro _ _ w rfl hH
 refine aD (aN (ag (aC (zv (.add ((q+1:Nat):Int)) 7 ?_))))
 refine zv .mv 1 ?_
 refine aD ?_
 have he21:(cQs 8).enc (upF (q+1) (bs b s) s)=(cQs 8).enc (stF (upF q (bs b s) s) q (bh ((upF q (bs b s) s) q) ((av b s 80) q))):=aP (fun i _=>(congrFun (bi q (bs b s) s (by rw[gP];rfl)) i).symm)
 replace hH:HH w0 [] [[bl g1 141 ((cQs 8).enc (upF (q+1) (bs b s) s))],[bl g2 179 ((ac 128).enc b)],[bl g3 141 ((cQs 8).enc (fun _=>0))],[bl g4 159 ((cQs 80).enc (W64 b))]] w:=by rw[he21];exact hH
 exact zR1 (q+1) ⟨hH,(by omega)⟩ (by omega)
 refine aJ (ak (ak (aR (ag ?_))))
 obtain rfl:q=8:=by omega
 have he22:(cQs 8).enc (bs b s)=(cQs 8).enc (upF 8 (bs b s) s):=aP (fun i hi=>(bz _ _ hi).symm)
 replace hH:HH w0 [] [[bl g1 141 ((cQs 8).enc (bs b s))],[bl g2 179 ((ac 128).enc b)],[bl g3 141 ((cQs 8).enc (fun _=>0))],[bl g4 159 ((cQs 80).enc (W64 b))]] w:=by rw[he22];exact hH
 refine zr (zs (hH.q 0 rfl) (.l0 (cQs 8) (bs b s)) 23 ?_)
 refine zW 2 hH rfl (bs b s) ?_
 clear hH
 intro w hH
 refine zn (ar (aI 1 (hH.blk 2 rfl) rfl rfl (by kernel_rfl) (Cod.size _ _) (by kernel_rfl) ?_))
 exact zE hH
theorem pI{F:Nat→UInt8}{k:Nat}{m:List UInt8}(hF:∀ j z,m[j]?=some z→F (128*k+j)=z)(h:128≤m.length):∀ i,i<8→bs (cutF m 0) (aK F k) i=aK F (k+1) i :=
 mG (fun j hj=>by
  have hi:j<m.length:=by omega
  rw[hF j m[j] (List.getElem?_eq_getElem hi)]
  unfold cutF
  rw[Nat.zero_add,List.getD_eq_getElem?_getD,List.getElem?_eq_getElem hi];rfl) fun _ _=>rfl
theorem pJ(n L:Nat)(hL:L=128*bT n-n)(hn:n≤1152921504606846976):Does Tryz.prog 108 #[(.int .u64 n),(.int .i64 128),(.int .i64 16)] [] (fun _=>True) (fun v E'=>OwnT af 5 v (pdQ n) E'):=by
 refine dU Tryz.func108 Tryz.ntmps108 ?_
 intro w0 hH hR
 replace hH:HH w0 [] [] w0:=hH.only [false]
 have hL2:L=128-(n+16)%128+16:=by rw[hL];unfold bT;omega
 refine zr (zv .mv 0 ?_)
 refine zn (zr (zv .mv 1 ?_))
 refine zv .mv 0 ?_
 refine zv .mv 0 ?_
 refine zv (.cu .u64 (q:=16)) 1 ?_
 refine zv (v:=(.int .u64 (((n+16):Nat):Int))) (fun _ _ hF=>f7 (m:=n) (j:=16) (z:=(n+16)) rfl rfl (hF.ev 1 rfl) (hF.ev 0 rfl) (Nat.mod_eq_of_lt (by show _<18446744073709551616;omega))) 3 ?_
 refine zv .mv 8 ?_
 refine zv (.cu .u64 (q:=128)) 1 ?_
 refine zv (v:=(.int .u64 ((((n+16)%128):Nat):Int))) (fun _ _ hF=>bm (z:=(((n+16)%128:Nat):Int)) rfl (hF.ev 1 rfl) (hF.ev 0 rfl) (by omega) bW) 3 ?_
 refine zv .ci 1 ?_
 refine zv (.sub (((128-(n+16)%128):Nat):Int)) 3 ?_
 refine zv .mv 1 ?_
 refine zn (zr (zv .mv 1 ?_))
 refine zv .mv 4 ?_
 refine zv (.add ((L:Nat):Int)) 3 ?_
 refine zm hH (fun _ hF=>f0 (e:=5) (n:=L) (sz:=1) (by_:=1) (z:=(.int .u8 0)) (cs:=madeCells (af.enc (0:UInt8)) (L*1)) rfl (by kernel_rfl) (by kernel_rfl) (hF.ev 0 rfl) (hF.ev 0 rfl) rfl rfl (by omega) (by omega) rfl) trivial 1 ?_
 clear hH
 rintro _ _ w ⟨g1,rfl,rfl⟩ hH
 refine zv .mv 1 ?_
 refine zn (zr (zv .mv 0 ?_))
 have hi2:0<L:=by omega
 have hj5:0<(List.replicate L (0:UInt8)).length:=by rw[List.length_replicate];omega
 obtain ⟨x3,hx4⟩:=ck (List.replicate L (0:UInt8)) 0 hj5
 have hb6:=UInt8.toNat_lt x3
 refine zv (.ix 1 0 (hi:=hi2)) 1 ?_
 obtain ⟨cur8,hcs9,hB7⟩:∃ cs,bJ (madeCells (af.enc (0:UInt8)) (L*1)) (0+0*1) (af.enc 128).toList=cs∧Bk af L cs ((List.replicate L (0:UInt8)).set 0 128):=⟨_,rfl,eZ (Bk.make (C:=af) (0:UInt8) L (ltb rfl) (by unfold maxLen;omega)) 0 hj5 128⟩
 refine ze0 0 hH rfl (fun _ hF=>bV (C:=af) (z:=128) rfl (hF.ev 0 rfl) rfl rfl (by kernel_rfl) (ed (Bk.make (C:=af) (0:UInt8) L (ltb rfl) (by unfold maxLen;omega)) hj5) hcs9) trivial ?_
 clear hH
 rintro _ _ w rfl hH
 refine zn (zr (zv .mv 5 ?_))
 refine zv (v:=(.int .u64 (((n*8):Nat):Int))) (fun _ _ hF=>i9 (m:=n) (j:=8) (z:=(n*8)) rfl rfl (hF.ev 0 rfl) rfl (Nat.mod_eq_of_lt (by show _<18446744073709551616;omega))) 1 ?_
 refine zv .mv 1 ?_
 refine zn (aj (zr (zv .mv 0 ?_)))
 refine zn (ai (zL2 (fun (m:Nat) (_:Array Value)=>[(29,(.int .i64 m)),(9,(.int .u64 (((n*8):Nat):Int))),(8,(.slice (some ⟨g1,0,none⟩) L L))]) (fun m cur' w=>HH w0 [] [[bl g1 5 cur']] w∧(m≤8)∧(Bk af L cur' (lst L (el L n m)))) (fun m _=>8-m) 0 cur8 ⟨hH,(Nat.zero_le _),(nO (show 0<L by omega)▸hB7)⟩ ?_))
 clear hH
 rintro m cur' w ⟨hH,hm,hB'⟩
 refine zr (zv (.lt (m<8)) 0 ?_)
 refine zn (aj ?_)
 refine zP (fun hc10 => ?_) (fun hc10 => ?_)
 refine aA (ag (aj (ai (zr (zv .mv 1 ?_)))))
 refine zv .mv 1 ?_
 refine zn (aC (zv .mv 0 ?_))
 refine zv .mv 0 ?_
 refine zv .len 1 ?_
 refine zv (.sub (((L-1):Nat):Int)) 1 ?_
 refine zv .mv 0 ?_
 refine zv (.sub (((L-1-m):Nat):Int)) 3 ?_
 refine zv .mv 0 ?_
 refine zv .mv 8 ?_
 refine zv (.mul ((8*m:Nat):Int)) 1 ?_
 refine zv (v:=(.int .u64 ((((n*8)/2^(8*m)):Nat):Int))) (fun _ _ hF=>du (n:=8*m) (z:=((n*8)/2^(8*m))) rfl (hF.ev 1 rfl) (hF.ev 0 rfl) (by show _≤64;omega) (rfl)) 3 ?_
 refine zv .cb 1 ?_
 have hi11:L-1-m<L:=by omega
 have hj14:L-1-m<(lst L (el L n m)).length:=by rw[ap];omega
 obtain ⟨x12,hx13⟩:=ck (lst L (el L n m)) (L-1-m) hj14
 have hb15:=UInt8.toNat_lt x12
 refine zv (.ix 1 (L-1-m) (hi:=hi11)) 6 ?_
 obtain ⟨cur17,hcs18,hB16⟩:∃ cs,bJ cur' (0+(L-1-m)*1) (af.enc (UInt8.ofNat ((n*8)/2^(8*m)))).toList=cs∧Bk af L cs ((lst L (el L n m)).set (L-1-m) (UInt8.ofNat ((n*8)/2^(8*m)))):=⟨_,rfl,eZ hB' (L-1-m) hj14 (UInt8.ofNat ((n*8)/2^(8*m)))⟩
 refine ze0 0 hH rfl (fun _ hF=>bV (C:=af) (z:=(UInt8.ofNat ((n*8)/2^(8*m)))) rfl (hF.ev 0 rfl) (hF.ev 1 rfl) rfl (by kernel_rfl) (ed hB' hj14) hcs18) trivial ?_
 clear hH
 rintro _ _ w rfl hH
 refine aD (aN (ag (aC (zv (.add ((m+1:Nat):Int)) 7 ?_))))
 refine zv .mv 1 ?_
 refine aD ?_
 exact zR2 (m+1) cur17 ⟨hH,(by omega),(qm (show m<L by omega)▸hB16)⟩ (by omega)
 refine aJ (ak (ak (aR (ag (zr (zv .mv 15 ?_))))))
 refine zv .mv 1 ?_
 refine zn (ar (aW 0 rfl rfl ?_))
 obtain rfl:m=8:=by omega
 have he:lst L (el L n 8)=pdQ n:=by rw[hL];rfl
 exact ⟨_,_,rfl,(he▸hB'.own 5 g1 (ap _ _)),hH.out1 [true] rfl⟩
theorem rj(F:Nat→UInt8)(k q:Nat)(A:Option Addr)(n c:Nat)(m:List UInt8)(hF:∀ j z,m[j]?=some z→F (128*k+j)=z)(hn:n=128*q)(_hb:n≤1152921504606846976):Pure Tryz.prog 110 #[((cQs 8).val (aK F k)),(.slice A n c)] (fun w=>w.heap[4]?=some (.cells ((cQs 80).enc K64) 159 (0,0))∧Vu af w A n c m) ((cQs 8).val (aK F (k+q))):=by
 refine pU Tryz.func110 Tryz.ntmps110 ?_
 intro w0 hH hR
 refine zr (zB hH (cQs 8) (aK F k) 1 ?_)
 clear hH
 intro g1 w hH
 refine zA hH (cQs 8) (fun _=>0) 0 ?_
 clear hH
 intro g2 w hH
 refine zn (aj (ai ?_))
 refine zL5 (fun (A1:Option Addr) (n1:Nat) (c1:Nat) (_:List UInt8) (_:Nat)=>[(4,(.pointer (some ⟨g2,0,none⟩))),(2,(.pointer (some ⟨g1,0,none⟩))),(1,(.slice A1 n1 c1))]) (fun A1 n1 c1 m1 k1 w=>HH w0 [] [[bl g1 141 ((cQs 8).enc (aK F k1))],[bl g2 141 ((cQs 8).enc (fun _=>0))]] w∧(Vu af w0 A1 n1 c1 m1)∧(∀ j z,m1[j]?=some z→F (128*k1+j)=z)∧(n1+128*k1=128*(k+q))∧(k1≤k+q)) (fun _ n1 _ _ _=>n1) A n c m k ⟨hH,hR.2,hF,(by omega),(by omega)⟩ ?_
 clear hH
 rintro A1 n1 c1 m1 k1 w ⟨hH,hV,hF1,hk,hkq⟩
 refine aj (zr (zv .mv 0 ?_))
 refine zv .len 1 ?_
 refine zv (.ge (n1 ≥ 128)) 1 ?_
 refine zn ?_
 refine zP (fun hc3 => ?_) (fun hc3 => ?_)
 refine aA (ag (ai ?_))
 have hlm:=hV.len;have hcm:=hV.cap
 obtain ⟨b4,off5,rfl,hL6,hb7,hR8⟩:=hV.blk (by decide) (Off.nil _ _) (by omega)
 have:=hV.cap
 refine zx ?_
 replace hH:=hH.drew
 refine rld 0 (hH.q 0 rfl) (.l0 (cQs 8) (aK F k1)) 1 ?_
 refine rv 1 .mv 0 ?_
 refine rv 2 (v:=(.pointer (some ⟨b4,off5,none⟩))) (fun _ _ hF=>bS (m:=128) (e:=5) rfl (by kernel_rfl) (hF.ev 0 rfl) (by omega)) 1 ?_
 refine rld 3 (S:=fun w=>HoldsL af w b4 off5 m1) (hH.holdsL hL6 hb7 hR8) (.ld (ac 128) (cutF m1 0) (fun _ hS=>(hS.arr 0 128 (by first | omega | (simp only[List.length_drop,List.length_take];omega))))) 1 ?_
 refine ao 4 (rpc 4 Tryz.func142 ((Ai (aK F k1) (cutF m1 0)).as (lj (pI hF1 (by omega))) ) (hH.oldBlk hR.1 (by simp)) hH 3 (pgo [] (pgo [] (.nil _ []))) ?_)
 clear hH
 intro w hH
 refine ⟨an,ao 5 ?_⟩
 refine re0 5 0 hH rfl (.sw (cQs 8) (aK F k1) (aK F (k1+1))) trivial (.nil _ []) ?_
 clear hH
 rintro _ _ w rfl hH
 refine ⟨an,rn ?_⟩
 refine aC (zv .mv 9 ?_)
 refine zv (v:=(.slice (et (some ⟨b4,off5,none⟩) c1 128 1) (n1-128) (c1-128))) (fun _ _ hF=>mz (k:=128) (e:=5) (sz:=1) rfl (by kernel_rfl) (by kernel_rfl) (hF.ev 0 rfl) rfl rfl (by omega)) 1 ?_
 refine zv .mv 1 ?_
 refine aD (aN ?_)
 exact zR5 (et (some ⟨b4,off5,none⟩) c1 128 1) (n1-128) (c1-128) (m1.drop 128) (k1+1) ⟨hH,(hV.from (show 128≤n1 by omega)),(fun j z hz=>by rw[Nat.mul_add,Nat.add_assoc];exact hF1 _ _ (by rw[List.getElem?_drop]at hz;exact hz)),(by omega),(by omega)⟩ (by omega)
 refine aJ (ak (ak (aR (ag ?_))))
 obtain rfl:k1=k+q:=by omega
 refine zr (zs (hH.q 0 rfl) (.l0 (cQs 8) (aK F (k+q))) 13 ?_)
 refine zW 1 hH rfl (aK F (k+q)) ?_
 clear hH
 intro w hH
 refine zn (ar (aI 1 (hH.blk 1 rfl) rfl rfl (by kernel_rfl) (Cod.size _ _) (by kernel_rfl) ?_))
 exact zE hH
theorem Aj(A:Option Addr)(n c:Nat)(l:List UInt8)(hb:n≤140737488351232):Pure Tryz.prog 68 #[(.slice A n c)] (fun w=>w.heap[4]?=some (.cells ((cQs 80).enc K64) 159 (0,0))∧w.heap[1]?=some (.cells ((cQs 8).enc H64) 141 (0,0))∧Vu af w A n c l) ((ac 64).val (bN l)):=by
 refine pU Tryz.func68 Tryz.ntmps68 ?_
 intro w0 hH hR
 have hn:=hR.2.2.len;have hcap:=hR.2.2.cap;have hnb:=mH n
 obtain ⟨F,hF⟩:∃ F,F=gI n fun j=>l.getD j 0:=⟨_,rfl⟩
 have hF0:∀ j z,(l.take (128*(n/128)))[j]?=some z→F j=z:=fun j z hz=>by
  rw[List.getElem?_take]at hz
  split at hz
  ·rw[hF,← lV n _ j (by omega)]
   show l.getD j 0=z
   rw[List.getD_eq_getElem?_getD,hz];rfl
  ·cases hz
 have hF2:∀ j z,(l.drop (128*(n/128))++pdQ n)[j]?=some z→F (128*(0+n/128)+j)=z:=fun j z hz=>by
  have hl:(l.drop (128*(n/128))).length=n-128*(n/128):=by rw[List.length_drop,hn]
  rw[Nat.zero_add,hF]
  by_cases h:j<n-128*(n/128)
  ·rw[List.getElem?_append_left (by omega),List.getElem?_drop]at hz
   rw[← lV n _ _ (by omega)]
   show l.getD _ 0=z
   rw[List.getD_eq_getElem?_getD,hz];rfl
  ·rw[List.getElem?_append_right (by omega),hl]at hz
   have:=za (n:=n) (fun j=>l.getD j 0) _ z hz
   rw[← this]
   congr 1
   omega
 refine zr (zA hH (ac 64) (fun _=>0) 0 ?_)
 clear hH
 intro g1 w hH
 refine zn (zr (zv .mv 0 ?_))
 refine zv .len 1 ?_
 refine zv .mv 0 ?_
 refine zv .len 1 ?_
 refine zv (v:=(.int .i64 (((n%128):Nat):Int))) (fun _ _ hF=>bm (z:=((n%128:Nat):Int)) rfl (hF.ev 0 rfl) rfl (by omega) bW) 1 ?_
 refine zv (.sub (((128*(n/128)):Nat):Int)) 3 ?_
 refine zv .mv 1 ?_
 refine zn (zr (zm hH (fun _ hF=>j8 (e:=5) rfl (by kernel_rfl) (by kernel_rfl)) trivial 0 ?_))
 clear hH
 rintro _ _ w ⟨g2,rfl,rfl⟩ hH
 refine zv .mv 0 ?_
 refine zv .mv 0 ?_
 refine zv (v:=(.slice (et A c (128*(n/128)) 1) (n-(128*(n/128))) (c-(128*(n/128))))) (fun _ _ hF=>mz (k:=128*(n/128)) (e:=5) (sz:=1) rfl (by kernel_rfl) (by kernel_rfl) (hF.ev 1 rfl) (hF.ev 0 rfl) rfl (by omega)) 3 ?_
 refine ze 1 hH rfl (fun _ hF=>cf (C:=af) (l:=[]) (m:=(l.drop (128*(n/128)))) (e:=5) (z:=(.int .u8 0)) (by_:=1) rfl (by kernel_rfl) (by kernel_rfl) rfl (ltb rfl) (hF.ev 1 rfl) ((Bk.lit0 (C:=af)).own 5 g2 rfl) (hF.ev 0 rfl) (by rw[List.length_drop];omega) (fun h=>by have h2:=(hR.2.2.from (k:=128*(n/128)) (by omega));exact ⟨by have:=h2.nil h;have:=h2.cap;omega,h2.nil h⟩) (by rw[List.length_nil];unfold maxLen;omega) (by rw[List.length_nil];omega)) ((hH.vu hR.2.2 (by decide) (Off.nil _ _)).from (k:=128*(n/128)) (by omega)) 3 ?_
 clear hH
 rintro v5 E6 w ⟨hO7,_⟩ hH
 replace hO7:OwnT af 5 v5 (l.drop (128*(n/128))) E6:=hO7
 obtain ⟨A3,c4,rfl⟩:=hO7.slice
 refine zv .mv 1 ?_
 refine zn (zr (zv .mv 1 ?_))
 refine zv .mv 0 ?_
 refine zv .len 1 ?_
 refine zv (.cu .u64) 1 ?_
 refine zm hH (.call Tryz.func108 ((pJ n _ rfl (by omega)))) trivial 1 ?_
 clear hH
 rintro v12 E8 w hO9 hH
 obtain ⟨A10,c11,rfl⟩:=hO9.slice
 refine ze 1 hH rfl (fun _ hF=>cf (C:=af) (l:=(l.drop (128*(n/128)))) (m:=(pdQ n)) (e:=5) (z:=(.int .u8 0)) (by_:=1) rfl (by kernel_rfl) (by kernel_rfl) rfl (ltb rfl) (hF.ev 1 rfl) hO7 (hF.ev 0 rfl) rfl hO9.nilA (by rw[List.length_drop,iy];unfold maxLen;omega) (by rw[List.length_drop,iy];omega)) (hO9.vuAt (hH.has 2 rfl)) 3 ?_
 clear hH
 rintro v16 E17 w ⟨hO18,_⟩ hH
 replace hO18:OwnT af 5 v16 ((l.drop (128*(n/128)))++(pdQ n)) E17:=hO18
 obtain ⟨A14,c15,rfl⟩:=hO18.slice
 refine zv .mv 1 ?_
 refine zn (zx ?_)
 replace hH:=hH.drew
 refine rld 0 (hH.ob hR.2.1) (.ld (cQs 8) H64 (fun _=>ae)) 0 ?_
 refine rv 1 .mv 16 ?_
 refine rv 2 .mv 8 ?_
 refine rv 3 (v:=(.slice A (128*(n/128)) c)) (fun _ _ hF=>eY (h:=128*(n/128)) (e:=5) (sz:=1) rfl (by kernel_rfl) (by kernel_rfl) (hF.ev 1 rfl) (hF.ev 0 rfl) rfl (by omega)) 3 ?_
 refine rv 5 .mv 4 ?_
 refine ao 4 (rpc 4 Tryz.func110 (rj F 0 (n/128) A (128*(n/128)) c (l.take (128*(n/128))) (fun j z hz=>by rw[Nat.mul_zero,Nat.zero_add];exact hF0 j z hz) rfl (by omega)) (⟨hH.oldBlk hR.1 (by simp),((hH.vu hR.2.2 (by decide) (Off.nil _ _)).head (m:=128*(n/128)) (by omega))⟩) hH 6 (pgo [] (.nil _ [])) ?_)
 clear hH
 intro w hH
 refine ⟨an,?_⟩
 refine ao 6 (rpc 6 Tryz.func110 (rj F (0+n/128) (bT n-n/128) A14 (((l.drop (128*(n/128)))++(pdQ n)).length) c15 ((l.drop (128*(n/128)))++(pdQ n)) hF2 (by rw[List.length_append,List.length_drop,iy];omega) (by rw[List.length_append,List.length_drop,iy];omega)) (⟨hH.oldBlk hR.1 (by simp),(hO18.vuAt (hH.has 1 rfl))⟩) hH 3 (.nil _ []) ?_)
 clear hH
 intro w hH
 refine ⟨an,?_⟩
 refine ao 7 (rpc 7 Tryz.func109 (uM (aK F (0+n/128+(bT n-n/128)))) trivial hH 1 (.nil _ []) ?_)
 clear hH
 intro w hH
 refine ⟨an,ao 8 ?_⟩
 refine re0 8 0 hH rfl (.sw (ac 64) (fun _=>0) (cj (aK F (0+n/128+(bT n-n/128))))) trivial (.nil _ []) ?_
 clear hH
 rintro _ _ w rfl hH
 refine ⟨an,rn ?_⟩
 refine ar (aI 1 (hH.blk 0 rfl) rfl rfl (by kernel_rfl) (Cod.size _ _) (by kernel_rfl) ?_)
 have he:cj (aK F (0+n/128+(bT n-n/128)))=bN l:=by rw[show 0+n/128+(bT n-n/128)=bT n by omega,hF];subst hn;rfl
 rw[he]
 exact zE hH
def nmB(X:Nat→UInt8):Bt:=stF (stF (cutF ((lst 64 X).take 32) 0) 0 (cutF ((lst 64 X).take 32) 0 0 &&& ~~~7)) 31 ((stF (cutF ((lst 64 X).take 32) 0) 0 (cutF ((lst 64 X).take 32) 0 0 &&& ~~~7) 31 &&& ~~~128)|||64)
def pfB(X:Nat→UInt8):Bt:=cutF (lst 64 X) 32
def iO(s:Bt):Bt:=pD (nmB (bN (lst 32 s)))
theorem uN(s:Bt):Pure Tryz.prog 37 #[((ac 32).val s)] (fun w=>w.heap[4]?=some (.cells ((cQs 80).enc K64) 159 (0,0))∧w.heap[1]?=some (.cells ((cQs 8).enc H64) 141 (0,0))) (.tuple #[(ac 32).val (nmB (bN (lst 32 s))),(ac 32).val (pfB (bN (lst 32 s)))]):=by
 refine pU Tryz.func37 Tryz.ntmps37 ?_
 intro w0 hH hR
 refine zr (zB hH (ac 32) s 1 ?_)
 clear hH
 intro g1 w hH
 refine zA hH (ac 32) (fun _=>0) 0 ?_
 clear hH
 intro g2 w hH
 refine zA hH (ac 32) (fun _=>0) 0 ?_
 clear hH
 intro g3 w hH
 refine zn (zr (zv (v:=(.slice (some ⟨g1,0,none⟩) 32 32)) (fun _ _ hF=>aV (n:=32) (e:=5) (sz:=1) rfl (by kernel_rfl) (by kernel_rfl) (hF.ev 2 rfl)) 4 ?_))
 refine zc Tryz.func68 (Aj (some ⟨g1,0,none⟩) 32 32 (lst 32 s) (by decide)) (⟨hH.oldBlk hR.1 (by simp),hH.oldBlk hR.2 (by simp),(bp (hH.blk 0 rfl))⟩) hH 1 ?_
 clear hH
 intro w hH
 refine zA hH (ac 64) (fun _=>0) 0 ?_
 clear hH
 intro g4 w hH
 refine zW 3 hH rfl (bN (lst 32 s)) ?_
 clear hH
 intro w hH
 refine zn (zx ?_)
 replace hH:=hH.drew
 refine rv 0 (v:=(.slice (some ⟨g4,0,none⟩) 32 64)) (fun _ _ hF=>dW (m:=64) (h:=32) (e:=5) (sz:=1) rfl (by kernel_rfl) (by kernel_rfl) (hF.ev 0 rfl) rfl rfl (by omega)) 2 ?_
 refine rv 1 (v:=(.pointer (some ⟨g4,0,none⟩))) (fun _ _ hF=>bS (m:=32) (e:=5) rfl (by kernel_rfl) (hF.ev 0 rfl) (by omega)) 1 ?_
 refine rld 2 (hH.q 3 rfl) (.ld (ac 32) (cutF ((lst 64 (bN (lst 32 s))).take 32) 0) (fun _ hS=>(((eJ hS).cut 0 32).arr 0 32 (by first | omega | (rw[ap];omega) | (simp only[List.length_drop,List.length_take,ap];omega) | (simp only[List.length_drop,List.length_take];omega))))) 1 ?_
 refine rv 3 (v:=(.slice (some ⟨g4,0+32*1,none⟩) (64-32) (64-32))) (fun _ _ hF=>dh (m:=64) (l:=32) (e:=5) (sz:=1) rfl (by kernel_rfl) (by kernel_rfl) (hF.ev 1 rfl) rfl rfl (by omega)) 2 ?_
 refine rv 4 (v:=(.pointer (some ⟨g4,0+32*1,none⟩))) (fun _ _ hF=>bS (m:=32) (e:=5) rfl (by kernel_rfl) (hF.ev 0 rfl) (by omega)) 1 ?_
 refine rld 5 (hH.q 3 rfl) (.ld (ac 32) (cutF (lst 64 (bN (lst 32 s))) 32) (fun _ hS=>((eJ hS).arr 32 32 (by first | omega | (rw[ap];omega) | (simp only[List.length_drop,List.length_take,ap];omega) | (simp only[List.length_drop,List.length_take];omega))))) 1 ?_
 refine ao 6 ?_
 refine re0 6 1 hH rfl (.sw (ac 32) (fun _=>0) (cutF ((lst 64 (bN (lst 32 s))).take 32) 0)) trivial (.keep (pgo [] (.nil _ []))) ?_
 clear hH
 rintro _ _ w rfl hH
 refine ⟨am (hH.blk 3 rfl) an,?_⟩
 refine ao 7 ?_
 refine re0 7 2 hH rfl (.sw (ac 32) (fun _=>0) (cutF (lst 64 (bN (lst 32 s))) 32)) trivial (pgo [] (.nil _ [])) ?_
 clear hH
 rintro _ _ w rfl hH
 refine ⟨an,rn ?_⟩
 refine zr ?_
 have hi5:0<32:=by omega
 refine zv (.ia 1 32 0 (hi:=hi5)) 3 ?_
 refine zs (hH.q 1 rfl) (.ld af ((cutF ((lst 64 (bN (lst 32 s))).take 32) 0) 0) (fun _ hS=>((ae hS).elt hi5))) 1 ?_
 refine zv (.nb (((cutF ((lst 64 (bN (lst 32 s))).take 32) 0) 0) &&& ~~~(7:UInt8)) (u:=((cutF ((lst 64 (bN (lst 32 s))).take 32) 0) 0)) (v:=(7:UInt8))) 1 ?_
 have hi6:0<32:=by omega
 refine zv (.ia 1 32 0 (hi:=hi6)) 0 ?_
 refine ze0 1 hH rfl (.st af (((cutF ((lst 64 (bN (lst 32 s))).take 32) 0) 0) &&& ~~~(7:UInt8)) (aU (S:=sBy) (C:=(ac 32)) rfl hi6) (aQ (cutF ((lst 64 (bN (lst 32 s))).take 32) 0) (((cutF ((lst 64 (bN (lst 32 s))).take 32) 0) 0) &&& ~~~(7:UInt8)) hi6)) trivial ?_
 clear hH
 rintro _ _ w rfl hH
 refine zn (zr ?_)
 have hi7:31<32:=by omega
 refine zv (.ia 1 32 31 (hi:=hi7)) 3 ?_
 refine zs (hH.q 1 rfl) (.ld af ((stF (cutF ((lst 64 (bN (lst 32 s))).take 32) 0) 0 (((cutF ((lst 64 (bN (lst 32 s))).take 32) 0) 0) &&& ~~~(7:UInt8))) 31) (fun _ hS=>((ae hS).elt hi7))) 1 ?_
 refine zv (.nb (((stF (cutF ((lst 64 (bN (lst 32 s))).take 32) 0) 0 (((cutF ((lst 64 (bN (lst 32 s))).take 32) 0) 0) &&& ~~~(7:UInt8))) 31) &&& ~~~(128:UInt8)) (u:=((stF (cutF ((lst 64 (bN (lst 32 s))).take 32) 0) 0 (((cutF ((lst 64 (bN (lst 32 s))).take 32) 0) 0) &&& ~~~(7:UInt8))) 31)) (v:=(128:UInt8))) 1 ?_
 refine zv (.ob ((((stF (cutF ((lst 64 (bN (lst 32 s))).take 32) 0) 0 (((cutF ((lst 64 (bN (lst 32 s))).take 32) 0) 0) &&& ~~~(7:UInt8))) 31) &&& ~~~(128:UInt8))|||(64:UInt8)) (u:=(((stF (cutF ((lst 64 (bN (lst 32 s))).take 32) 0) 0 (((cutF ((lst 64 (bN (lst 32 s))).take 32) 0) 0) &&& ~~~(7:UInt8))) 31) &&& ~~~(128:UInt8))) (v:=(64:UInt8))) 1 ?_
 have hi8:31<32:=by omega
 refine zv (.ia 1 32 31 (hi:=hi8)) 0 ?_
 refine ze0 1 hH rfl (.st af ((((stF (cutF ((lst 64 (bN (lst 32 s))).take 32) 0) 0 (((cutF ((lst 64 (bN (lst 32 s))).take 32) 0) 0) &&& ~~~(7:UInt8))) 31) &&& ~~~(128:UInt8))|||(64:UInt8)) (aU (S:=sBy) (C:=(ac 32)) rfl hi8) (aQ (stF (cutF ((lst 64 (bN (lst 32 s))).take 32) 0) 0 (((cutF ((lst 64 (bN (lst 32 s))).take 32) 0) 0) &&& ~~~(7:UInt8))) ((((stF (cutF ((lst 64 (bN (lst 32 s))).take 32) 0) 0 (((cutF ((lst 64 (bN (lst 32 s))).take 32) 0) 0) &&& ~~~(7:UInt8))) 31) &&& ~~~(128:UInt8))|||(64:UInt8)) hi8)) trivial ?_
 clear hH
 rintro _ _ w rfl hH
 refine zn (zx ?_)
 replace hH:=hH.drew
 refine rld 0 (hH.q 1 rfl) (.l0 (ac 32) (stF (stF (cutF ((lst 64 (bN (lst 32 s))).take 32) 0) 0 (((cutF ((lst 64 (bN (lst 32 s))).take 32) 0) 0) &&& ~~~(7:UInt8))) 31 ((((stF (cutF ((lst 64 (bN (lst 32 s))).take 32) 0) 0 (((cutF ((lst 64 (bN (lst 32 s))).take 32) 0) 0) &&& ~~~(7:UInt8))) 31) &&& ~~~(128:UInt8))|||(64:UInt8)))) 3 ?_
 refine rld 1 (hH.q 2 rfl) (.l0 (ac 32) (cutF (lst 64 (bN (lst 32 s))) 32)) 0 ?_
 refine ao 2 ?_
 refine re0 2 1 hH rfl (.sw (ac 32) (stF (stF (cutF ((lst 64 (bN (lst 32 s))).take 32) 0) 0 (((cutF ((lst 64 (bN (lst 32 s))).take 32) 0) 0) &&& ~~~(7:UInt8))) 31 ((((stF (cutF ((lst 64 (bN (lst 32 s))).take 32) 0) 0 (((cutF ((lst 64 (bN (lst 32 s))).take 32) 0) 0) &&& ~~~(7:UInt8))) 31) &&& ~~~(128:UInt8))|||(64:UInt8))) (stF (stF (cutF ((lst 64 (bN (lst 32 s))).take 32) 0) 0 (((cutF ((lst 64 (bN (lst 32 s))).take 32) 0) 0) &&& ~~~(7:UInt8))) 31 ((((stF (cutF ((lst 64 (bN (lst 32 s))).take 32) 0) 0 (((cutF ((lst 64 (bN (lst 32 s))).take 32) 0) 0) &&& ~~~(7:UInt8))) 31) &&& ~~~(128:UInt8))|||(64:UInt8)))) trivial (.keep (pgo [] (.nil _ []))) ?_
 clear hH
 rintro _ _ w rfl hH
 refine ⟨am (hH.blk 2 rfl) an,?_⟩
 refine ao 3 ?_
 refine re0 3 2 hH rfl (.sw (ac 32) (cutF (lst 64 (bN (lst 32 s))) 32) (cutF (lst 64 (bN (lst 32 s))) 32)) trivial (pgo [] (.nil _ [])) ?_
 clear hH
 rintro _ _ w rfl hH
 refine ⟨an,rn ?_⟩
 refine ar (qt 3 2 (hH.blk 1 rfl) (hH.blk 2 rfl) rfl rfl rfl (by kernel_rfl) (by kernel_rfl) (Cod.size _ _) (Cod.size _ _) (by kernel_rfl) (by kernel_rfl) ?_)
 exact zE hH
theorem w6(s:Bt):Pure Tryz.prog 19 #[((ac 32).val s)] (fun w=>w.heap[4]?=some (.cells ((cQs 80).enc K64) 159 (0,0))∧w.heap[1]?=some (.cells ((cQs 8).enc H64) 141 (0,0))) ((ac 32).val (iO s)):=by
 refine pU Tryz.func19 Tryz.ntmps19 ?_
 intro w0 hH hR
 refine zr (zB hH (ac 32) s 1 ?_)
 clear hH
 intro g1 w hH
 refine zA hH (ac 32) (fun _=>0) 0 ?_
 clear hH
 intro g2 w hH
 refine zn (zr (zs (hH.q 0 rfl) (.l0 (ac 32) s) 2 ?_))
 refine zc Tryz.func37 (uN s) (⟨hH.oldBlk hR.1 (by simp),hH.oldBlk hR.2 (by simp)⟩) hH 1 ?_
 clear hH
 intro w hH
 refine zv .mv 1 ?_
 refine zv .ext 0 ?_
 refine zv .ext 2 ?_
 refine zA hH (ac 32) (fun _=>0) 0 ?_
 clear hH
 intro g3 w hH
 refine zA hH (ac 32) (fun _=>0) 0 ?_
 clear hH
 intro g4 w hH
 refine zW 2 hH rfl (nmB (bN (lst 32 s))) ?_
 clear hH
 intro w hH
 refine zW 3 hH rfl (pfB (bN (lst 32 s))) ?_
 clear hH
 intro w hH
 refine zn (zr (zs (hH.q 2 rfl) (.l0 (ac 32) (nmB (bN (lst 32 s)))) 15 ?_))
 refine zc Tryz.func38 (uK (nmB (bN (lst 32 s)))) trivial hH 1 ?_
 clear hH
 intro w hH
 refine zW 1 hH rfl (pD (nmB (bN (lst 32 s)))) ?_
 clear hH
 intro w hH
 refine zn (ar (aI 1 (hH.blk 1 rfl) rfl rfl (by kernel_rfl) (Cod.size _ _) (by kernel_rfl) ?_))
 exact zE hH
abbrev cKy:Cod (Bt×Bt):=bn (ac 32) (ac 32)
theorem pK(n:Nat):Does Tryz.prog 106 #[(.int .u32 n)] [] (fun _=>True) (fun v E' => ∃ g,v=.slice (some ⟨g,0,none⟩) 4 4∧E'=[bl g 5 (be af (b4 n)).toArray]):=by
 refine dU Tryz.func106 Tryz.ntmps106 ?_
 intro w0 hH hR
 replace hH:HH w0 [] [] w0:=hH.only [false]
 refine zr (zv .mv 0 ?_)
 refine zn (zr (zv .mv 1 ?_))
 refine zv (v:=(.int .u32 (((n/2^24):Nat):Int))) (fun _ _ hF=>du (n:=24) (z:=(n/2^24)) rfl (hF.ev 0 rfl) rfl (leb rfl) (rfl)) 1 ?_
 refine zv .cb 1 ?_
 refine zv .mv 0 ?_
 refine zv (v:=(.int .u32 (((n/2^16):Nat):Int))) (fun _ _ hF=>du (n:=16) (z:=(n/2^16)) rfl (hF.ev 0 rfl) rfl (leb rfl) (rfl)) 1 ?_
 refine zv .cb 1 ?_
 refine zv .mv 0 ?_
 refine zv (v:=(.int .u32 (((n/2^8):Nat):Int))) (fun _ _ hF=>du (n:=8) (z:=(n/2^8)) rfl (hF.ev 0 rfl) rfl (leb rfl) (rfl)) 1 ?_
 refine zv .cb 1 ?_
 refine zv .mv 8 ?_
 refine zv .cb 1 ?_
 refine zm hH (fun _ hF=>cY (C:=af) (e:=5) (z:=(.int .u8 0)) (by_:=1) [(UInt8.ofNat (n/2^24)),(UInt8.ofNat (n/2^16)),(UInt8.ofNat (n/2^8)),(UInt8.ofNat n)] rfl (by kernel_rfl) (by kernel_rfl) (EvP.cons (v:=af.val (UInt8.ofNat (n/2^24))) (hF.ev 3 rfl) (EvP.cons (v:=af.val (UInt8.ofNat (n/2^16))) (hF.ev 2 rfl) (EvP.cons (v:=af.val (UInt8.ofNat (n/2^8))) (hF.ev 1 rfl) (EvP.cons (v:=af.val (UInt8.ofNat n)) (hF.ev 0 rfl) EvP.nil)))) rfl (ltb rfl) (leb rfl) rfl) trivial 15 ?_
 clear hH
 rintro _ _ w ⟨g1,rfl,rfl⟩ hH
 refine zv .mv 1 ?_
 refine zn (ar (aW 0 rfl rfl ?_))
 exact ⟨_,_,rfl,⟨_,rfl,rfl⟩,hH.out1 [true] rfl⟩
theorem BZ(t:Nat)(a:UInt8)(p:Bt):Does Tryz.prog 65 #[(.int .u32 t),(.int .u8 a.toNat),((ac 32).val p)] [] (fun _=>True) (fun v E'=>OwnT af 5 v (kpL t a p) E'):=by
 refine dU Tryz.func65 Tryz.ntmps65 ?_
 intro w0 hH hR
 replace hH:HH w0 [] [] w0:=hH.only [false]
 refine zr (zB hH (ac 32) p 4 ?_)
 clear hH
 intro g1 w hH
 refine zv .mv 0 ?_
 refine zn (zx ?_)
 replace hH:=hH.drew
 refine de 2 [mkv 0 7 [] [] (fun G g=>(.slice (some ⟨g,0,none⟩) 1 1)) fun G g=>[bl g 5 (af.enc 6)],pv 1 8 [] [] fun G=>(.int .u32 t),mkv 2 9 [1] [] (fun G g=>(.slice (some ⟨g,0,none⟩) 4 4)) fun G g=>[bl g 5 (be af (b4 t)).toArray],pv 3 10 [] [] fun G=>(.int .u8 a.toNat),mkv 4 11 [3] [] (fun G g=>(.slice (some ⟨g,0,none⟩) 1 1)) fun G g=>[bl g 5 (af.enc a)],mkv 5 12 [] [] (fun G g=>(.slice (some ⟨g,0,none⟩) 4 4)) fun G g=>[bl g 5 (be af (b4 32)).toArray],pv 6 13 [] [] fun G=>(.slice (some ⟨g1,0,none⟩) 32 32),mkv 7 14 [0,2,4,5,6] [0,2,4,5] (fun G g=>(.slice (some ⟨g,0,none⟩) 5 5)) fun G g=>[bl g 27 (be cSl [((some ⟨(G 0).g,0,none⟩),1,1),((some ⟨(G 2).g,0,none⟩),4,4),((some ⟨(G 4).g,0,none⟩),1,1),((some ⟨(G 5).g,0,none⟩),4,4),((some ⟨g1,0,none⟩),32,32)]).toArray]] (fun G=>[(14,(.slice (some ⟨(G 7).g,0,none⟩) 5 5)),(6,(.slice none 0 0))]) (fun G=>[[bl g1 22 ((ac 32).enc p)],[bl (G 0).g 5 (af.enc 6)],[bl (G 2).g 5 (be af (b4 t)).toArray],[bl (G 4).g 5 (af.enc a)],[bl (G 5).g 5 (be af (b4 32)).toArray],[bl (G 7).g 27 (be cSl [((some ⟨(G 0).g,0,none⟩),1,1),((some ⟨(G 2).g,0,none⟩),4,4),((some ⟨(G 4).g,0,none⟩),1,1),((some ⟨(G 5).g,0,none⟩),4,4),((some ⟨g1,0,none⟩),32,32)]).toArray]]) hH (.c (.a (fun _ _ _ _=>trivial) (fun G=>(fun _ hF=>cx (e:=5) (sz:=1) (z:=(.int .u8 0)) (by_:=1) (cs:=af.enc 6) rfl (by kernel_rfl) (by kernel_rfl) rfl (af.len 6) (ltb rfl) (leb rfl) rfl)) fun _ _ _ h=>h) <| .c (.v fun G=>.mv) <| .c (.a (fun _ _ _ _=>trivial) (fun G=>(.call Tryz.func106 (pK t))) fun _ _ _ h=>h) <| .c (.v fun G=>.mv) <| .c (.a (fun _ _ _ _=>trivial) (fun G=>(fun _ hF=>cx (e:=5) (sz:=1) (z:=(.int .u8 0)) (by_:=1) (cs:=af.enc a) rfl (by kernel_rfl) (by kernel_rfl) (hF.ev 0 rfl) (af.len a) (ltb rfl) (leb rfl) rfl)) fun _ _ _ h=>h) <| .c (.a (fun _ _ _ _=>trivial) (fun G=>(.call Tryz.func106 (pK 32))) fun _ _ _ h=>h) <| .c (.v fun G=>(fun _ _ hF=>aV (n:=32) (e:=5) (sz:=1) rfl (by kernel_rfl) (by kernel_rfl) (hF.ev 1 rfl))) <| .c (.a (fun _ _ _ _=>trivial) (fun G=>(fun _ hF=>cY (C:=cSl) (e:=27) (z:=(.slice none 0 0)) (by_:=24) [((some ⟨(G 0).g,0,none⟩),1,1),((some ⟨(G 2).g,0,none⟩),4,4),((some ⟨(G 4).g,0,none⟩),1,1),((some ⟨(G 5).g,0,none⟩),4,4),((some ⟨g1,0,none⟩),32,32)] rfl (by kernel_rfl) (by kernel_rfl) (EvP.cons (v:=cSl.val ((some ⟨(G 0).g,0,none⟩),1,1)) (hF.ev 0 rfl) (EvP.cons (v:=cSl.val ((some ⟨(G 2).g,0,none⟩),4,4)) (hF.ev 1 rfl) (EvP.cons (v:=cSl.val ((some ⟨(G 4).g,0,none⟩),1,1)) (hF.ev 2 rfl) (EvP.cons (v:=cSl.val ((some ⟨(G 5).g,0,none⟩),4,4)) (hF.ev 3 rfl) (EvP.cons (v:=cSl.val ((some ⟨g1,0,none⟩),32,32)) (hF.ev 4 rfl) EvP.nil))))) rfl (ltb rfl) (leb rfl) rfl)) fun _ _ _ h=>h) <| .nil) ?_
 clear hH
 rintro G w-hH
 revert hH
 generalize (G 0).g=g2
 generalize (G 2).g=g3
 generalize (G 4).g=g4
 generalize (G 5).g=g5
 generalize (G 7).g=g6
 intro hH
 refine ao 8 ?_
 refine rm 8 hH (.call Tryz.func33 ((iC (some ⟨g6,0,none⟩) 5 5 [((some ⟨g2,0,none⟩),1,1),((some ⟨g3,0,none⟩),4,4),((some ⟨g4,0,none⟩),1,1),((some ⟨g5,0,none⟩),4,4),((some ⟨g1,0,none⟩),32,32)] [[6],(b4 t),[a],(b4 32),(lst 32 p)] rfl (by decide) (by simp only[List.flatten_cons,List.flatten_nil,List.length_append,List.length_cons,List.length_nil,m5,ap];omega)))) (⟨((Bk.lits (C:=cSl) [((some ⟨g2,0,none⟩),1,1),((some ⟨g3,0,none⟩),4,4),((some ⟨g4,0,none⟩),1,1),((some ⟨g5,0,none⟩),4,4),((some ⟨g1,0,none⟩),32,32)] (by show 5≤_;unfold maxLen;decide)).vu (n:=5) (hH.blk 5 rfl) rfl),(.cons ((Bk.lit1 (C:=af) 6).vu (n:=1) (hH.blk 1 rfl) rfl) (.cons ((Bk.lits (C:=af) (b4 t) (by show 4≤_;unfold maxLen;decide)).vu (n:=4) (hH.blk 2 rfl) rfl) (.cons ((Bk.lit1 (C:=af) a).vu (n:=1) (hH.blk 3 rfl) rfl) (.cons ((Bk.lits (C:=af) (b4 32) (by show 4≤_;unfold maxLen;decide)).vu (n:=4) (hH.blk 4 rfl) rfl) (.cons (bp (hH.blk 0 rfl)) ViewsL.nil)))))⟩) 1 (.nil _ []) ?_
 clear hH
 rintro v11 E7 w hO8 hH
 obtain ⟨A9,c10,rfl⟩:=hO8.slice
 refine ⟨an,rv 9 .mv 3 ?_⟩
 refine rn ?_
 refine ar (aW 0 rfl rfl ?_)
 exact ⟨_,_,rfl,  hO8,hH.out1 [false,false,false,false,false,false,true] rfl⟩
theorem CZ(A:Option Addr)(n c:Nat)(l:List UInt8)(hb:n≤100000):Does Tryz.prog 67 #[(.slice A n c)] [] (fun w=>Vu af w A n c l) (fun v E'=>OwnT af 5 v (hfL l) E'):=by
 refine dU Tryz.func67 Tryz.ntmps67 ?_
 intro w0 hH hR
 replace hH:HH w0 [] [] w0:=hH.only [false]
 have hn:=hR.len
 refine zr (zv .mv 0 ?_)
 refine zn (zr (zm hH (fun _ hF=>cx (e:=5) (sz:=1) (z:=(.int .u8 0)) (by_:=1) (cs:=af.enc 155) rfl (by kernel_rfl) (by kernel_rfl) rfl (af.len 155) (ltb rfl) (leb rfl) rfl) trivial 1 ?_))
 clear hH
 rintro _ _ w ⟨g1,rfl,rfl⟩ hH
 refine zv .mv 0 ?_
 refine zv .len 1 ?_
 refine zv (.cu .u32) 1 ?_
 refine zm hH (.call Tryz.func106 (pK n)) trivial 1 ?_
 clear hH
 rintro _ _ w ⟨g2,rfl,rfl⟩ hH
 refine zv .mv 4 ?_
 refine zm hH (fun _ hF=>cY (C:=cSl) (e:=27) (z:=(.slice none 0 0)) (by_:=24) [((some ⟨g1,0,none⟩),1,1),((some ⟨g2,0,none⟩),4,4),(A,n,c)] rfl (by kernel_rfl) (by kernel_rfl) (EvP.cons (v:=cSl.val ((some ⟨g1,0,none⟩),1,1)) (hF.ev 2 rfl) (EvP.cons (v:=cSl.val ((some ⟨g2,0,none⟩),4,4)) (hF.ev 1 rfl) (EvP.cons (v:=cSl.val (A,n,c)) (hF.ev 0 rfl) EvP.nil))) rfl (ltb rfl) (leb rfl) rfl) trivial 7 ?_
 clear hH
 rintro _ _ w ⟨g3,rfl,rfl⟩ hH
 refine zm hH (.call Tryz.func33 ((iC (some ⟨g3,0,none⟩) 3 3 [((some ⟨g1,0,none⟩),1,1),((some ⟨g2,0,none⟩),4,4),(A,n,c)] [[155],(b4 n),l] rfl (by decide) (by simp only[List.flatten_cons,List.flatten_nil,List.length_append,List.length_cons,List.length_nil,m5];omega)))) (⟨((Bk.lits (C:=cSl) [((some ⟨g1,0,none⟩),1,1),((some ⟨g2,0,none⟩),4,4),(A,n,c)] (by show 3≤_;unfold maxLen;decide)).vu (n:=3) (hH.blk 2 rfl) rfl),(.cons ((Bk.lit1 (C:=af) 155).vu (n:=1) (hH.blk 0 rfl) rfl) (.cons ((Bk.lits (C:=af) (b4 n) (by show 4≤_;unfold maxLen;decide)).vu (n:=4) (hH.blk 1 rfl) rfl) (.cons (hH.vu hR (by decide) (Off.nil _ _)) ViewsL.nil)))⟩) 1 ?_
 clear hH
 rintro v8 E4 w hO5 hH
 obtain ⟨A6,c7,rfl⟩:=hO5.slice
 refine zv .mv 1 ?_
 refine zn (ar (aW 0 rfl rfl ?_))
 subst hn
 exact ⟨_,_,rfl,  hO5,hH.out1 [false,false,false,true] rfl⟩
theorem B0(A:Option Addr)(n c:Nat)(l:List UInt8)(hb:n≤100000):Pure Tryz.prog 36 #[(.slice A n c)] (fun w=>w.heap[3]?=some (.cells ((cWs 64).enc K32) 119 (0,0))∧w.heap[2]?=some (.cells ((cWs 8).enc H32) 118 (0,0))∧Vu af w A n c l) ((ac 32).val (sha (hfL l))):=by
 refine pU Tryz.func36 Tryz.ntmps36 ?_
 intro w0 hH hR
 have hn:=hR.2.2.len
 refine zr (zA hH (ac 32) (fun _=>0) 0 ?_)
 clear hH
 intro g1 w hH
 refine zn (zr (zv .mv 2 ?_))
 refine zm hH (.call Tryz.func67 ((CZ A n c l hb))) (hH.vu hR.2.2 (by decide) (Off.nil _ _)) 1 ?_
 clear hH
 rintro v6 E2 w hO3 hH
 obtain ⟨A4,c5,rfl⟩:=hO3.slice
 refine zc Tryz.func66 (tM A4 ((hfL l).length) c5 (hfL l) (by rw[rg];omega)) (⟨hH.oldBlk hR.1 (by simp),hH.oldBlk hR.2.1 (by simp),(hO3.vuAt (hH.has 1 rfl))⟩) hH 1 ?_
 clear hH
 intro w hH
 refine zW 0 hH rfl (sha (hfL l)) ?_
 clear hH
 intro w hH
 refine zn (ar (aI 1 (hH.blk 0 rfl) rfl rfl (by kernel_rfl) (Cod.size _ _) (by kernel_rfl) ?_))
 exact zE hH
theorem Ak(k:Nat×Bt×Bt×Bt):Does Tryz.prog 35 #[(cCe.val k)] [] (fun _=>True) (fun v E' => ∃ A1 c1 E1 A2 c2 E2,v=.agg #[.slice A1 (kpL k.1 27 k.2.1).length c1,.slice A2 (kpL k.1 25 k.2.2.1).length c2]∧E'=([E1,E2]:List Hl).flatten∧OwnT af 5 (.slice A1 (kpL k.1 27 k.2.1).length c1) (kpL k.1 27 k.2.1) E1∧OwnT af 5 (.slice A2 (kpL k.1 25 k.2.2.1).length c2) (kpL k.1 25 k.2.2.1) E2):=by
 refine dU Tryz.func35 Tryz.ntmps35 ?_
 intro w0 hH hR
 replace hH:HH w0 [] [] w0:=hH.only [false]
 refine zr (zB hH cCe k 1 ?_)
 clear hH
 intro g1 w hH
 refine zm hH (fun _ hF=>mx (z:=(.agg #[(.slice none 0 0),(.slice none 0 0)])) rfl (by kernel_rfl) rfl) trivial 0 ?_
 clear hH
 rintro _ _ w ⟨g2,rfl,rfl⟩ hH
 refine zn (zx ?_)
 replace hH:=hH.drew
 refine rv 0 (.fld 0) 0 ?_
 refine rld 1 (hH.q 0 rfl) (.ld (eX .u32) k.1 (fun _ hS=>(ae hS).fst)) 1 ?_
 refine rv 2 (.fld 1) 0 ?_
 refine rld 3 (hH.q 0 rfl) (.ld (ac 32) k.2.1 (fun _ hS=>((ae hS).snd).fst)) 1 ?_
 refine rv 5 (.fld 0) 0 ?_
 refine rld 6 (hH.q 0 rfl) (.ld (eX .u32) k.1 (fun _ hS=>(ae hS).fst)) 1 ?_
 refine rv 7 (.fld 33) 16 ?_
 refine rld 8 (hH.q 0 rfl) (.ld (ac 32) k.2.2.1 (fun _ hS=>(((ae hS).snd).snd).fst)) 1 ?_
 refine ao 4 ?_
 refine rm 4 hH (.call Tryz.func65 ((BZ k.1 27 k.2.1))) trivial 12 (.keep (.keep (pgo [] (pgo [] (.nil _ []))))) ?_
 clear hH
 rintro v7 E3 w hO4 hH
 obtain ⟨A5,c6,rfl⟩:=hO4.slice
 refine ⟨am (hH.blk 0 rfl) (am (hH.blk 0 rfl) an),?_⟩
 refine ao 9 ?_
 refine rm 9 hH (.call Tryz.func65 ((BZ k.1 25 k.2.2.1))) trivial 6 (pgo [] (pgo [] (.nil _ []))) ?_
 clear hH
 rintro v13 E9 w hO10 hH
 obtain ⟨A11,c12,rfl⟩:=hO10.slice
 refine ⟨an,rv 10 (v:=(.agg #[(.slice A5 ((kpL k.1 27 k.2.1).length) c6),(.slice A11 ((kpL k.1 25 k.2.2.1).length) c12)])) (fun _ _ hF=>aE (cells := #[(.slice A5 ((kpL k.1 27 k.2.1).length) c6),(.slice A11 ((kpL k.1 25 k.2.2.1).length) c12)]) rfl (EvP.cons (v:=(.slice A5 ((kpL k.1 27 k.2.1).length) c6)) (hF.ev 1 rfl) (EvP.cons (v:=(.slice A11 ((kpL k.1 25 k.2.2.1).length) c12)) (hF.ev 0 rfl) EvP.nil)) rfl _) 3 ?_⟩
 refine ao 11 ?_
 refine re0 11 1 hH rfl (fun _ hF=>nL (k:=2) rfl (hF.ev 1 rfl) (hF.ev 0 rfl) rfl (by kernel_rfl) (leb rfl) rfl rfl) trivial (.nil _ []) ?_
 clear hH
 rintro _ _ w rfl hH
 refine ⟨an,rn ?_⟩
 refine ar (aI 1 (hH.blk 1 rfl) rfl rfl (by kernel_rfl) rfl (by kernel_rfl) ?_)
 exact ⟨_,_,rfl,⟨_,_,_,_,_,_,rfl,rfl,hO4,hO10⟩,hH.out [false,false,true,true]⟩
def prT(t:Nat)(s b:Bt):Nat→Bt
 | 0=>fun _=>0
 | 1=>m6 (fun _=>0) 0 (sha (hfL (kpL t 27 s)))
 | _=>prB sha t s b
theorem uO(t:Nat)(s b:Bt):Pure Tryz.prog 18 #[(.int .u32 t),((ac 32).val s),((ac 32).val b)] (fun w=>w.heap[3]?=some (.cells ((cWs 64).enc K32) 119 (0,0))∧w.heap[2]?=some (.cells ((cWs 8).enc H32) 118 (0,0))) (cCe.val (bd sha t s b)):=by
 refine pU Tryz.func18 Tryz.ntmps18 ?_
 intro w0 hH hR
 refine zr (zB hH (ac 32) s 2 ?_)
 clear hH
 intro g1 w hH
 refine zB hH (ac 32) b 4 ?_
 clear hH
 intro g2 w hH
 refine zA hH cCe (0,fun _=>0,fun _=>0,fun _=>0) 0 ?_
 clear hH
 intro g3 w hH
 refine zn (zr (zv .mv 8 ?_))
 refine zs (hH.q 0 rfl) (.l0 (ac 32) s) 8 ?_
 refine zs (hH.q 1 rfl) (.l0 (ac 32) b) 8 ?_
 refine zv (v:=(cCe.val (t,s,b,fun _=>0))) (fun _ _ hF=>aE (cells:=cCe.enc (t,s,b,fun _=>0)) (vals:=[(0,(.int .u32 t)),(1,((ac 32).val s)),(2,((ac 32).val b))]) rfl (EvP.cons (v:=(.int .u32 t)) (hF.ev 2 rfl) (EvP.cons (v:=((ac 32).val s)) (hF.ev 1 rfl) (EvP.cons (v:=((ac 32).val b)) (hF.ev 0 rfl) EvP.nil))) (by kernel_rfl) _) 7 ?_
 refine zA hH cCe (0,fun _=>0,fun _=>0,fun _=>0) 0 ?_
 clear hH
 intro g4 w hH
 refine zW 3 hH rfl (t,s,b,fun _=>0) ?_
 clear hH
 intro w hH
 refine zn (aj (zr (zs (hH.q 3 rfl) (.l0 cCe (t,s,b,fun _=>0)) 2 ?_)))
 refine zm hH (.call Tryz.func35 (Ak (t,s,b,fun _=>0))) trivial 1 ?_
 clear hH
 rintro v13 E14 w ⟨A5,c6,E7,A8,c9,E10,rfl,rfl,hO11,hO12⟩ hH
 replace hH:HH w0 [] [[bl g1 22 ((ac 32).enc s)],[bl g2 22 ((ac 32).enc b)],[bl g3 33 (cCe.enc (0,fun _=>0,fun _=>0,fun _=>0))],[bl g4 33 (cCe.enc (t,s,b,fun _=>0))],E7,E10] w:=hH.cast (by simp)
 refine zv .mv 0 ?_
 refine zn (ai (zL1 (fun (i:Nat)=>[(16,(.int .i64 i)),(15,(.agg #[(.slice A5 ((kpL t 27 s).length) c6),(.slice A8 ((kpL t 25 b).length) c9)])),(7,(.pointer (some ⟨g4,0,none⟩))),(6,(.pointer (some ⟨g3,0,none⟩)))]) (fun i w=>HH w0 [] [[bl g1 22 ((ac 32).enc s)],[bl g2 22 ((ac 32).enc b)],[bl g3 33 (cCe.enc (0,fun _=>0,fun _=>0,fun _=>0))],[bl g4 33 (cCe.enc (t,s,b,prT t s b i))],E7,E10] w∧(i≤2)) (fun i=>2-i) 0 ⟨hH,(Nat.zero_le _)⟩ ?_))
 clear hH
 rintro i w ⟨hH,hi⟩
 refine zr (zv (.lt (i<2)) 0 ?_)
 refine zn (aj ?_)
 refine zP (fun hc15 => ?_) (fun hc15 => ?_)
 refine aA (ag (aj (ai ?_)))
 rcases (show i=0∨i=1 by omega) with rfl | rfl
 refine zr (zv .mv 1 ?_)
 refine zv (v:=(.slice A5 ((kpL t 27 s).length) c6)) (fun _ _ hF=>uG (i:=0) (n:=2) (e:=27) rfl (by kernel_rfl) (by kernel_rfl) (by kernel_rfl) (hF.ev 2 rfl) (hF.ev 1 rfl) (ltb rfl) rfl) 0 ?_
 refine zv .mv 2 ?_
 refine zv .mv 2 ?_
 refine zn (aC (zv .mv 2 ?_))
 refine zv .mv 2 ?_
 refine zc Tryz.func36 (B0 A5 ((kpL t 27 s).length) c6 (kpL t 27 s) (by rw[eU];omega)) (⟨hH.oldBlk hR.1 (by simp),hH.oldBlk hR.2 (by simp),(hO11.vuAt (hH.has 4 rfl))⟩) hH 1 ?_
 clear hH
 intro w hH
 refine zv (.fld 65) 0 ?_
 have hi16:0<2:=by omega
 refine zv (.ia 32 2 0 (hi:=hi16)) 5 ?_
 refine ze0 3 hH rfl (.st (ac 32) (sha (hfL (kpL t 27 s))) (by rw[Cod.size];show 65+0*32+32≤129;omega) (cE (a:=1) (o:=65+0*32) (cE (a:=32) (o:=64+0*32) (cE (a:=32) (o:=32+0*32) (m7 (prT t s b 0) (sha (hfL (kpL t 27 s))) 0) (by omega)) (by omega)) (by omega))) trivial ?_
 clear hH
 rintro _ _ w rfl hH
 refine aD (aN (ag (aC (zv (v:=(.int .i64 1)) (fun _ _ hF=>ny rfl (hF.ev 2 rfl) rfl (by decide)) 7 ?_))))
 refine zv .mv 1 ?_
 refine aD ?_
 replace hH:HH w0 [] [[bl g1 22 ((ac 32).enc s)],[bl g2 22 ((ac 32).enc b)],[bl g3 33 (cCe.enc (0,fun _=>0,fun _=>0,fun _=>0))],[bl g4 33 (cCe.enc (t,s,b,prT t s b 1))],E7,E10] w:=hH
 exact zR1 1 ⟨hH,(by omega)⟩ (by omega)
 refine zr (zv .mv 1 ?_)
 refine zv (v:=(.slice A8 ((kpL t 25 b).length) c9)) (fun _ _ hF=>uG (i:=1) (n:=2) (e:=27) rfl (by kernel_rfl) (by kernel_rfl) (by kernel_rfl) (hF.ev 2 rfl) (hF.ev 1 rfl) (ltb rfl) rfl) 0 ?_
 refine zv .mv 2 ?_
 refine zv .mv 2 ?_
 refine zn (aC (zv .mv 2 ?_))
 refine zv .mv 2 ?_
 refine zc Tryz.func36 (B0 A8 ((kpL t 25 b).length) c9 (kpL t 25 b) (by rw[eU];omega)) (⟨hH.oldBlk hR.1 (by simp),hH.oldBlk hR.2 (by simp),(hO12.vuAt (hH.has 5 rfl))⟩) hH 1 ?_
 clear hH
 intro w hH
 refine zv (.fld 65) 0 ?_
 have hi17:1<2:=by omega
 refine zv (.ia 32 2 1 (hi:=hi17)) 5 ?_
 refine ze0 3 hH rfl (.st (ac 32) (sha (hfL (kpL t 25 b))) (by rw[Cod.size];show 65+1*32+32≤129;omega) (cE (a:=1) (o:=65+1*32) (cE (a:=32) (o:=64+1*32) (cE (a:=32) (o:=32+1*32) (m7 (prT t s b 1) (sha (hfL (kpL t 25 b))) 1) (by omega)) (by omega)) (by omega))) trivial ?_
 clear hH
 rintro _ _ w rfl hH
 refine aD (aN (ag (aC (zv (v:=(.int .i64 2)) (fun _ _ hF=>ny rfl (hF.ev 2 rfl) rfl (by decide)) 7 ?_))))
 refine zv .mv 1 ?_
 refine aD ?_
 replace hH:HH w0 [] [[bl g1 22 ((ac 32).enc s)],[bl g2 22 ((ac 32).enc b)],[bl g3 33 (cCe.enc (0,fun _=>0,fun _=>0,fun _=>0))],[bl g4 33 (cCe.enc (t,s,b,prT t s b 2))],E7,E10] w:=hH
 exact zR1 2 ⟨hH,(by omega)⟩ (by omega)
 refine aJ (ak (ak (aR (ag ?_))))
 obtain rfl:i=2:=by omega
 replace hH:HH w0 [] [[bl g1 22 ((ac 32).enc s)],[bl g2 22 ((ac 32).enc b)],[bl g3 33 (cCe.enc (0,fun _=>0,fun _=>0,fun _=>0))],[bl g4 33 (cCe.enc (bd sha t s b))],E7,E10] w:=hH
 refine zr (zs (hH.q 3 rfl) (.l0 cCe (bd sha t s b)) 15 ?_)
 refine zW 2 hH rfl (bd sha t s b) ?_
 clear hH
 intro w hH
 refine zn (ar (aI 1 (hH.blk 2 rfl) rfl rfl (by kernel_rfl) (Cod.size _ _) (by kernel_rfl) ?_))
 exact zE hH
theorem w7(k:Bt×Bt)(t:Nat):Pure Tryz.prog 8 #[(cKy.val k),(.int .u32 t)] (fun w=>w.heap[4]?=some (.cells ((cQs 80).enc K64) 159 (0,0))∧w.heap[1]?=some (.cells ((cQs 8).enc H64) 141 (0,0))∧w.heap[3]?=some (.cells ((cWs 64).enc K32) 119 (0,0))∧w.heap[2]?=some (.cells ((cWs 8).enc H32) 118 (0,0))) (cCe.val (bd sha t (iO k.1) (xPub k.2))):=by
 refine pU Tryz.func8 Tryz.ntmps8 ?_
 intro w0 hH hR
 refine zr (zB hH cKy k 1 ?_)
 clear hH
 intro g1 w hH
 refine zA hH cCe (0,fun _=>0,fun _=>0,fun _=>0) 0 ?_
 clear hH
 intro g2 w hH
 refine zn (zx ?_)
 replace hH:=hH.drew
 refine rv 0 .mv 4 ?_
 refine rv 1 (.fld 0) 0 ?_
 refine rld 2 (hH.q 0 rfl) (.ld (ac 32) k.1 (fun _ hS=>(ae hS).fst)) 1 ?_
 refine rv 4 (.fld 32) 8 ?_
 refine rld 5 (hH.q 0 rfl) (.ld (ac 32) k.2 (fun _ hS=>(ae hS).snd)) 1 ?_
 refine ao 3 (rpc 3 Tryz.func19 (w6 k.1) (⟨hH.oldBlk hR.1 (by simp),hH.oldBlk hR.2.1 (by simp)⟩) hH 2 (.keep (pgo [] (.nil _ []))) ?_)
 clear hH
 intro w hH
 refine ⟨am (hH.blk 0 rfl) an,?_⟩
 refine ao 6 (rpc 6 Tryz.func14 (pG k.2) trivial hH 2 (pgo [] (.nil _ [])) ?_)
 clear hH
 intro w hH
 refine ⟨an,?_⟩
 refine ao 7 (rpc 7 Tryz.func18 (uO t (iO k.1) (xPub k.2)) (⟨hH.oldBlk hR.2.2.1 (by simp),hH.oldBlk hR.2.2.2 (by simp)⟩) hH 7 (.nil _ []) ?_)
 clear hH
 intro w hH
 refine ⟨an,ao 8 ?_⟩
 refine re0 8 1 hH rfl (.sw cCe (0,fun _=>0,fun _=>0,fun _=>0) (bd sha t (iO k.1) (xPub k.2))) trivial (.nil _ []) ?_
 clear hH
 rintro _ _ w rfl hH
 refine ⟨an,rn ?_⟩
 refine ar (aI 1 (hH.blk 1 rfl) rfl rfl (by kernel_rfl) (Cod.size _ _) (by kernel_rfl) ?_)
 exact zE hH
theorem rl(n:Nat)(hn:n<4294967296):Does Tryz.prog 47 #[(.int .i64 n)] [] (fun _=>True) (fun v E'=>OwnT af 5 v (beL 4 n) E'):=by
 refine dU Tryz.func47 Tryz.ntmps47 ?_
 intro w0 hH hR
 replace hH:HH w0 [] [] w0:=hH.only [false]
 refine zr (zv .mv 0 ?_)
 refine zn (zr (zv .mv 3 ?_))
 refine zv (.cu .u64) 1 ?_
 refine zm hH (.call Tryz.func90 ((wZ n 4 (by decide)))) trivial 1 ?_
 clear hH
 rintro v5 E1 w hO2 hH
 obtain ⟨A3,c4,rfl⟩:=hO2.slice
 refine zv .mv 1 ?_
 refine zn (ar (aW 0 rfl rfl ?_))
 exact ⟨_,_,rfl,  hO2,hH.out1 [true] rfl⟩
theorem mg(t:Nat)(ht:t<4294967296)(a:UInt8)(p:Bt):Does Tryz.prog 27 #[(.int .u32 t),(.int .u8 a.toNat),((ac 32).val p)] [] (fun _=>True) (fun v E'=>OwnT af 5 v (kpL t a p) E'):=by
 refine dU Tryz.func27 Tryz.ntmps27 ?_
 intro w0 hH hR
 replace hH:HH w0 [] [] w0:=hH.only [false]
 refine zr (zB hH (ac 32) p 4 ?_)
 clear hH
 intro g1 w hH
 refine zv .mv 0 ?_
 refine zn (zx ?_)
 replace hH:=hH.drew
 refine de 2 [mkv 0 7 [] [] (fun G g=>(.slice (some ⟨g,0,none⟩) 1 1)) fun G g=>[bl g 5 (af.enc 6)],pv 1 8 [] [] fun G=>(.int .u32 t),pv 2 9 [1] [] fun G=>(.int .i64 t),owv 3 10 [2] [] af 5 fun G=>(beL 4 t),pv 4 11 [] [] fun G=>(.int .u8 a.toNat),mkv 5 12 [4] [] (fun G g=>(.slice (some ⟨g,0,none⟩) 5 5)) fun G g=>[bl g 5 (be af [a,0,0,0,32]).toArray],pv 6 13 [] [] fun G=>(.slice (some ⟨g1,0,none⟩) 32 32),mkv 7 14 [0,3,5,6] [0,3,5] (fun G g=>(.slice (some ⟨g,0,none⟩) 4 4)) fun G g=>[bl g 27 (be cSl [((some ⟨(G 0).g,0,none⟩),1,1),((G 3).A,(beL 4 t).length,(G 3).c),((some ⟨(G 5).g,0,none⟩),5,5),((some ⟨g1,0,none⟩),32,32)]).toArray]] (fun G=>[(14,(.slice (some ⟨(G 7).g,0,none⟩) 4 4)),(6,(.slice none 0 0))]) (fun G=>[[bl g1 22 ((ac 32).enc p)],[bl (G 0).g 5 (af.enc 6)],(G 3).E,[bl (G 5).g 5 (be af [a,0,0,0,32]).toArray],[bl (G 7).g 27 (be cSl [((some ⟨(G 0).g,0,none⟩),1,1),((G 3).A,(beL 4 t).length,(G 3).c),((some ⟨(G 5).g,0,none⟩),5,5),((some ⟨g1,0,none⟩),32,32)]).toArray]]) hH (.c (.a (fun _ _ _ _=>trivial) (fun G=>(fun _ hF=>cx (e:=5) (sz:=1) (z:=(.int .u8 0)) (by_:=1) (cs:=af.enc 6) rfl (by kernel_rfl) (by kernel_rfl) rfl (af.len 6) (ltb rfl) (leb rfl) rfl)) fun _ _ _ h=>h) <| .c (.v fun G=>.mv) <| .c (.v fun G=>.ci) <| .c (.o (fun _ _ _ _=>trivial) (fun G=>(.call Tryz.func47 ((rl t (by omega))))) fun _ _ _ h=>h) <| .c (.v fun G=>.mv) <| .c (.a (fun _ _ _ _=>trivial) (fun G=>(fun _ hF=>cY (C:=af) (e:=5) (z:=(.int .u8 0)) (by_:=1) [a,0,0,0,32] rfl (by kernel_rfl) (by kernel_rfl) (EvP.cons (v:=af.val a) (hF.ev 0 rfl) (EvP.cons (v:=af.val 0) rfl (EvP.cons (v:=af.val 0) rfl (EvP.cons (v:=af.val 0) rfl (EvP.cons (v:=af.val 32) rfl EvP.nil))))) rfl (ltb rfl) (leb rfl) rfl)) fun _ _ _ h=>h) <| .c (.v fun G=>(fun _ _ hF=>aV (n:=32) (e:=5) (sz:=1) rfl (by kernel_rfl) (by kernel_rfl) (hF.ev 1 rfl))) <| .c (.a (fun _ _ _ _=>trivial) (fun G=>(fun _ hF=>cY (C:=cSl) (e:=27) (z:=(.slice none 0 0)) (by_:=24) [((some ⟨(G 0).g,0,none⟩),1,1),((G 3).A,(beL 4 t).length,(G 3).c),((some ⟨(G 5).g,0,none⟩),5,5),((some ⟨g1,0,none⟩),32,32)] rfl (by kernel_rfl) (by kernel_rfl) (EvP.cons (v:=cSl.val ((some ⟨(G 0).g,0,none⟩),1,1)) (hF.ev 0 rfl) (EvP.cons (v:=cSl.val ((G 3).A,(beL 4 t).length,(G 3).c)) (hF.ev 1 rfl) (EvP.cons (v:=cSl.val ((some ⟨(G 5).g,0,none⟩),5,5)) (hF.ev 2 rfl) (EvP.cons (v:=cSl.val ((some ⟨g1,0,none⟩),32,32)) (hF.ev 3 rfl) EvP.nil)))) rfl (ltb rfl) (leb rfl) rfl)) fun _ _ _ h=>h) <| .nil) ?_
 clear hH
 rintro G w hp hH
 obtain ⟨-,-,-,hO4,-,-,-,-,-⟩:=hp
 replace hO4:OwnT af 5 (.slice (G 3).A (beL 4 t).length (G 3).c) (beL 4 t) (G 3).E:=hO4
 revert hH hO4
 generalize (G 0).g=g2
 generalize (G 3).A=A5
 generalize (G 3).c=c6
 generalize (G 3).E=E3
 generalize (G 5).g=g9
 generalize (G 7).g=g10
 intro hH hO4
 refine ao 8 ?_
 refine rm 8 hH (.call Tryz.func24 ((jV (some ⟨g10,0,none⟩) 4 4 [((some ⟨g2,0,none⟩),1,1),(A5,(beL 4 t).length,c6),((some ⟨g9,0,none⟩),5,5),((some ⟨g1,0,none⟩),32,32)] [[6],(beL 4 t),[a,0,0,0,32],(lst 32 p)] rfl (by decide) (by simp only[List.flatten_cons,List.flatten_nil,List.length_append,List.length_cons,List.length_nil,m4,ap];omega)))) (⟨((Bk.lits (C:=cSl) [((some ⟨g2,0,none⟩),1,1),(A5,(beL 4 t).length,c6),((some ⟨g9,0,none⟩),5,5),((some ⟨g1,0,none⟩),32,32)] (by show 4≤_;unfold maxLen;decide)).vu (n:=4) (hH.blk 4 rfl) rfl),(.cons ((Bk.lit1 (C:=af) 6).vu (n:=1) (hH.blk 1 rfl) rfl) (.cons (hO4.vuAt (hH.has 2 rfl)) (.cons ((Bk.lits (C:=af) [a,0,0,0,32] (by show 5≤_;unfold maxLen;decide)).vu (n:=5) (hH.blk 3 rfl) rfl) (.cons (bp (hH.blk 0 rfl)) ViewsL.nil))))⟩) 1 (.nil _ []) ?_
 clear hH
 rintro v15 E11 w hO12 hH
 obtain ⟨A13,c14,rfl⟩:=hO12.slice
 refine ⟨an,rv 9 .mv 3 ?_⟩
 refine rn ?_
 refine ar (aW 0 rfl rfl ?_)
 exact ⟨_,_,rfl,Ac t a p▸hO12,hH.out1 [false,false,false,false,false,true] rfl⟩
theorem B1(A:Option Addr)(n c:Nat)(l:List UInt8)(hb:n≤100000):Does Tryz.prog 46 #[(.slice A n c)] [] (fun w=>Vu af w A n c l) (fun v E'=>OwnT af 5 v (hfL l) E'):=by
 refine dU Tryz.func46 Tryz.ntmps46 ?_
 intro w0 hH hR
 replace hH:HH w0 [] [] w0:=hH.only [false]
 have hn:=hR.len
 refine zr (zv .mv 0 ?_)
 refine zn (zr (zm hH (fun _ hF=>cx (e:=5) (sz:=1) (z:=(.int .u8 0)) (by_:=1) (cs:=af.enc 155) rfl (by kernel_rfl) (by kernel_rfl) rfl (af.len 155) (ltb rfl) (leb rfl) rfl) trivial 1 ?_))
 clear hH
 rintro _ _ w ⟨g1,rfl,rfl⟩ hH
 refine zv .mv 0 ?_
 refine zv .len 1 ?_
 refine zm hH (.call Tryz.func47 ((rl n (by omega)))) trivial 1 ?_
 clear hH
 rintro v6 E2 w hO3 hH
 obtain ⟨A4,c5,rfl⟩:=hO3.slice
 refine zv .mv 4 ?_
 refine zm hH (fun _ hF=>cY (C:=cSl) (e:=27) (z:=(.slice none 0 0)) (by_:=24) [((some ⟨g1,0,none⟩),1,1),(A4,(beL 4 n).length,c5),(A,n,c)] rfl (by kernel_rfl) (by kernel_rfl) (EvP.cons (v:=cSl.val ((some ⟨g1,0,none⟩),1,1)) (hF.ev 2 rfl) (EvP.cons (v:=cSl.val (A4,(beL 4 n).length,c5)) (hF.ev 1 rfl) (EvP.cons (v:=cSl.val (A,n,c)) (hF.ev 0 rfl) EvP.nil))) rfl (ltb rfl) (leb rfl) rfl) trivial 7 ?_
 clear hH
 rintro _ _ w ⟨g8,rfl,rfl⟩ hH
 refine zm hH (.call Tryz.func24 ((jV (some ⟨g8,0,none⟩) 3 3 [((some ⟨g1,0,none⟩),1,1),(A4,(beL 4 n).length,c5),(A,n,c)] [[155],(beL 4 n),l] rfl (by decide) (by simp only[List.flatten_cons,List.flatten_nil,List.length_append,List.length_cons,List.length_nil,m4];omega)))) (⟨((Bk.lits (C:=cSl) [((some ⟨g1,0,none⟩),1,1),(A4,(beL 4 n).length,c5),(A,n,c)] (by show 3≤_;unfold maxLen;decide)).vu (n:=3) (hH.blk 2 rfl) rfl),(.cons ((Bk.lit1 (C:=af) 155).vu (n:=1) (hH.blk 0 rfl) rfl) (.cons (hO3.vuAt (hH.has 1 rfl)) (.cons (hH.vu hR (by decide) (Off.nil _ _)) ViewsL.nil)))⟩) 1 ?_
 clear hH
 rintro v13 E9 w hO10 hH
 obtain ⟨A11,c12,rfl⟩:=hO10.slice
 refine zv .mv 1 ?_
 refine zn (ar (aW 0 rfl rfl ?_))
 subst hn
 exact ⟨_,_,rfl,Ad l▸hO10,hH.out1 [false,false,false,true] rfl⟩
theorem mh(A:Option Addr)(n c:Nat)(l:List UInt8)(hb:n≤100000):Pure Tryz.prog 26 #[(.slice A n c)] (fun w=>Vu af w A n c l) ((ac 32).val (sha (hfL l))):=by
 refine pU Tryz.func26 Tryz.ntmps26 ?_
 intro w0 hH hR
 have hn:=hR.len
 refine zr (zA hH (ac 32) (fun _=>0) 0 ?_)
 clear hH
 intro g1 w hH
 refine zn (zr (zv .mv 2 ?_))
 refine zm hH (.call Tryz.func46 ((B1 A n c l hb))) (hH.vu hR (by decide) (Off.nil _ _)) 1 ?_
 clear hH
 rintro v6 E2 w hO3 hH
 obtain ⟨A4,c5,rfl⟩:=hO3.slice
 refine zc Tryz.func45 (pa A4 ((hfL l).length) c5 (hfL l) (by rw[rg];omega)) (hO3.vuAt (hH.has 1 rfl)) hH 1 ?_
 clear hH
 intro w hH
 refine zW 0 hH rfl (sha (hfL l)) ?_
 clear hH
 intro w hH
 refine zn (ar (aI 1 (hH.blk 0 rfl) rfl rfl (by kernel_rfl) (Cod.size _ _) (by kernel_rfl) ?_))
 exact zE hH
section
def ks(s:Nat→UInt8)(nk:Nat)(key:Nat→UInt8):Nat→Nat→UInt8
 | 0=>key
 | m+1=>fun j=>if j<4*(nk+m) then ks s nk key m j else xr (ks s nk key m (j-4*nk)) (tw s nk (ks s nk key m) (nk+m) (j-4*(nk+m)))
theorem w8(s:Nat→UInt8)(nk:Nat)(key:Nat→UInt8)(m j:Nat)(h:j<4*(nk+m)):ks s nk key (m+1) j=ks s nk key m j:=by
 show (if j<4*(nk+m) then _ else _)=_
 rw[if_pos h]
theorem iP(s:Nat→UInt8)(nk:Nat)(key:Nat→UInt8)(m j:Nat)(h:j<4*(nk+m)):∀ t,ks s nk key (m+t) j=ks s nk key m j
 | 0=>rfl
 | t+1=>by rw[show m+(t+1)=(m+t)+1 from rfl,w8 s nk key (m+t) j (by omega),iP s nk key m j h t]
theorem uP{s W W':Nat→UInt8}{nk i k:Nat}(hi:0<i)(hk:k<4)(h:∀ j,j<4*i→W j=W' j):tw s nk W i k=tw s nk W' i k:=by
 unfold tw
 rw[h (4*(i-1)+1) (by omega),h (4*(i-1)+(k+1)%4) (by omega),h (4*(i-1)+k) (by omega)]
theorem uQ(s:Nat→UInt8)(nk:Nat)(key:Nat→UInt8)(hn:0<nk):lF s nk key (ks s nk key (3*nk+28)):=by
 refine ⟨fun j hj => ?_,fun i k h1 h2 hk => ?_⟩
 ·have:=iP s nk key 0 j (by omega) (3*nk+28)
  rw[Nat.zero_add]at this
  exact this
 ·obtain ⟨m,rfl⟩:∃ m,i=nk+m:=⟨i-nk,by omega⟩
  have e1:=iP s nk key (m+1) (4*(nk+m)+k) (by omega) (3*nk+28-(m+1))
  rw[show m+1+(3*nk+28-(m+1))=3*nk+28 by omega]at e1
  have e2:∀ j,j<4*(nk+m)→ks s nk key (3*nk+28) j=ks s nk key m j:=fun j hj=>by
   have:=iP s nk key m j hj (3*nk+28-m)
   rwa [show m+(3*nk+28-m)=3*nk+28 by omega]at this
  rw[e1,uP (by omega) hk e2,e2 (4*(nk+m-nk)+k) (by omega)]
  show (if 4*(nk+m)+k<4*(nk+m) then _ else _)=_
  rw[if_neg (by omega),show 4*(nk+m)+k-4*nk=4*(nk+m-nk)+k by omega,show 4*(nk+m)+k-4*(nk+m)=k by omega]
def E16(f g:Nat→UInt8):Prop := ∀ i,i<16→f i=g i
theorem E16.refl(f:Nat→UInt8):E16 f f:=fun _ _=>rfl
theorem E16.trans{f g k:Nat→UInt8}(h:E16 f g)(h':E16 g k):E16 f k:=fun i hi=>(h i hi).trans (h' i hi)
theorem E16.added{f g k k':Nat→UInt8}(h:E16 f g)(h':E16 k k'):E16 (added f k) (added g k'):=fun i hi=>by
 show xr (f i) (k i)=xr (g i) (k' i)
 rw[h i hi,h' i hi]
theorem E16.boxed{f g:Nat→UInt8}(s:Nat→UInt8)(h:E16 f g):E16 (boxed s f) (boxed s g):=fun i hi=>by
 show s (f i).toNat=s (g i).toNat
 rw[h i hi]
theorem E16.shifted{f g:Nat→UInt8}(h:E16 f g):E16 (shifted f) (shifted g):=fun i _=>h _ (by omega)
theorem E16.unshifted{f g:Nat→UInt8}(h:E16 f g):E16 (unshifted f) (unshifted g):=fun i _=>h _ (by omega)
theorem E16.mixed{f g:Nat→UInt8}(h:E16 f g):E16 (mixed f) (mixed g):=fun i hi=>by
 unfold Go.Proofs.YtajppfmjbkebfaaGreatDoor.mixed
 rw[h i hi,h (i-i%4) (by omega),h (i-i%4+1) (by omega),h (i-i%4+2) (by omega),h (i-i%4+3) (by omega),h (i-i%4+(i+1)%4) (by omega)]
theorem E16.premixed{f g:Nat→UInt8}(h:E16 f g):E16 (premixed f) (premixed g):=fun i hi=>by
 unfold Go.Proofs.YtajppfmjbkebfaaGreatDoor.premixed
 rw[h i hi,h (i-i%4+(i+2)%4) (by omega)]
theorem E16.unmixed{f g:Nat→UInt8}(h:E16 f g):E16 (unmixed f) (unmixed g):=h.premixed.mixed
theorem jk(x y:UInt8):x^^^(x^^^y)=y:=by rw[← UInt8.xor_assoc,UInt8.xor_self,UInt8.zero_xor]
theorem iQ(a b c:UInt8):a^^^(b^^^c)=b^^^(a^^^c):=by rw[← UInt8.xor_assoc,UInt8.xor_comm a b,UInt8.xor_assoc]
theorem gi(b k:Nat→UInt8):added (added b k) k=b:=by
 funext i
 show (b i^^^k i)^^^k i=b i
 rw[UInt8.xor_assoc,UInt8.xor_self,UInt8.xor_zero]
theorem bit7(x:UInt8):x>>>7=0∨x>>>7=1:=by
 have h:(x>>>7).toNat=x.toNat/128:=by
  rw[UInt8.toNat_shiftRight]
  simp[Nat.shiftRight_eq_div_pow]
 have h2:=x.toNat_lt
 rcases (by omega:x.toNat/128=0∨x.toNat/128=1) with h3 | h3
 ·left;apply UInt8.toNat_inj.1;rw[h,h3];rfl
 ·right;apply UInt8.toNat_inj.1;rw[h,h3];rfl
theorem jZ(x y:UInt8):dbl (x^^^y)=dbl x^^^dbl y:=by
 unfold dbl
 rw[UInt8.shiftLeft_xor,UInt8.shiftRight_xor]
 have h:(x>>>7^^^y>>>7)*(0x1b:UInt8)=(x>>>7)*(0x1b:UInt8)^^^(y>>>7)*(0x1b:UInt8):=by
  rcases bit7 x with h | h<;>rcases bit7 y with h' | h'<;>rw[h,h']<;>decide
 rw[h]
 generalize x<<<1=a
 generalize y<<<1=b
 generalize (x>>>7)*0x1b=c
 generalize (y>>>7)*0x1b=d
 rw[UInt8.xor_assoc,UInt8.xor_assoc,← UInt8.xor_assoc b,UInt8.xor_comm b c,UInt8.xor_assoc]
theorem eO(b:Nat→UInt8)(c r:Nat)(hr:r<4):
  mixed b (4*c+r)=(b (4*c+r)^^^(b (4*c)^^^b (4*c+1)^^^b (4*c+2)^^^b (4*c+3)))^^^dbl (b (4*c+r)^^^b (4*c+(r+1)%4)):=by
 unfold mixed xr
 rw[show 4*c+r-(4*c+r)%4=4*c by omega,show (4*c+r+1)%4=(r+1)%4 by omega]
theorem cV(b:Nat→UInt8)(c r:Nat)(hr:r<4):
  premixed b (4*c+r)=b (4*c+r)^^^dbl (dbl (b (4*c+r)^^^b (4*c+(r+2)%4))):=by
 unfold premixed xr
 rw[show 4*c+r-(4*c+r)%4=4*c by omega,show (4*c+r+2)%4=(r+2)%4 by omega]
theorem gj(b:Nat→UInt8):mixed (mixed b)=premixed b:=by
  funext i
  obtain ⟨c,r,hr,rfl⟩:∃ c r,r<4∧i=4*c+r:=⟨i/4,i%4,by omega,by omega⟩
  rw[eO _ c r hr,cV _ c r hr]
  have e0:=eO b c 0 (by omega)
  have e1:=eO b c 1 (by omega)
  have e2:=eO b c 2 (by omega)
  have e3:=eO b c 3 (by omega)
  simp only[Nat.add_zero,Nat.reduceAdd,Nat.reduceMod]at e0 e1 e2 e3
  rcases (by omega:r=0∨r=1∨r=2∨r=3) with rfl | rfl | rfl | rfl <;>
    (simp only[Nat.add_zero,Nat.reduceAdd,Nat.reduceMod,e0,e1,e2,e3,jZ]
     generalize b (4*c)=x0
     generalize b (4*c+1)=x1
     generalize b (4*c+2)=x2
     generalize b (4*c+3)=x3
     simp only[UInt8.xor_assoc,UInt8.xor_comm,iQ,jk,UInt8.xor_self,UInt8.xor_zero,UInt8.zero_xor])
theorem iR(b:Nat→UInt8):premixed (premixed b)=b:=by
 funext i
 obtain ⟨c,r,hr,rfl⟩:∃ c r,r<4∧i=4*c+r:=⟨i/4,i%4,by omega,by omega⟩
 rw[cV _ c r hr,cV b c r hr,cV b c ((r+2)%4) (by omega),show ((r+2)%4+2)%4=r by omega]
 generalize b (4*c+r)=x
 generalize b (4*c+(r+2)%4)=y
 simp only[jZ]
 simp only[UInt8.xor_comm,iQ,UInt8.xor_self,UInt8.xor_zero,UInt8.zero_xor]
theorem ln(b:Nat→UInt8):unmixed (mixed b)=b:=by
 unfold unmixed
 rw[← gj (mixed b),gj b,gj,iR]
theorem eV(b:Nat→UInt8):E16 (unshifted (shifted b)) b:=fun i hi=>by
 show b (((i+i%4*12)%16+(i+i%4*12)%16%4*4)%16)=b i
 rw[show ((i+i%4*12)%16+(i+i%4*12)%16%4*4)%16=i by omega]
def sS(s back:Nat→UInt8):Prop := ∀ x:UInt8,back (s x.toNat).toNat=x
theorem kY{s back:Nat→UInt8}(h:sS s back)(b:Nat→UInt8):boxed back (boxed s b)=b:=by
 funext i
 exact h (b i)
theorem uR{s back:Nat→UInt8}(h:sS s back)(r:Nat)(_:0<r)(W b:Nat→UInt8):∀ m,m<r→E16 (decR back r W (enc s r W b) m) (encR s W b (r-1-m)):=by
 intro m
 induction m with
 | zero =>
  intro _
  show E16 (boxed back (unshifted (added (added (shifted (boxed s (encR s W b (r-1)))) (rk W r)) (rk W r)))) _
  rw[gi]
  have:=(eV (boxed s (encR s W b (r-1)))).boxed back
  rw[kY h]at this
  exact this
 | succ m ih =>
  intro hm
  have h1:=ih (by omega)
  obtain ⟨t,ht⟩:∃ t,r-1-m=t+1:=⟨r-2-m,by omega⟩
  rw[ht]at h1
  show E16 (boxed back (unshifted (unmixed (added (decR back r W (enc s r W b) m) (rk W (r-1-m)))))) (encR s W b (r-1-(m+1)))
  rw[show r-1-(m+1)=t by omega,ht]
  have h2:E16 (added (decR back r W (enc s r W b) m) (rk W (t+1))) (mixed (shifted (boxed s (encR s W b t)))):=by
   have:=h1.added (E16.refl (rk W (t+1)))
   have e:encR s W b (t+1)=added (mixed (shifted (boxed s (encR s W b t)))) (rk W (t+1)):=rfl
   rw[e,gi]at this
   exact this
  have h3:=h2.unmixed
  rw[ln]at h3
  have h4:=(h3.unshifted.trans (eV _)).boxed back
  rw[kY h]at h4
  exact h4
theorem w9{s back:Nat→UInt8}(h:sS s back)(r:Nat)(hr:0<r)(W b:Nat→UInt8):E16 (dec back r W (enc s r W b)) b:=by
 have h1:=uR h r hr W b (r-1) (by omega)
 rw[show r-1-(r-1)=0 by omega]at h1
 have h2:=h1.added (E16.refl (rk W 0))
 have e:encR s W b 0=added b (rk W 0):=rfl
 rw[e,gi]at h2
 exact h2
theorem E16.encR{s W W' b b':Nat→UInt8}(hb:E16 b b'):∀ m,(∀ j,j<16*(m+1)→W j=W' j)→E16 (encR s W b m) (encR s W' b' m)
 | 0,hW=>hb.added fun i hi=>hW _ (by omega)
 | m+1,hW=>((((E16.encR hb m (fun j hj=>hW j (by omega))).boxed s).shifted).mixed).added fun i hi=>hW _ (by omega)
theorem E16.enc{s W W' b b':Nat→UInt8}(hb:E16 b b')(r:Nat)(hr:0<r)(hW:∀ j,j<16*(r+1)→W j=W' j):E16 (enc s r W b) (enc s r W' b') :=
 (((E16.encR hb (r-1) (fun j hj=>hW j (by omega))).boxed s).shifted).added fun i hi=>hW _ (by omega)
theorem E16.decR{back W b b':Nat→UInt8}(r:Nat)(hb:E16 b b'):∀ m,E16 (decR back r W b m) (decR back r W b' m)
 | 0=>((hb.added (E16.refl _)).unshifted).boxed back
 | m+1=>((((E16.decR r hb m).added (E16.refl _)).unmixed).unshifted).boxed back
theorem E16.dec{back W b b':Nat→UInt8}(r:Nat)(hb:E16 b b'):E16 (dec back r W b) (dec back r W b'):=(E16.decR r hb (r-1)).added (E16.refl _)
def C0:List UInt8:=[99,124,119,123,242,107,111,197,48,1,103,43,254,215,171,118,202,130,201,125,250,89,71,240,173,212,162,175,156,164,114,192,183,253,147,38,54,63,247,204,52,165,229,241,113,216,49,21,4,199,35,195,24,150,5,154,7,18,128,226,235,39,178,117,9,131,44,26,27,110,90,160,82,59,214,179,41,227,47,132,83,209,0,237,32,252,177,91,106,203,190,57,74,76,88,207,208,239,170,251,67,77,51,133,69,249,2,127,80,60,159,168,81,163,64,143,146,157,56,245,188,182,218,33,16,255,243,210,205,12,19,236,95,151,68,23,196,167,126,61,100,93,25,115,96,129,79,220,34,42,144,136,70,238,184,20,222,94,11,219,224,50,58,10,73,6,36,92,194,211,172,98,145,149,228,121,231,200,55,109,141,213,78,169,108,86,244,234,101,122,174,8,186,120,37,46,28,166,180,198,232,221,116,31,75,189,139,138,112,62,181,102,72,3,246,14,97,53,87,185,134,193,29,158,225,248,152,17,105,217,142,148,155,30,135,233,206,85,40,223,140,161,137,13,191,230,66,104,65,153,45,15,176,84,187,22]
def C1:List UInt8:=[82,9,106,213,48,54,165,56,191,64,163,158,129,243,215,251,124,227,57,130,155,47,255,135,52,142,67,68,196,222,233,203,84,123,148,50,166,194,35,61,238,76,149,11,66,250,195,78,8,46,161,102,40,217,36,178,118,91,162,73,109,139,209,37,114,248,246,100,134,104,152,22,212,164,92,204,93,101,182,146,108,112,72,80,253,237,185,218,94,21,70,87,167,141,157,132,144,216,171,0,140,188,211,10,247,228,88,5,184,179,69,6,208,44,30,143,202,63,15,2,193,175,189,3,1,19,138,107,58,145,17,65,79,103,220,234,151,242,207,206,240,180,230,115,150,172,116,34,231,173,53,133,226,249,55,232,28,117,223,110,71,241,26,113,29,41,197,137,111,183,98,14,170,24,190,27,252,86,62,75,198,210,121,32,154,219,192,254,120,205,90,244,31,221,168,51,136,7,199,49,177,18,16,89,39,128,236,95,96,81,127,169,25,181,74,13,45,229,122,159,147,201,156,239,160,224,59,77,174,42,245,176,200,235,187,60,131,83,153,97,23,43,4,126,186,119,214,38,225,105,20,99,85,33,12,125]
def ah(i:Nat):UInt8:=C0.getD i 0
def m8(i:Nat):UInt8:=C1.getD i 0
set_option maxRecDepth 100000 in
theorem ro:∀ i:Fin 256,m8 (ah i.1).toNat=UInt8.ofNat i.1:=by decide +kernel
set_option maxRecDepth 100000 in
theorem xa:∀ i:Fin 256,ah (m8 i.1).toNat=UInt8.ofNat i.1:=by decide +kernel
theorem ofNat_toNat(x:UInt8):UInt8.ofNat x.toNat=x:=UInt8.ofNat_toNat
theorem uS:sS ah m8:=fun x=>by
 have:=ro ⟨x.toNat,x.toNat_lt⟩
 rw[ofNat_toNat]at this
 exact this
theorem uT:sS m8 ah:=fun x=>by
 have:=xa ⟨x.toNat,x.toNat_lt⟩
 rw[ofNat_toNat]at this
 exact this
theorem B2(s inv:Nat→UInt8)(M:Nat)(hM:M≤256)(hs:∀ i,i<M→(inv (s i).toNat).toNat=i):∀ j,(∃ m,m<M∧(s m).toNat=j)→bk s M j=inv j:=by
 induction M with
 | zero=>rintro j ⟨m,hm,_⟩;omega
 | succ M ih =>
  rintro j ⟨m,hm,rfl⟩
  show (if (s m).toNat=(s M).toNat then UInt8.ofNat M else bk s M (s m).toNat)=_
  by_cases h:(s m).toNat=(s M).toNat
  ·rw[if_pos h,h]
   have:=hs M (by omega)
   conv=>lhs;rw[← this]
   rw[ofNat_toNat]
  ·rw[if_neg h]
   refine ih (by omega) (fun i hi=>hs i (by omega)) _ ⟨m,?_,rfl⟩
   rcases Nat.lt_or_ge m M with h1 | h1
   ·exact h1
   ·exact absurd (by rw[show m=M by omega]) h
theorem uU(i:Nat)(hi:i<256):(m8 (ah i).toNat).toNat=i:=by
 have h:=ro ⟨i,hi⟩
 simp only at h
 rw[h,UInt8.toNat_ofNat']
 omega
theorem xc(x:UInt8):bk ah 256 x.toNat=m8 x.toNat:=by
 refine B2 ah m8 256 (by omega) (fun i hi=>uU i hi) _ ⟨(m8 x.toNat).toNat,(m8 x.toNat).toNat_lt,?_⟩
 rw[uT x]
theorem sT:sS ah (bk ah 256):=fun x=>by rw[xc];exact uS x
def tmS(a b:UInt8):Nat→UInt8×UInt8×UInt8
 | 0=>(0,a,b)
 | k+1=>(if (tmS a b k).2.2&&&1=1 then (tmS a b k).1^^^(tmS a b k).2.1 else (tmS a b k).1,sl8 (tmS a b k).2.1 1^^^27*sr8 (tmS a b k).2.1 7,sr8 (tmS a b k).2.2 1)
def tmB(a b:UInt8):UInt8:=(tmS a b 8).1
def sqS(b:UInt8):Nat→UInt8×UInt8
 | 0=>(1,b)
 | k+1=>(tmB (sqS b k).1 (tmB (sqS b k).2 (sqS b k).2),tmB (sqS b k).2 (sqS b k).2)
def B3(c:UInt8)(i:Nat):UInt8:=sr8 c i^^^sr8 c ((i+4)%8)^^^sr8 c ((i+5)%8)^^^sr8 c ((i+6)%8)^^^sr8 c ((i+7)%8)^^^sr8 99 i
def uV(c:UInt8):Nat→UInt8
 | 0=>0
 | k+1=>uV c k|||sl8 (B3 c k&&&1) k
def sU(b:UInt8):UInt8:=uV (sqS b 7).1 8
theorem pL{p:UInt8→Prop}(h:∀ i:Fin 256,p (UInt8.ofNat i.1))(x:UInt8):p x:=by
 have:=h ⟨x.toNat,x.toNat_lt⟩
 rwa [UInt8.ofNat_toNat]at this
set_option maxRecDepth 100000 in
theorem B4:∀ i:Fin 256,sl8 (UInt8.ofNat i.1) 1^^^sr8 (UInt8.ofNat i.1) 7*27=dbl (UInt8.ofNat i.1):=by decide +kernel
theorem C2(x:UInt8):sl8 x 1^^^sr8 x 7*27=dbl x:=pL (p:=fun x=>sl8 x 1^^^sr8 x 7*27=dbl x) B4 x
set_option maxRecDepth 100000 in
theorem C3:∀ i:Fin 256,tmB 2 (UInt8.ofNat i.1)=dbl (UInt8.ofNat i.1):=by decide +kernel
set_option maxRecDepth 100000 in
theorem C4:∀ i:Fin 256,tmB 3 (UInt8.ofNat i.1)=xr (UInt8.ofNat i.1) (dbl (UInt8.ofNat i.1)):=by decide +kernel
set_option maxRecDepth 100000 in
theorem B5:∀ i:Fin 256,tmB 14 (UInt8.ofNat i.1)=xr (xr (dbl (UInt8.ofNat i.1)) (dbl (dbl (UInt8.ofNat i.1)))) (dbl (dbl (dbl (UInt8.ofNat i.1)))):=by decide +kernel
set_option maxRecDepth 100000 in
theorem B6:∀ i:Fin 256,tmB 11 (UInt8.ofNat i.1)=xr (xr (UInt8.ofNat i.1) (dbl (UInt8.ofNat i.1))) (dbl (dbl (dbl (UInt8.ofNat i.1)))):=by decide +kernel
set_option maxRecDepth 100000 in
theorem B7:∀ i:Fin 256,tmB 13 (UInt8.ofNat i.1)=xr (xr (UInt8.ofNat i.1) (dbl (dbl (UInt8.ofNat i.1)))) (dbl (dbl (dbl (UInt8.ofNat i.1)))):=by decide +kernel
set_option maxRecDepth 100000 in
theorem C5:∀ i:Fin 256,tmB 9 (UInt8.ofNat i.1)=xr (UInt8.ofNat i.1) (dbl (dbl (dbl (UInt8.ofNat i.1)))):=by decide +kernel
set_option maxRecDepth 100000 in
theorem uW:∀ i:Fin 256,sU (UInt8.ofNat i.1)=ah i.1:=by decide +kernel
theorem g0{p:UInt8→Prop}(h:∀ i:Fin 256,p (UInt8.ofNat i.1))(x:UInt8):p x:=by
 have:=h ⟨x.toNat,x.toNat_lt⟩
 rw[ofNat_toNat]at this
 exact this
theorem tm2(x:UInt8):tmB 2 x=dbl x:=g0 (p:=fun x=>tmB 2 x=dbl x) C3 x
theorem tm3(x:UInt8):tmB 3 x=xr x (dbl x):=g0 (p:=fun x=>tmB 3 x=xr x (dbl x)) C4 x
theorem C6(x:UInt8):tmB 14 x=xr (xr (dbl x) (dbl (dbl x))) (dbl (dbl (dbl x))):=g0 (p:=fun x=>tmB 14 x=xr (xr (dbl x) (dbl (dbl x))) (dbl (dbl (dbl x)))) B5 x
theorem C7(x:UInt8):tmB 11 x=xr (xr x (dbl x)) (dbl (dbl (dbl x))):=g0 (p:=fun x=>tmB 11 x=xr (xr x (dbl x)) (dbl (dbl (dbl x)))) B6 x
theorem C8(x:UInt8):tmB 13 x=xr (xr x (dbl (dbl x))) (dbl (dbl (dbl x))):=g0 (p:=fun x=>tmB 13 x=xr (xr x (dbl (dbl x))) (dbl (dbl (dbl x)))) B7 x
theorem tm9(x:UInt8):tmB 9 x=xr x (dbl (dbl (dbl x))):=g0 (p:=fun x=>tmB 9 x=xr x (dbl (dbl (dbl x)))) C5 x
theorem xd(i:Nat)(hi:i<256):sU (UInt8.ofNat i)=ah i:=uW ⟨i,hi⟩
set_option maxRecDepth 100000 in
theorem B8:∀ i:Fin 256,tmB (UInt8.ofNat i.1) 2=dbl (UInt8.ofNat i.1):=by decide +kernel
theorem C9(x:UInt8):tmB x 2=dbl x:=g0 (p:=fun x=>tmB x 2=dbl x) B8 x
theorem uX(b:Nat→UInt8)(i:Nat):
    xr (xr (xr (tmB 2 (b i)) (tmB 3 (b (i-i%4+(i+1)%4)))) (b (i-i%4+(i+2)%4))) (b (i-i%4+(i+3)%4))=mixed b i:=by
  obtain ⟨c,r,hr,rfl⟩:∃ c r,r<4∧i=4*c+r:=⟨i/4,i%4,by omega,by omega⟩
  rw[eO b c r hr,tm2,tm3,show 4*c+r-(4*c+r)%4=4*c by omega,show (4*c+r+1)%4=(r+1)%4 by omega,show (4*c+r+2)%4=(r+2)%4 by omega,show (4*c+r+3)%4=(r+3)%4 by omega]
  unfold xr
  rcases (by omega:r=0∨r=1∨r=2∨r=3) with rfl | rfl | rfl | rfl <;>
    (simp only[Nat.add_zero,Nat.reduceAdd,Nat.reduceMod,jZ]
     generalize b (4*c)=x0
     generalize b (4*c+1)=x1
     generalize b (4*c+2)=x2
     generalize b (4*c+3)=x3
     simp only[UInt8.xor_assoc,UInt8.xor_comm,iQ,jk,UInt8.xor_self,UInt8.xor_zero])
theorem pM(b:Nat→UInt8)(i:Nat):
    xr (xr (xr (tmB 14 (b i)) (tmB 11 (b (i-i%4+(i+1)%4)))) (tmB 13 (b (i-i%4+(i+2)%4)))) (tmB 9 (b (i-i%4+(i+3)%4)))=unmixed b i:=by
  obtain ⟨c,r,hr,rfl⟩:∃ c r,r<4∧i=4*c+r:=⟨i/4,i%4,by omega,by omega⟩
  have e0:=cV b c 0 (by omega)
  have e1:=cV b c 1 (by omega)
  have e2:=cV b c 2 (by omega)
  have e3:=cV b c 3 (by omega)
  simp only[Nat.add_zero,Nat.reduceAdd,Nat.reduceMod]at e0 e1 e2 e3
  unfold unmixed
  rw[eO _ c r hr,C6,C7,C8,tm9,show 4*c+r-(4*c+r)%4=4*c by omega,show (4*c+r+1)%4=(r+1)%4 by omega,show (4*c+r+2)%4=(r+2)%4 by omega,show (4*c+r+3)%4=(r+3)%4 by omega]
  unfold xr
  rcases (by omega:r=0∨r=1∨r=2∨r=3) with rfl | rfl | rfl | rfl <;>
    (simp only[Nat.add_zero,Nat.reduceAdd,Nat.reduceMod,e0,e1,e2,e3,jZ]
     generalize b (4*c)=x0
     generalize b (4*c+1)=x1
     generalize b (4*c+2)=x2
     generalize b (4*c+3)=x3
     simp only[UInt8.xor_assoc,UInt8.xor_comm,iQ,jk,UInt8.xor_self,UInt8.xor_zero])
def ca(A D:Nat→UInt8):Nat→UInt8:=fun j=>if j<8 then A j else D (j-8)
def aL(A:Nat→UInt8)(t:Nat):Nat→UInt8:=fun j=>if j=7 then xr (A 7) (UInt8.ofNat t) else A j
def bv(e:(Nat→UInt8)→Nat→UInt8)(m:Nat)(A P:Nat→UInt8):Nat→(Nat→UInt8)×(Nat→UInt8)
 | 0=>(A,P)
 | t+1 =>
  let S:=bv e m A P t
  let B:=e (ca S.1 fun j=>S.2 (t*8%m+j))
  (aL B (t+1),cpy (t*8%m) 8 S.2 fun j=>B (8+j))
def unR(d:(Nat→UInt8)→Nat→UInt8)(m N:Nat)(A P:Nat→UInt8):Nat→(Nat→UInt8)×(Nat→UInt8)
 | 0=>(A,P)
 | k+1 =>
  let S:=unR d m N A P k
  let B:=d (ca (aL S.1 (N-k)) fun j=>S.2 ((N-k-1)*8%m+j))
  (B,cpy ((N-k-1)*8%m) 8 S.2 fun j=>B (8+j))
theorem m9(B:Nat→UInt8)(t j:Nat):aL (aL B t) t j=B j:=by
 unfold aL
 by_cases h:j=7
 ·subst h
  rw[if_pos rfl,if_pos rfl]
  show (B 7^^^UInt8.ofNat t)^^^UInt8.ofNat t=B 7
  rw[UInt8.xor_assoc,UInt8.xor_self,UInt8.xor_zero]
 ·rw[if_neg h,if_neg h]
theorem fK{A B:Nat→UInt8}(h:∀ j,j<8→A j=B j)(t j:Nat)(hj:j<8):aL A t j=aL B t j:=by
 unfold aL
 rw[h 7 (by omega),h j hj]
def Am(m:Nat)(S S':(Nat→UInt8)×(Nat→UInt8)):Prop:=(∀ j,j<8→S.1 j=S'.1 j) ∧ ∀ j,j<m→S.2 j=S'.2 j
theorem sV{e d:(Nat→UInt8)→Nat→UInt8}(hd:∀ x y,E16 x y→E16 (d x) (d y))(hde:∀ x,E16 (d (e x)) x)(m q N:Nat)(hm:m=8*q)(hq:0<q)(A P:Nat→UInt8):
  ∀ k,k≤N→Am m (unR d m N (bv e m A P N).1 (bv e m A P N).2 k) (bv e m A P (N-k)):=by
 intro k
 induction k with
 | zero=>intro _;exact ⟨fun _ _=>rfl,fun _ _=>rfl⟩
 | succ k ih =>
  intro hk
  obtain ⟨h1,h2⟩:=ih (by omega)
  obtain ⟨t,ht⟩:∃ t,N-k=t+1:=⟨N-k-1,by omega⟩
  rw[ht]at h1 h2
  obtain ⟨at_,hat⟩:∃ at_,at_=t*8%m:=⟨_,rfl⟩
  have h8:at_+8≤m:=by
   rw[hat,hm,Nat.mul_comm t 8,Nat.mul_mod_mul_left]
   have:=Nat.mod_lt t hq
   omega
  obtain ⟨T,hT⟩:∃ T,T=bv e m A P t:=⟨_,rfl⟩
  obtain ⟨B,hB⟩:∃ B,B=e (ca T.1 fun j=>T.2 (at_+j)):=⟨_,rfl⟩
  have hw:bv e m A P (t+1)=(aL B (t+1),cpy at_ 8 T.2 fun j=>B (8+j)):=by
   rw[hB,hat,hT];rfl
  rw[hw]at h1 h2
  obtain ⟨S,hS⟩:∃ S,S=unR d m N (bv e m A P N).1 (bv e m A P N).2 k:=⟨_,rfl⟩
  rw[← hS]at h1 h2
  have hu:unR d m N (bv e m A P N).1 (bv e m A P N).2 (k+1)=(d (ca (aL S.1 (t+1)) fun j=>S.2 (at_+j)),cpy at_ 8 S.2 fun j=>d (ca (aL S.1 (t+1)) fun j=>S.2 (at_+j)) (8+j)):=by
   have e1:N-k-1=t:=by omega
   show (d (ca (aL (unR d m N (bv e m A P N).1 (bv e m A P N).2 k).1 (N-k)) fun j=>(unR d m N (bv e m A P N).1 (bv e m A P N).2 k).2 ((N-k-1)*8%m+j)),cpy ((N-k-1)*8%m) 8 (unR d m N (bv e m A P N).1 (bv e m A P N).2 k).2 fun j=>d (ca (aL (unR d m N (bv e m A P N).1 (bv e m A P N).2 k).1 (N-k)) fun j=>(unR d m N (bv e m A P N).1 (bv e m A P N).2 k).2 ((N-k-1)*8%m+j)) (8+j))=_
   rw[← hS,e1,ht,← hat]
  have harg:E16 (ca (aL S.1 (t+1)) fun j=>S.2 (at_+j)) B:=fun j hj=>by
   unfold ca
   by_cases h:j<8
   ·rw[if_pos h,fK h1 (t+1) j h]
    exact m9 B (t+1) j
   ·rw[if_neg h]
    show S.2 (at_+(j-8))=B j
    rw[h2 (at_+(j-8)) (by omega)]
    show (if at_≤at_+(j-8)∧at_+(j-8)<at_+8 then B (8+(at_+(j-8)-at_)) else T.2 (at_+(j-8)))=B j
    rw[if_pos (by omega),show 8+(at_+(j-8)-at_)=j by omega]
  have hres:E16 (d (ca (aL S.1 (t+1)) fun j=>S.2 (at_+j))) (ca T.1 fun j=>T.2 (at_+j)):=by
   refine (hd _ _ harg).trans ?_
   rw[hB]
   exact hde _
  rw[show N-(k+1)=t by omega,hu,← hT]
  refine ⟨fun j hj => ?_,fun j hj => ?_⟩
  ·refine (hres j (by omega)).trans ?_
   exact if_pos hj
  ·show (if at_≤j∧j<at_+8 then d (ca (aL S.1 (t+1)) fun j=>S.2 (at_+j)) (8+(j-at_)) else S.2 j)=T.2 j
   by_cases h:at_≤j∧j<at_+8
   ·rw[if_pos h,hres (8+(j-at_)) (by omega)]
    show (if 8+(j-at_)<8 then T.1 (8+(j-at_)) else T.2 (at_+(8+(j-at_)-8)))=T.2 j
    rw[if_neg (by omega),show at_+(8+(j-at_)-8)=j by omega]
   ·rw[if_neg h,h2 j hj]
    show (if at_≤j∧j<at_+8 then B (8+(j-at_)) else T.2 j)=T.2 j
    rw[if_neg h]
theorem oA{e d:(Nat→UInt8)→Nat→UInt8}(hd:∀ x y,E16 x y→E16 (d x) (d y))(hde:∀ x,E16 (d (e x)) x)(m N:Nat)(hm:m%8=0)(h0:0<m)(A P:Nat→UInt8):
  (∀ j,j<8→(unR d m N (bv e m A P N).1 (bv e m A P N).2 N).1 j=A j) ∧ ∀ j,j<m→(unR d m N (bv e m A P N).1 (bv e m A P N).2 N).2 j=P j:=by
 have h:=sV hd hde m (m/8) N (by omega) (by omega) A P N (Nat.le_refl _)
 rw[Nat.sub_self]at h
 exact h
def aeW(l:List UInt8):Nat→UInt8:=ks ah (l.length/4) (cutF l 0) (3*(l.length/4)+28)
def aeR(l:List UInt8):Nat:=l.length/4+6
theorem sW(l:List UInt8)(h:0<l.length/4):lF ah (l.length/4) (cutF l 0) (aeW l):=uQ ah _ _ h
def enM(s:Nat→UInt8)(k:Nat→Nat→UInt8)(b:Nat→UInt8):Nat→Nat→UInt8
 | 0=>added b (k 0)
 | i+1=>added (mixed (shifted (boxed s (enM s k b i)))) (k (i+1))
def An(k:Nat→Nat→UInt8)(r:Nat)(b:Nat→UInt8):Nat→UInt8:=added (shifted (boxed ah (enM ah k b (r-1)))) (k r)
def deM(k:Nat→Nat→UInt8)(r:Nat)(b:Nat→UInt8):Nat→Nat→UInt8
 | 0=>boxed (bk ah 256) (unshifted (added b (k r)))
 | i+1=>boxed (bk ah 256) (unshifted (unmixed (added (deM k r b i) (k (r-1-i)))))
def Ao(k:Nat→Nat→UInt8)(r:Nat)(b:Nat→UInt8):Nat→UInt8:=added (deM k r b (r-1)) (k 0)
def aeE(l:List UInt8)(b:Nat→UInt8):Nat→UInt8:=enc ah (aeR l) (aeW l) b
def aeD(l:List UInt8)(b:Nat→UInt8):Nat→UInt8:=dec (bk ah 256) (aeR l) (aeW l) b
theorem uY{s:Nat→UInt8}{k:Nat→Nat→UInt8}{W b:Nat→UInt8}{r:Nat}(h:∀ i,i≤r→E16 (k i) (rk W i)):∀ i,i≤r→E16 (enM s k b i) (encR s W b i)
 | 0,h0=>(E16.refl b).added (h 0 h0)
 | i+1,hi=>(((uY h i (by omega)).boxed s).shifted.mixed).added (h (i+1) hi)
theorem xe{k:Nat→Nat→UInt8}{W b:Nat→UInt8}{r:Nat}(h:∀ i,i≤r→E16 (k i) (rk W i)):E16 (An k r b) (enc ah r W b) :=
 (((uY h (r-1) (by omega)).boxed ah).shifted).added (h r (Nat.le_refl _))
theorem uZ{k:Nat→Nat→UInt8}{W b:Nat→UInt8}{r:Nat}(h:∀ i,i≤r→E16 (k i) (rk W i)):∀ i,E16 (deM k r b i) (decR (bk ah 256) r W b i)
 | 0=>(((E16.refl b).added (h r (Nat.le_refl _))).unshifted).boxed _
 | i+1=>(((((uZ h i).added (h (r-1-i) (by omega))).unmixed).unshifted)).boxed _
theorem xf{k:Nat→Nat→UInt8}{W b:Nat→UInt8}{r:Nat}(h:∀ i,i≤r→E16 (k i) (rk W i)):E16 (Ao k r b) (dec (bk ah 256) r W b) :=
 (uZ h (r-1)).added (h 0 (by omega))
theorem rp(l:List UInt8){b b':Nat→UInt8}(hl:0<aeR l)(h:E16 b b'):E16 (aeE l b) (aeE l b'):=E16.enc h _ hl (fun _ _=>rfl)
theorem j0(l:List UInt8){b b':Nat→UInt8}(h:E16 b b'):E16 (aeD l b) (aeD l b'):=E16.dec _ h
theorem xg(l:List UInt8)(b:Nat→UInt8):E16 (aeD l (aeE l b)) b:=w9 sT _ (by unfold aeR;omega) _ _
end
section
variable{P:Program}{o:Oper}{n:Sz}{l:aS}{x y:Operand}{t t2:TypeId}{u v:UInt8}
theorem Vl.ub(z:UInt8)(ho:o.op=.binOp .mul t x y t2:=by exact rfl)(hx:vo l x=some (.int .u8 (u.toNat:Int)):=by exact rfl)(hy:vo l y=some (.int .u8 (v.toNat:Int)):=by exact rfl)(hz:u*v=z:=by exact rfl):Vl P n l o (.int .u8 (z.toNat:Int)):=fun _ _ hF =>
 i9 rfl ho (hF.vo hx) (hF.vo hy) (by subst hz;exact (UInt8.toNat_mul u v).symm)
end
def jP(m:Nat)(f:Nat→UInt8):Nat→UInt8:=fun j=>if (j+j%4*12)%16<m then unshifted f j else 0
theorem sX{m:Nat}(hm:m<16)(f:Nat→UInt8)(j:Nat)(hj:j<16):jP (m+1) f j=stF (jP m f) ((m+m%4*4)%16) (f m) j:=by
 unfold jP stF
 by_cases h:j=(m+m%4*4)%16
 ·rw[if_pos h,if_pos (by omega)]
  show f ((j+j%4*12)%16)=f m
  rw[show (j+j%4*12)%16=m by omega]
 ·rw[if_neg h]
  show _=if (j+j%4*12)%16<m then unshifted f j else 0
  by_cases h2:(j+j%4*12)%16<m
  ·rw[if_pos h2,if_pos (by omega)]
  ·rw[if_neg h2,if_neg (by omega)]
theorem u7(f:Nat→UInt8)(j:Nat)(_:j<16):unshifted f j=jP 16 f j:=(if_pos (by omega)).symm
theorem rr(x:UInt8):Pure Tryz.prog 98 #[(.int .u8 x.toNat)] (fun _=>True) (.int .u8 ((((dbl x).toNat):Nat):Int)):=by
 refine pU Tryz.func98 Tryz.ntmps98 ?_
 intro w0 hH hR
 refine zr (zv .mv 0 ?_)
 refine zn (zr (zv .mv 1 ?_))
 refine zv (.lb 1 (u:=x)) 1 ?_
 refine zv .mv 2 ?_
 refine zv (.rb 7 (u:=x)) 1 ?_
 refine zv (.ub ((sr8 x 7)*(27:UInt8)) (u:=(sr8 x 7)) (v:=(27:UInt8))) 1 ?_
 refine zv (.xb (dbl x) (u:=(sl8 x 1)) (v:=((sr8 x 7)*(27:UInt8))) (hz:=C2 x)) 3 ?_
 refine zv .mv 1 ?_
 refine zn (ar (aW 0 rfl rfl ?_))
 exact zE hH
theorem gA(f k:Nat→UInt8):Pure Tryz.prog 99 #[((ac 16).val f),((ac 16).val k)] (fun _=>True) ((ac 16).val (added f k)):=by
 refine pU Tryz.func99 Tryz.ntmps99 ?_
 intro w0 hH hR
 refine zr (zB hH (ac 16) f 1 ?_)
 clear hH
 intro g1 w hH
 refine zB hH (ac 16) k 2 ?_
 clear hH
 intro g2 w hH
 refine zA hH (ac 16) (fun _=>0) 0 ?_
 clear hH
 intro g3 w hH
 refine zn (aj (zr (zv .mv 0 ?_)))
 refine zn (ai ?_)
 have he4:(ac 16).enc (upF 0 (added f k) f)=(ac 16).enc f:=aB (fun j _=>by rw[bw])
 replace hH:HH w0 [] [[bl g1 51 ((ac 16).enc (upF 0 (added f k) f))],[bl g2 51 ((ac 16).enc k)],[bl g3 51 ((ac 16).enc (fun _=>0))]] w:=by rw[he4];exact hH
 refine zL1 (fun (i:Nat)=>[(6,(.int .i64 i)),(4,(.pointer (some ⟨g3,0,none⟩))),(3,(.pointer (some ⟨g2,0,none⟩))),(2,(.pointer (some ⟨g1,0,none⟩)))]) (fun i w=>HH w0 [] [[bl g1 51 ((ac 16).enc (upF i (added f k) f))],[bl g2 51 ((ac 16).enc k)],[bl g3 51 ((ac 16).enc (fun _=>0))]] w∧(i≤16)) (fun i=>16-i) 0 ⟨hH,(Nat.zero_le _)⟩ ?_
 clear hH
 rintro i w ⟨hH,hi⟩
 refine zr (zv (.lt (i<16)) 0 ?_)
 refine zn (aj ?_)
 refine zP (fun hc5 => ?_) (fun hc5 => ?_)
 refine aA (ag (aj (ai (zr (zv .mv 1 ?_)))))
 refine zv .mv 1 ?_
 refine zn (br mixedOrders (by kernel_rfl) ?_)
 replace hH:=hH.drew
 refine rv 0 .mv 0 ?_
 have hi6:i<16:=by omega
 refine rv 1 (.ia 1 16 i (hi:=hi6)) 0 ?_
 refine rld 2 (hH.q 0 rfl) (.ld af ((upF i (added f k) f) i) (fun _ hS=>((ae hS).elt hi6))) 1 ?_
 refine rv 3 .mv 4 ?_
 have hi7:i<16:=by omega
 refine rv 4 (.ia 1 16 i (hi:=hi7)) 1 ?_
 refine rld 5 (hH.q 1 rfl) (.ld af (k i) (fun _ hS=>((ae hS).elt hi7))) 1 ?_
 refine rv 6 (.xb (((upF i (added f k) f) i)^^^(k i)) (u:=((upF i (added f k) f) i)) (v:=(k i))) 3 ?_
 have hi8:i<16:=by omega
 refine rv 7 (.ia 1 16 i (hi:=hi8)) 2 ?_
 refine ao 8 ?_
 refine re0 8 0 hH rfl (.st af (((upF i (added f k) f) i)^^^(k i)) (aU (S:=sBy) (C:=(ac 16)) rfl hi8) (aQ (upF i (added f k) f) (((upF i (added f k) f) i)^^^(k i)) hi8)) trivial (pgo [] (pgo [] (.nil _ []))) ?_
 clear hH
 rintro _ _ w rfl hH
 refine ⟨an,bQ (by kernel_rfl) ?_⟩
 refine aN (ag (aC (zv (.add ((i+1:Nat):Int)) 7 ?_)))
 refine zv .mv 1 ?_
 refine aD ?_
 have he9:(ac 16).enc (upF (i+1) (added f k) f)=(ac 16).enc (stF (upF i (added f k) f) i (((upF i (added f k) f) i)^^^(k i))):=aB (fun j _=>(congrFun (bi i (added f k) f (by rw[gP];rfl)) j).symm)
 replace hH:HH w0 [] [[bl g1 51 ((ac 16).enc (upF (i+1) (added f k) f))],[bl g2 51 ((ac 16).enc k)],[bl g3 51 ((ac 16).enc (fun _=>0))]] w:=by rw[he9];exact hH
 exact zR1 (i+1) ⟨hH,(by omega)⟩ (by omega)
 refine aJ (ak (ak (aR (ag ?_))))
 obtain rfl:i=16:=by omega
 have he10:(ac 16).enc (added f k)=(ac 16).enc (upF 16 (added f k) f):=aB (fun j hj=>(bz _ _ hj).symm)
 replace hH:HH w0 [] [[bl g1 51 ((ac 16).enc (added f k))],[bl g2 51 ((ac 16).enc k)],[bl g3 51 ((ac 16).enc (fun _=>0))]] w:=by rw[he10];exact hH
 refine zr (zs (hH.q 0 rfl) (.l0 (ac 16) (added f k)) 27 ?_)
 refine zW 2 hH rfl (added f k) ?_
 clear hH
 intro w hH
 refine zn (ar (aI 1 (hH.blk 2 rfl) rfl rfl (by kernel_rfl) (Cod.size _ _) (by kernel_rfl) ?_))
 exact zE hH
theorem rt(f:Nat→UInt8):Pure Tryz.prog 102 #[((ac 16).val f)] (fun w=>w.heap[0]?=some (.cells ((ac 256).enc ah) 103 (0,0))) ((ac 16).val (boxed ah f)):=by
 refine pU Tryz.func102 Tryz.ntmps102 ?_
 intro w0 hH hR
 refine zr (zB hH (ac 16) f 1 ?_)
 clear hH
 intro g1 w hH
 refine zA hH (ac 16) (fun _=>0) 0 ?_
 clear hH
 intro g2 w hH
 refine zn (aj (zr (zs (hH.q 0 rfl) (.l0 (ac 16) f) 0 ?_)))
 refine zv .mv 0 ?_
 refine zn (ai ?_)
 have he3:(ac 16).enc (upF 0 (boxed ah f) f)=(ac 16).enc f:=aB (fun j _=>by rw[bw])
 replace hH:HH w0 [] [[bl g1 51 ((ac 16).enc (upF 0 (boxed ah f) f))],[bl g2 51 ((ac 16).enc (fun _=>0))]] w:=by rw[he3];exact hH
 refine zL1 (fun (i:Nat)=>[(6,(.int .i64 i)),(5,((ac 16).val f)),(2,(.pointer (some ⟨g2,0,none⟩))),(1,(.pointer (some ⟨g1,0,none⟩)))]) (fun i w=>HH w0 [] [[bl g1 51 ((ac 16).enc (upF i (boxed ah f) f))],[bl g2 51 ((ac 16).enc (fun _=>0))]] w∧(i≤16)) (fun i=>16-i) 0 ⟨hH,(Nat.zero_le _)⟩ ?_
 clear hH
 rintro i w ⟨hH,hi⟩
 refine zr (zv (.lt (i<16)) 0 ?_)
 refine zn (aj ?_)
 refine zP (fun hc4 => ?_) (fun hc4 => ?_)
 refine aA (ag (aj (ai (zr (zv .mv 1 ?_)))))
 have hi5:i<16:=by omega
 refine zv (v:=(.int .u8 ((((f i).toNat):Nat):Int))) (fun _ _ hF=>e8 (S:=sBy) (e:=5) (n:=16) (i:=i) (f:=f) rfl (by kernel_rfl) (by kernel_rfl) (hF.ev 2 rfl) (hF.ev 1 rfl) rfl hi5) 0 ?_
 refine zv .mv 2 ?_
 refine zv .mv 2 ?_
 refine zn (aC (zv .mv 2 ?_))
 refine zv .mv 2 ?_
 have hi6:(f i).toNat<256:=UInt8.toNat_lt _
 refine zv (.ia 1 256 ((f i).toNat) (hi:=hi6)) 1 ?_
 refine zs (hH.ob hR) (.ld af (ah ((f i).toNat)) (fun _ hS=>((ae hS).elt hi6))) 1 ?_
 have hi7:i<16:=by omega
 refine zv (.ia 1 16 i (hi:=hi7)) 2 ?_
 refine ze0 0 hH rfl (.st af (ah ((f i).toNat)) (aU (S:=sBy) (C:=(ac 16)) rfl hi7) (aQ (upF i (boxed ah f) f) (ah ((f i).toNat)) hi7)) trivial ?_
 clear hH
 rintro _ _ w rfl hH
 refine aD (aN (ag (aC (zv (.add ((i+1:Nat):Int)) 7 ?_))))
 refine zv .mv 1 ?_
 refine aD ?_
 have he8:(ac 16).enc (upF (i+1) (boxed ah f) f)=(ac 16).enc (stF (upF i (boxed ah f) f) i (ah ((f i).toNat))):=aB (fun j _=>(congrFun (bi i (boxed ah f) f (rfl)) j).symm)
 replace hH:HH w0 [] [[bl g1 51 ((ac 16).enc (upF (i+1) (boxed ah f) f))],[bl g2 51 ((ac 16).enc (fun _=>0))]] w:=by rw[he8];exact hH
 exact zR1 (i+1) ⟨hH,(by omega)⟩ (by omega)
 refine aJ (ak (ak (aR (ag ?_))))
 obtain rfl:i=16:=by omega
 have he9:(ac 16).enc (boxed ah f)=(ac 16).enc (upF 16 (boxed ah f) f):=aB (fun j hj=>(bz _ _ hj).symm)
 replace hH:HH w0 [] [[bl g1 51 ((ac 16).enc (boxed ah f))],[bl g2 51 ((ac 16).enc (fun _=>0))]] w:=by rw[he9];exact hH
 refine zr (zs (hH.q 0 rfl) (.l0 (ac 16) (boxed ah f)) 23 ?_)
 refine zW 1 hH rfl (boxed ah f) ?_
 clear hH
 intro w hH
 refine zn (ar (aI 1 (hH.blk 1 rfl) rfl rfl (by kernel_rfl) (Cod.size _ _) (by kernel_rfl) ?_))
 exact zE hH
theorem mj(g:Nat)(s f:Nat→UInt8):Pure Tryz.prog 129 #[(.pointer (some ⟨g,0,none⟩)),((ac 16).val f)] (fun w=>w.heap[g]?=some (.cells ((ac 256).enc s) 103 (0,0))) ((ac 16).val (boxed s f)):=by
 refine pU Tryz.func129 Tryz.ntmps129 ?_
 intro w0 hH hR
 refine zr (zB hH (ac 16) f 2 ?_)
 clear hH
 intro g1 w hH
 refine zA hH (ac 16) (fun _=>0) 0 ?_
 clear hH
 intro g2 w hH
 refine zn (aj (zr (zs (hH.q 0 rfl) (.l0 (ac 16) f) 0 ?_)))
 refine zv .mv 0 ?_
 refine zn (ai ?_)
 have he3:(ac 16).enc (upF 0 (boxed s f) f)=(ac 16).enc f:=aB (fun j _=>by rw[bw])
 replace hH:HH w0 [] [[bl g1 51 ((ac 16).enc (upF 0 (boxed s f) f))],[bl g2 51 ((ac 16).enc (fun _=>0))]] w:=by rw[he3];exact hH
 refine zL1 (fun (i:Nat)=>[(8,(.int .i64 i)),(7,((ac 16).val f)),(4,(.pointer (some ⟨g2,0,none⟩))),(3,(.pointer (some ⟨g1,0,none⟩))),(0,(.pointer (some ⟨g,0,none⟩)))]) (fun i w=>HH w0 [] [[bl g1 51 ((ac 16).enc (upF i (boxed s f) f))],[bl g2 51 ((ac 16).enc (fun _=>0))]] w∧(i≤16)) (fun i=>16-i) 0 ⟨hH,(Nat.zero_le _)⟩ ?_
 clear hH
 rintro i w ⟨hH,hi⟩
 refine zr (zv (.lt (i<16)) 0 ?_)
 refine zn (aj ?_)
 refine zP (fun hc4 => ?_) (fun hc4 => ?_)
 refine aA (ag (aj (ai (zr (zv .mv 1 ?_)))))
 have hi5:i<16:=by omega
 refine zv (v:=(.int .u8 ((((f i).toNat):Nat):Int))) (fun _ _ hF=>e8 (S:=sBy) (e:=5) (n:=16) (i:=i) (f:=f) rfl (by kernel_rfl) (by kernel_rfl) (hF.ev 2 rfl) (hF.ev 1 rfl) rfl hi5) 0 ?_
 refine zv .mv 2 ?_
 refine zv .mv 2 ?_
 refine zn (aC (zv .mv 2 ?_))
 refine zv .mv 0 ?_
 refine zv .mv 4 ?_
 refine zv .nc 2 ?_
 have hi6:(f i).toNat<256:=UInt8.toNat_lt _
 refine zv (.ia 1 256 ((f i).toNat) (hi:=hi6)) 3 ?_
 refine zs (hH.ob hR) (.ld af (s ((f i).toNat)) (fun _ hS=>((ae hS).elt hi6))) 1 ?_
 have hi7:i<16:=by omega
 refine zv (.ia 1 16 i (hi:=hi7)) 2 ?_
 refine ze0 0 hH rfl (.st af (s ((f i).toNat)) (aU (S:=sBy) (C:=(ac 16)) rfl hi7) (aQ (upF i (boxed s f) f) (s ((f i).toNat)) hi7)) trivial ?_
 clear hH
 rintro _ _ w rfl hH
 refine aD (aN (ag (aC (zv (.add ((i+1:Nat):Int)) 7 ?_))))
 refine zv .mv 1 ?_
 refine aD ?_
 have he8:(ac 16).enc (upF (i+1) (boxed s f) f)=(ac 16).enc (stF (upF i (boxed s f) f) i (s ((f i).toNat))):=aB (fun j _=>(congrFun (bi i (boxed s f) f (rfl)) j).symm)
 replace hH:HH w0 [] [[bl g1 51 ((ac 16).enc (upF (i+1) (boxed s f) f))],[bl g2 51 ((ac 16).enc (fun _=>0))]] w:=by rw[he8];exact hH
 exact zR1 (i+1) ⟨hH,(by omega)⟩ (by omega)
 refine aJ (ak (ak (aR (ag ?_))))
 obtain rfl:i=16:=by omega
 have he9:(ac 16).enc (boxed s f)=(ac 16).enc (upF 16 (boxed s f) f):=aB (fun j hj=>(bz _ _ hj).symm)
 replace hH:HH w0 [] [[bl g1 51 ((ac 16).enc (boxed s f))],[bl g2 51 ((ac 16).enc (fun _=>0))]] w:=by rw[he9];exact hH
 refine zr (zs (hH.q 0 rfl) (.l0 (ac 16) (boxed s f)) 55 ?_)
 refine zW 1 hH rfl (boxed s f) ?_
 clear hH
 intro w hH
 refine zn (ar (aI 1 (hH.blk 1 rfl) rfl rfl (by kernel_rfl) (Cod.size _ _) (by kernel_rfl) ?_))
 exact zE hH
theorem ml(f:Nat→UInt8):Pure Tryz.prog 101 #[((ac 16).val f)] (fun _=>True) ((ac 16).val (shifted f)):=by
 refine pU Tryz.func101 Tryz.ntmps101 ?_
 intro w0 hH hR
 refine zr (zB hH (ac 16) f 1 ?_)
 clear hH
 intro g1 w hH
 refine zA hH (ac 16) (fun _=>0) 0 ?_
 clear hH
 intro g2 w hH
 refine zn (zr (zA hH (ac 16) (fun _=>0) 0 ?_))
 clear hH
 intro g3 w hH
 refine zn (aj (zr (zv .mv 0 ?_)))
 refine zn (ai ?_)
 have he4:(ac 16).enc (upF 0 (shifted f) (fun _=>0))=(ac 16).enc (fun _=>0):=aB (fun j _=>by rw[bw])
 replace hH:HH w0 [] [[bl g1 51 ((ac 16).enc f)],[bl g2 51 ((ac 16).enc (fun _=>0))],[bl g3 51 ((ac 16).enc (upF 0 (shifted f) (fun _=>0)))]] w:=by rw[he4];exact hH
 refine zL1 (fun (i:Nat)=>[(5,(.int .i64 i)),(3,(.pointer (some ⟨g3,0,none⟩))),(2,(.pointer (some ⟨g2,0,none⟩))),(1,(.pointer (some ⟨g1,0,none⟩)))]) (fun i w=>HH w0 [] [[bl g1 51 ((ac 16).enc f)],[bl g2 51 ((ac 16).enc (fun _=>0))],[bl g3 51 ((ac 16).enc (upF i (shifted f) (fun _=>0)))]] w∧(i≤16)) (fun i=>16-i) 0 ⟨hH,(Nat.zero_le _)⟩ ?_
 clear hH
 rintro i w ⟨hH,hi⟩
 refine zr (zv (.lt (i<16)) 0 ?_)
 refine zn (aj ?_)
 refine zP (fun hc5 => ?_) (fun hc5 => ?_)
 refine aA (ag (aj (ai (zr (zv .mv 1 ?_)))))
 refine zv .mv 1 ?_
 refine zn (aC (zv .mv 0 ?_))
 refine zv .mv 0 ?_
 refine zv .mv 4 ?_
 refine zv (v:=(.int .i64 (((i%4):Nat):Int))) (fun _ _ hF=>bm (z:=((i%4:Nat):Int)) rfl (hF.ev 0 rfl) rfl (by omega) bW) 1 ?_
 refine zv (.mul (((i%4)*4:Nat):Int)) 1 ?_
 refine zv (.add ((i+((i%4)*4):Nat):Int)) 3 ?_
 refine zv (v:=(.int .i64 ((((i+((i%4)*4))%16):Nat):Int))) (fun _ _ hF=>bm (z:=(((i+((i%4)*4))%16:Nat):Int)) rfl (hF.ev 0 rfl) rfl (by omega) bW) 1 ?_
 have hi6:(i+((i%4)*4))%16<16:=by omega
 refine zv (.ia 1 16 ((i+((i%4)*4))%16) (hi:=hi6)) 1 ?_
 refine zs (hH.q 0 rfl) (.ld af (f ((i+((i%4)*4))%16)) (fun _ hS=>((ae hS).elt hi6))) 1 ?_
 have hi7:i<16:=by omega
 refine zv (.ia 1 16 i (hi:=hi7)) 2 ?_
 refine ze0 2 hH rfl (.st af (f ((i+((i%4)*4))%16)) (aU (S:=sBy) (C:=(ac 16)) rfl hi7) (aQ (upF i (shifted f) (fun _=>0)) (f ((i+((i%4)*4))%16)) hi7)) trivial ?_
 clear hH
 rintro _ _ w rfl hH
 refine aD (aN (ag (aC (zv (.add ((i+1:Nat):Int)) 7 ?_))))
 refine zv .mv 1 ?_
 refine aD ?_
 have he8:(ac 16).enc (upF (i+1) (shifted f) (fun _=>0))=(ac 16).enc (stF (upF i (shifted f) (fun _=>0)) i (f ((i+((i%4)*4))%16))):=aB (fun j _=>(congrFun (bi i (shifted f) (fun _=>0) (rfl)) j).symm)
 replace hH:HH w0 [] [[bl g1 51 ((ac 16).enc f)],[bl g2 51 ((ac 16).enc (fun _=>0))],[bl g3 51 ((ac 16).enc (upF (i+1) (shifted f) (fun _=>0)))]] w:=by rw[he8];exact hH
 exact zR1 (i+1) ⟨hH,(by omega)⟩ (by omega)
 refine aJ (ak (ak (aR (ag ?_))))
 obtain rfl:i=16:=by omega
 have he9:(ac 16).enc (shifted f)=(ac 16).enc (upF 16 (shifted f) (fun _=>0)):=aB (fun j hj=>(bz _ _ hj).symm)
 replace hH:HH w0 [] [[bl g1 51 ((ac 16).enc f)],[bl g2 51 ((ac 16).enc (fun _=>0))],[bl g3 51 ((ac 16).enc (shifted f))]] w:=by rw[he9];exact hH
 refine zr (zs (hH.q 2 rfl) (.l0 (ac 16) (shifted f)) 23 ?_)
 refine zW 1 hH rfl (shifted f) ?_
 clear hH
 intro w hH
 refine zn (ar (aI 1 (hH.blk 1 rfl) rfl rfl (by kernel_rfl) (Cod.size _ _) (by kernel_rfl) ?_))
 exact zE hH
theorem jG(f:Nat→UInt8):Pure Tryz.prog 130 #[((ac 16).val f)] (fun _=>True) ((ac 16).val (unshifted f)):=by
 refine pU Tryz.func130 Tryz.ntmps130 ?_
 intro w0 hH hR
 refine zr (zB hH (ac 16) f 1 ?_)
 clear hH
 intro g1 w hH
 refine zA hH (ac 16) (fun _=>0) 0 ?_
 clear hH
 intro g2 w hH
 refine zn (zr (zA hH (ac 16) (fun _=>0) 0 ?_))
 clear hH
 intro g3 w hH
 refine zn (aj (zr (zv .mv 0 ?_)))
 refine zn (ai ?_)
 have he4:(ac 16).enc (jP 0 f)=(ac 16).enc (fun _=>0):=aB (fun j _=>if_neg (Nat.not_lt_zero _))
 replace hH:HH w0 [] [[bl g1 51 ((ac 16).enc f)],[bl g2 51 ((ac 16).enc (fun _=>0))],[bl g3 51 ((ac 16).enc (jP 0 f))]] w:=by rw[he4];exact hH
 refine zL1 (fun (i:Nat)=>[(5,(.int .i64 i)),(3,(.pointer (some ⟨g3,0,none⟩))),(2,(.pointer (some ⟨g2,0,none⟩))),(1,(.pointer (some ⟨g1,0,none⟩)))]) (fun i w=>HH w0 [] [[bl g1 51 ((ac 16).enc f)],[bl g2 51 ((ac 16).enc (fun _=>0))],[bl g3 51 ((ac 16).enc (jP i f))]] w∧(i≤16)) (fun i=>16-i) 0 ⟨hH,(Nat.zero_le _)⟩ ?_
 clear hH
 rintro i w ⟨hH,hi⟩
 refine zr (zv (.lt (i<16)) 0 ?_)
 refine zn (aj ?_)
 refine zP (fun hc5 => ?_) (fun hc5 => ?_)
 refine aA (ag (aj (ai (zr (zv .mv 1 ?_)))))
 refine zv .mv 1 ?_
 refine zn (aC (zv .mv 0 ?_))
 refine zv .mv 0 ?_
 refine zv (v:=(.int .i64 (((i%4):Nat):Int))) (fun _ _ hF=>bm (z:=((i%4:Nat):Int)) rfl (hF.ev 0 rfl) rfl (by omega) bW) 1 ?_
 refine zv (.mul (((i%4)*4:Nat):Int)) 1 ?_
 refine zv (.add ((i+((i%4)*4):Nat):Int)) 3 ?_
 refine zv (v:=(.int .i64 ((((i+((i%4)*4))%16):Nat):Int))) (fun _ _ hF=>bm (z:=(((i+((i%4)*4))%16:Nat):Int)) rfl (hF.ev 0 rfl) rfl (by omega) bW) 1 ?_
 refine zv .mv 2 ?_
 have hi6:i<16:=by omega
 refine zv (.ia 1 16 i (hi:=hi6)) 1 ?_
 refine zs (hH.q 0 rfl) (.ld af (f i) (fun _ hS=>((ae hS).elt hi6))) 1 ?_
 have hi7:(i+((i%4)*4))%16<16:=by omega
 refine zv (.ia 1 16 ((i+((i%4)*4))%16) (hi:=hi7)) 2 ?_
 refine ze0 2 hH rfl (.st af (f i) (aU (S:=sBy) (C:=(ac 16)) rfl hi7) (aQ (jP i f) (f i) hi7)) trivial ?_
 clear hH
 rintro _ _ w rfl hH
 refine aD (aN (ag (aC (zv (.add ((i+1:Nat):Int)) 7 ?_))))
 refine zv .mv 1 ?_
 refine aD ?_
 have he8:(ac 16).enc (jP (i+1) f)=(ac 16).enc (stF (jP i f) ((i+((i%4)*4))%16) (f i)):=aB (sX (by omega) f)
 replace hH:HH w0 [] [[bl g1 51 ((ac 16).enc f)],[bl g2 51 ((ac 16).enc (fun _=>0))],[bl g3 51 ((ac 16).enc (jP (i+1) f))]] w:=by rw[he8];exact hH
 exact zR1 (i+1) ⟨hH,(by omega)⟩ (by omega)
 refine aJ (ak (ak (aR (ag ?_))))
 obtain rfl:i=16:=by omega
 have he9:(ac 16).enc (unshifted f)=(ac 16).enc (jP 16 f):=aB (u7 f)
 replace hH:HH w0 [] [[bl g1 51 ((ac 16).enc f)],[bl g2 51 ((ac 16).enc (fun _=>0))],[bl g3 51 ((ac 16).enc (unshifted f))]] w:=by rw[he9];exact hH
 refine zr (zs (hH.q 2 rfl) (.l0 (ac 16) (unshifted f)) 23 ?_)
 refine zW 1 hH rfl (unshifted f) ?_
 clear hH
 intro w hH
 refine zn (ar (aI 1 (hH.blk 1 rfl) rfl rfl (by kernel_rfl) (Cod.size _ _) (by kernel_rfl) ?_))
 exact zE hH
theorem ru(f:Nat→UInt8):Pure Tryz.prog 100 #[((ac 16).val f)] (fun _=>True) ((ac 16).val (mixed f)):=by
 refine pU Tryz.func100 Tryz.ntmps100 ?_
 intro w0 hH hR
 refine zr (zB hH (ac 16) f 1 ?_)
 clear hH
 intro g1 w hH
 refine zA hH (ac 16) (fun _=>0) 0 ?_
 clear hH
 intro g2 w hH
 refine zn (zr (zA hH (ac 16) (fun _=>0) 0 ?_))
 clear hH
 intro g3 w hH
 refine zn (aj (zr (zv .mv 0 ?_)))
 refine zn (ai ?_)
 have he4:(ac 16).enc (upF 0 (mixed f) (fun _=>0))=(ac 16).enc (fun _=>0):=aB (fun j _=>by rw[bw])
 replace hH:HH w0 [] [[bl g1 51 ((ac 16).enc f)],[bl g2 51 ((ac 16).enc (fun _=>0))],[bl g3 51 ((ac 16).enc (upF 0 (mixed f) (fun _=>0)))]] w:=by rw[he4];exact hH
 refine zL1 (fun (i:Nat)=>[(7,(.int .i64 i)),(3,(.pointer (some ⟨g3,0,none⟩))),(2,(.pointer (some ⟨g2,0,none⟩))),(1,(.pointer (some ⟨g1,0,none⟩)))]) (fun i w=>HH w0 [] [[bl g1 51 ((ac 16).enc f)],[bl g2 51 ((ac 16).enc (fun _=>0))],[bl g3 51 ((ac 16).enc (upF i (mixed f) (fun _=>0)))]] w∧(i≤16)) (fun i=>16-i) 0 ⟨hH,(Nat.zero_le _)⟩ ?_
 clear hH
 rintro i w ⟨hH,hi⟩
 refine zr (zv (.lt (i<16)) 0 ?_)
 refine zn (aj ?_)
 refine zP (fun hc5 => ?_) (fun hc5 => ?_)
 refine aA (ag (aj (ai (zr (zv .mv 1 ?_)))))
 refine zv .mv 1 ?_
 refine zn (zr (zv .mv 0 ?_))
 refine zv .mv 0 ?_
 refine zv (v:=(.int .i64 (((i%4):Nat):Int))) (fun _ _ hF=>bm (z:=((i%4:Nat):Int)) rfl (hF.ev 0 rfl) rfl (by omega) bW) 1 ?_
 refine zv (.sub (((i-i%4):Nat):Int)) 3 ?_
 refine zv .mv 1 ?_
 refine zn (zx ?_)
 replace hH:=hH.drew
 refine rv 0 .mv 0 ?_
 have hi6:i-i%4<16:=by omega
 refine rv 1 (.ia 1 16 (i-i%4) (hi:=hi6)) 1 ?_
 refine rld 2 (hH.q 0 rfl) (.ld af (f (i-i%4)) (fun _ hS=>((ae hS).elt hi6))) 1 ?_
 refine rv 3 .mv 0 ?_
 refine rv 4 (.add (((i-i%4)+1:Nat):Int)) 1 ?_
 have hi7:(i-i%4)+1<16:=by omega
 refine rv 5 (.ia 1 16 ((i-i%4)+1) (hi:=hi7)) 1 ?_
 refine rld 6 (hH.q 0 rfl) (.ld af (f ((i-i%4)+1)) (fun _ hS=>((ae hS).elt hi7))) 1 ?_
 refine rv 7 (.xb ((f (i-i%4))^^^(f ((i-i%4)+1))) (u:=(f (i-i%4))) (v:=(f ((i-i%4)+1)))) 3 ?_
 refine rv 8 .mv 0 ?_
 refine rv 9 (.add (((i-i%4)+2:Nat):Int)) 1 ?_
 have hi8:(i-i%4)+2<16:=by omega
 refine rv 10 (.ia 1 16 ((i-i%4)+2) (hi:=hi8)) 1 ?_
 refine rld 11 (hH.q 0 rfl) (.ld af (f ((i-i%4)+2)) (fun _ hS=>((ae hS).elt hi8))) 1 ?_
 refine rv 12 (.xb (((f (i-i%4))^^^(f ((i-i%4)+1)))^^^(f ((i-i%4)+2))) (u:=((f (i-i%4))^^^(f ((i-i%4)+1)))) (v:=(f ((i-i%4)+2)))) 3 ?_
 refine rv 13 .mv 0 ?_
 refine rv 14 (.add (((i-i%4)+3:Nat):Int)) 1 ?_
 have hi9:(i-i%4)+3<16:=by omega
 refine rv 15 (.ia 1 16 ((i-i%4)+3) (hi:=hi9)) 1 ?_
 refine rld 16 (hH.q 0 rfl) (.ld af (f ((i-i%4)+3)) (fun _ hS=>((ae hS).elt hi9))) 1 ?_
 refine rv 17 (.xb ((((f (i-i%4))^^^(f ((i-i%4)+1)))^^^(f ((i-i%4)+2)))^^^(f ((i-i%4)+3))) (u:=(((f (i-i%4))^^^(f ((i-i%4)+1)))^^^(f ((i-i%4)+2)))) (v:=(f ((i-i%4)+3)))) 3 ?_
 refine rv 18 .mv 1 ?_
 refine rn ?_
 refine br mixedOrders (by kernel_rfl) ?_
 replace hH:=hH.drew
 refine rv 0 .mv 0 ?_
 refine rv 1 .mv 0 ?_
 have hi10:i<16:=by omega
 refine rv 2 (.ia 1 16 i (hi:=hi10)) 1 ?_
 refine rld 3 (hH.q 0 rfl) (.ld af (f i) (fun _ hS=>((ae hS).elt hi10))) 1 ?_
 refine rv 4 .mv 4 ?_
 refine rv 5 (.xb ((f i)^^^((((f (i-i%4))^^^(f ((i-i%4)+1)))^^^(f ((i-i%4)+2)))^^^(f ((i-i%4)+3)))) (u:=(f i)) (v:=((((f (i-i%4))^^^(f ((i-i%4)+1)))^^^(f ((i-i%4)+2)))^^^(f ((i-i%4)+3))))) 3 ?_
 refine rv 6 .mv 0 ?_
 have hi11:i<16:=by omega
 refine rv 7 (.ia 1 16 i (hi:=hi11)) 1 ?_
 refine rld 8 (hH.q 0 rfl) (.ld af (f i) (fun _ hS=>((ae hS).elt hi11))) 1 ?_
 refine rv 9 .mv 8 ?_
 refine rv 10 .mv 16 ?_
 refine rv 11 (.add ((i+1:Nat):Int)) 1 ?_
 refine rv 12 (v:=(.int .i64 ((((i+1)%4):Nat):Int))) (fun _ _ hF=>bm (z:=(((i+1)%4:Nat):Int)) rfl (hF.ev 0 rfl) rfl (by omega) bW) 1 ?_
 refine rv 13 (.add (((i-i%4)+((i+1)%4):Nat):Int)) 3 ?_
 have hi12:(i-i%4)+((i+1)%4)<16:=by omega
 refine rv 14 (.ia 1 16 ((i-i%4)+((i+1)%4)) (hi:=hi12)) 1 ?_
 refine rld 15 (hH.q 0 rfl) (.ld af (f ((i-i%4)+((i+1)%4))) (fun _ hS=>((ae hS).elt hi12))) 1 ?_
 refine rv 16 (.xb ((f i)^^^(f ((i-i%4)+((i+1)%4)))) (u:=(f i)) (v:=(f ((i-i%4)+((i+1)%4))))) 3 ?_
 refine ao 17 (rpc 17 Tryz.func98 (rr ((f i)^^^(f ((i-i%4)+((i+1)%4))))) trivial hH 1 (pgo [16] (pgo [16] (.keep (.nil _ [])))) ?_)
 clear hH
 intro w hH
 refine ⟨am (hH.blk 0 rfl) an,?_⟩
 refine rv 18 (.xb (((f i)^^^((((f (i-i%4))^^^(f ((i-i%4)+1)))^^^(f ((i-i%4)+2)))^^^(f ((i-i%4)+3))))^^^(dbl ((f i)^^^(f ((i-i%4)+((i+1)%4)))))) (u:=((f i)^^^((((f (i-i%4))^^^(f ((i-i%4)+1)))^^^(f ((i-i%4)+2)))^^^(f ((i-i%4)+3))))) (v:=(dbl ((f i)^^^(f ((i-i%4)+((i+1)%4))))))) 3 ?_
 have hi13:i<16:=by omega
 refine rv 19 (.ia 1 16 i (hi:=hi13)) 2 ?_
 refine ao 20 ?_
 refine re0 20 2 hH rfl (.st af (((f i)^^^((((f (i-i%4))^^^(f ((i-i%4)+1)))^^^(f ((i-i%4)+2)))^^^(f ((i-i%4)+3))))^^^(dbl ((f i)^^^(f ((i-i%4)+((i+1)%4)))))) (aU (S:=sBy) (C:=(ac 16)) rfl hi13) (aQ (upF i (mixed f) (fun _=>0)) (((f i)^^^((((f (i-i%4))^^^(f ((i-i%4)+1)))^^^(f ((i-i%4)+2)))^^^(f ((i-i%4)+3))))^^^(dbl ((f i)^^^(f ((i-i%4)+((i+1)%4)))))) hi13)) trivial (pgo [] (.nil _ [])) ?_
 clear hH
 rintro _ _ w rfl hH
 refine ⟨an,bQ (by kernel_rfl) ?_⟩
 refine aN (ag (aC (zv (.add ((i+1:Nat):Int)) 7 ?_)))
 refine zv .mv 1 ?_
 refine aD ?_
 have he14:(ac 16).enc (upF (i+1) (mixed f) (fun _=>0))=(ac 16).enc (stF (upF i (mixed f) (fun _=>0)) i (((f i)^^^((((f (i-i%4))^^^(f ((i-i%4)+1)))^^^(f ((i-i%4)+2)))^^^(f ((i-i%4)+3))))^^^(dbl ((f i)^^^(f ((i-i%4)+((i+1)%4))))))):=aB (fun j _=>(congrFun (bi i (mixed f) (fun _=>0) (rfl)) j).symm)
 replace hH:HH w0 [] [[bl g1 51 ((ac 16).enc f)],[bl g2 51 ((ac 16).enc (fun _=>0))],[bl g3 51 ((ac 16).enc (upF (i+1) (mixed f) (fun _=>0)))]] w:=by rw[he14];exact hH
 exact zR1 (i+1) ⟨hH,(by omega)⟩ (by omega)
 refine aJ (ak (ak (aR (ag ?_))))
 obtain rfl:i=16:=by omega
 have he15:(ac 16).enc (mixed f)=(ac 16).enc (upF 16 (mixed f) (fun _=>0)):=aB (fun j hj=>(bz _ _ hj).symm)
 replace hH:HH w0 [] [[bl g1 51 ((ac 16).enc f)],[bl g2 51 ((ac 16).enc (fun _=>0))],[bl g3 51 ((ac 16).enc (mixed f))]] w:=by rw[he15];exact hH
 refine zr (zs (hH.q 2 rfl) (.l0 (ac 16) (mixed f)) 23 ?_)
 refine zW 1 hH rfl (mixed f) ?_
 clear hH
 intro w hH
 refine zn (ar (aI 1 (hH.blk 1 rfl) rfl rfl (by kernel_rfl) (Cod.size _ _) (by kernel_rfl) ?_))
 exact zE hH
theorem sY(f:Nat→UInt8):Pure Tryz.prog 131 #[((ac 16).val f)] (fun _=>True) ((ac 16).val (unmixed f)):=by
 refine pU Tryz.func131 Tryz.ntmps131 ?_
 intro w0 hH hR
 refine zr (zB hH (ac 16) f 1 ?_)
 clear hH
 intro g1 w hH
 refine zA hH (ac 16) (fun _=>0) 0 ?_
 clear hH
 intro g2 w hH
 refine zn (zr (zA hH (ac 16) (fun _=>0) 0 ?_))
 clear hH
 intro g3 w hH
 refine zn (aj (zr (zv .mv 0 ?_)))
 refine zn (ai ?_)
 have he4:(ac 16).enc (upF 0 (premixed f) (fun _=>0))=(ac 16).enc (fun _=>0):=aB (fun j _=>by rw[bw])
 replace hH:HH w0 [] [[bl g1 51 ((ac 16).enc f)],[bl g2 51 ((ac 16).enc (fun _=>0))],[bl g3 51 ((ac 16).enc (upF 0 (premixed f) (fun _=>0)))]] w:=by rw[he4];exact hH
 refine zL1 (fun (i:Nat)=>[(5,(.int .i64 i)),(3,(.pointer (some ⟨g3,0,none⟩))),(2,(.pointer (some ⟨g2,0,none⟩))),(1,(.pointer (some ⟨g1,0,none⟩)))]) (fun i w=>HH w0 [] [[bl g1 51 ((ac 16).enc f)],[bl g2 51 ((ac 16).enc (fun _=>0))],[bl g3 51 ((ac 16).enc (upF i (premixed f) (fun _=>0)))]] w∧(i≤16)) (fun i=>16-i) 0 ⟨hH,(Nat.zero_le _)⟩ ?_
 clear hH
 rintro i w ⟨hH,hi⟩
 refine zr (zv (.lt (i<16)) 0 ?_)
 refine zn (aj ?_)
 refine zP (fun hc5 => ?_) (fun hc5 => ?_)
 refine aA (ag (aj (ai (zr (zv .mv 1 ?_)))))
 refine zv .mv 1 ?_
 refine zn (br mixedOrders (by kernel_rfl) ?_)
 replace hH:=hH.drew
 refine rv 0 .mv 0 ?_
 refine rv 1 .mv 0 ?_
 have hi6:i<16:=by omega
 refine rv 2 (.ia 1 16 i (hi:=hi6)) 1 ?_
 refine rld 3 (hH.q 0 rfl) (.ld af (f i) (fun _ hS=>((ae hS).elt hi6))) 1 ?_
 refine rv 4 .mv 0 ?_
 have hi7:i<16:=by omega
 refine rv 5 (.ia 1 16 i (hi:=hi7)) 1 ?_
 refine rld 6 (hH.q 0 rfl) (.ld af (f i) (fun _ hS=>((ae hS).elt hi7))) 1 ?_
 refine rv 7 .mv 0 ?_
 refine rv 8 .mv 0 ?_
 refine rv 9 (v:=(.int .i64 (((i%4):Nat):Int))) (fun _ _ hF=>bm (z:=((i%4:Nat):Int)) rfl (hF.ev 0 rfl) rfl (by omega) bW) 1 ?_
 refine rv 10 (.sub (((i-i%4):Nat):Int)) 3 ?_
 refine rv 11 .mv 16 ?_
 refine rv 12 (.add ((i+2:Nat):Int)) 1 ?_
 refine rv 13 (v:=(.int .i64 ((((i+2)%4):Nat):Int))) (fun _ _ hF=>bm (z:=(((i+2)%4:Nat):Int)) rfl (hF.ev 0 rfl) rfl (by omega) bW) 1 ?_
 refine rv 14 (.add (((i-i%4)+((i+2)%4):Nat):Int)) 3 ?_
 have hi8:(i-i%4)+((i+2)%4)<16:=by omega
 refine rv 15 (.ia 1 16 ((i-i%4)+((i+2)%4)) (hi:=hi8)) 1 ?_
 refine rld 16 (hH.q 0 rfl) (.ld af (f ((i-i%4)+((i+2)%4))) (fun _ hS=>((ae hS).elt hi8))) 1 ?_
 refine rv 17 (.xb ((f i)^^^(f ((i-i%4)+((i+2)%4)))) (u:=(f i)) (v:=(f ((i-i%4)+((i+2)%4))))) 3 ?_
 refine ao 18 (rpc 18 Tryz.func98 (rr ((f i)^^^(f ((i-i%4)+((i+2)%4))))) trivial hH 1 (pgo [17] (pgo [17] (.keep (.nil _ [])))) ?_)
 clear hH
 intro w hH
 refine ⟨am (hH.blk 0 rfl) an,?_⟩
 refine ao 19 (rpc 19 Tryz.func98 (rr (dbl ((f i)^^^(f ((i-i%4)+((i+2)%4)))))) trivial hH 1 (.keep (.nil _ [])) ?_)
 clear hH
 intro w hH
 refine ⟨am (hH.blk 0 rfl) an,?_⟩
 refine rv 20 (.xb ((f i)^^^(dbl (dbl ((f i)^^^(f ((i-i%4)+((i+2)%4))))))) (u:=(f i)) (v:=(dbl (dbl ((f i)^^^(f ((i-i%4)+((i+2)%4)))))))) 3 ?_
 have hi9:i<16:=by omega
 refine rv 21 (.ia 1 16 i (hi:=hi9)) 2 ?_
 refine ao 22 ?_
 refine re0 22 2 hH rfl (.st af ((f i)^^^(dbl (dbl ((f i)^^^(f ((i-i%4)+((i+2)%4))))))) (aU (S:=sBy) (C:=(ac 16)) rfl hi9) (aQ (upF i (premixed f) (fun _=>0)) ((f i)^^^(dbl (dbl ((f i)^^^(f ((i-i%4)+((i+2)%4))))))) hi9)) trivial (pgo [] (.nil _ [])) ?_
 clear hH
 rintro _ _ w rfl hH
 refine ⟨an,bQ (by kernel_rfl) ?_⟩
 refine aN (ag (aC (zv (.add ((i+1:Nat):Int)) 7 ?_)))
 refine zv .mv 1 ?_
 refine aD ?_
 have he10:(ac 16).enc (upF (i+1) (premixed f) (fun _=>0))=(ac 16).enc (stF (upF i (premixed f) (fun _=>0)) i ((f i)^^^(dbl (dbl ((f i)^^^(f ((i-i%4)+((i+2)%4)))))))):=aB (fun j _=>(congrFun (bi i (premixed f) (fun _=>0) (rfl)) j).symm)
 replace hH:HH w0 [] [[bl g1 51 ((ac 16).enc f)],[bl g2 51 ((ac 16).enc (fun _=>0))],[bl g3 51 ((ac 16).enc (upF (i+1) (premixed f) (fun _=>0)))]] w:=by rw[he10];exact hH
 exact zR1 (i+1) ⟨hH,(by omega)⟩ (by omega)
 refine aJ (ak (ak (aR (ag ?_))))
 obtain rfl:i=16:=by omega
 have he11:(ac 16).enc (premixed f)=(ac 16).enc (upF 16 (premixed f) (fun _=>0)):=aB (fun j hj=>(bz _ _ hj).symm)
 replace hH:HH w0 [] [[bl g1 51 ((ac 16).enc f)],[bl g2 51 ((ac 16).enc (fun _=>0))],[bl g3 51 ((ac 16).enc (premixed f))]] w:=by rw[he11];exact hH
 refine zr (zs (hH.q 2 rfl) (.l0 (ac 16) (premixed f)) 23 ?_)
 refine zc Tryz.func100 (ru (premixed f)) trivial hH 1 ?_
 clear hH
 intro w hH
 refine zW 1 hH rfl (mixed (premixed f)) ?_
 clear hH
 intro w hH
 refine zn (ar (aI 1 (hH.blk 1 rfl) rfl rfl (by kernel_rfl) (Cod.size _ _) (by kernel_rfl) ?_))
 exact zE hH
theorem Ap  : Pure Tryz.prog 91 #[] (fun w=>w.heap[0]?=some (.cells ((ac 256).enc ah) 103 (0,0))) ((ac 256).val (bk ah 256)):=by
 refine pU Tryz.func91 Tryz.ntmps91 ?_
 intro w0 hH hR
 refine zr (zA hH (ac 256) (fun _=>0) 0 ?_)
 clear hH
 intro g1 w hH
 refine zn (zr (zA hH (ac 256) (fun _=>0) 0 ?_))
 clear hH
 intro g2 w hH
 refine zn (aj (zr (zs (hH.ob hR) (.ld (ac 256) ah (fun _=>ae)) 0 ?_)))
 refine zv .mv 0 ?_
 refine zn (ai ?_)
 have he3:(ac 256).enc (bk ah 0)=(ac 256).enc (fun _=>0):=aB (fun j _=>rfl)
 replace hH:HH w0 [] [[bl g1 103 ((ac 256).enc (fun _=>0))],[bl g2 103 ((ac 256).enc (bk ah 0))]] w:=by rw[he3];exact hH
 refine zL1 (fun (i:Nat)=>[(5,(.int .i64 i)),(4,((ac 256).val ah)),(1,(.pointer (some ⟨g2,0,none⟩))),(0,(.pointer (some ⟨g1,0,none⟩)))]) (fun i w=>HH w0 [] [[bl g1 103 ((ac 256).enc (fun _=>0))],[bl g2 103 ((ac 256).enc (bk ah i))]] w∧(i≤256)) (fun i=>256-i) 0 ⟨hH,(Nat.zero_le _)⟩ ?_
 clear hH
 rintro i w ⟨hH,hi⟩
 refine zr (zv (.lt (i<256)) 0 ?_)
 refine zn (aj ?_)
 refine zP (fun hc4 => ?_) (fun hc4 => ?_)
 refine aA (ag (aj (ai (zr (zv .mv 1 ?_)))))
 have hi5:i<256:=by omega
 refine zv (v:=(.int .u8 ((((ah i).toNat):Nat):Int))) (fun _ _ hF=>e8 (S:=sBy) (e:=5) (n:=256) (i:=i) (f:=ah) rfl (by kernel_rfl) (by kernel_rfl) (hF.ev 2 rfl) (hF.ev 1 rfl) rfl hi5) 0 ?_
 refine zv .mv 2 ?_
 refine zv .mv 2 ?_
 refine zn (aC (zv .mv 1 ?_))
 refine zv .mv 2 ?_
 refine zv .cb 1 ?_
 have hi6:(ah i).toNat<256:=UInt8.toNat_lt _
 refine zv (.ia 1 256 ((ah i).toNat) (hi:=hi6)) 2 ?_
 refine ze0 1 hH rfl (.st af (UInt8.ofNat i) (aU (S:=sBy) (C:=(ac 256)) rfl hi6) (aQ (bk ah i) (UInt8.ofNat i) hi6)) trivial ?_
 clear hH
 rintro _ _ w rfl hH
 refine aD (aN (ag (aC (zv (.add ((i+1:Nat):Int)) 7 ?_))))
 refine zv .mv 1 ?_
 refine aD ?_
 have he7:(ac 256).enc (bk ah (i+1))=(ac 256).enc (stF (bk ah i) ((ah i).toNat) (UInt8.ofNat i)):=aB (fun j _=>rfl)
 replace hH:HH w0 [] [[bl g1 103 ((ac 256).enc (fun _=>0))],[bl g2 103 ((ac 256).enc (bk ah (i+1)))]] w:=by rw[he7];exact hH
 exact zR1 (i+1) ⟨hH,(by omega)⟩ (by omega)
 refine aJ (ak (ak (aR (ag ?_))))
 obtain rfl:i=256:=by omega
 refine zr (zs (hH.q 1 rfl) (.l0 (ac 256) (bk ah 256)) 15 ?_)
 refine zW 0 hH rfl (bk ah 256) ?_
 clear hH
 intro w hH
 refine zn (ar (aI 1 (hH.blk 0 rfl) rfl rfl (by kernel_rfl) (Cod.size _ _) (by kernel_rfl) ?_))
 exact zE hH
def pk4(a b c d:UInt8):Nat→UInt8:=fun i=>if i=0 then a else if i=1 then b else if i=2 then c else d
theorem kZ{W:Nat→UInt8}{a:List UInt8}{m:Nat}{v:UInt8}(h:∀ j,j<m→a[j]?=some (W j))(hm:m<a.length)(hv:v=W m):∀ j,j<m+1→(a.set m v)[j]?=some (W j):=fun j hj=>by
 rw[List.getElem?_set]
 by_cases he:m=j
 ·subst he;rw[if_pos rfl,if_pos hm,hv]
 ·rw[if_neg he];exact h j (by omega)
theorem mm{W:Nat→UInt8}{a:List UInt8}{m k j:Nat}(h:∀ j,j<m→a[j]?=some (W j))(hk:k+j<m):cutF a k j=W (k+j):=by
 unfold cutF
 rw[List.getD_eq_getElem?_getD,h _ hk]
 rfl
theorem bR{W:Nat→UInt8}{a:List UInt8}{m:Nat}(h:∀ j,j<m→a[j]?=some (W j))(hm:a.length=m):a=lst m W:=by
 apply List.ext_getElem?
 intro j
 by_cases hj:j<m
 ·rw[h j hj,bB hj]
 ·rw[List.getElem?_eq_none (by omega),List.getElem?_eq_none (by rw[ap];omega)]
theorem Da{α:Type}{F:Nat→α}{a:List α}{m:Nat}{v:α}(h:∀ j,j<m→a[j]?=some (F j))(hm:m<a.length)(hv:v=F m):∀ j,j<m+1→(a.set m v)[j]?=some (F j):=fun j hj=>by
 rw[List.getElem?_set]
 by_cases he:m=j
 ·subst he;rw[if_pos rfl,if_pos hm,hv]
 ·rw[if_neg he];exact h j (by omega)
theorem na{α:Type}{F:Nat→α}{a:List α}{m:Nat}(h:∀ j,j<m→a[j]?=some (F j))(hm:a.length=m):a=(List.range m).map F:=by
 apply List.ext_getElem?
 intro j
 by_cases hj:j<m
 ·rw[h j hj];simp[hj]
 ·rw[List.getElem?_eq_none (by omega),List.getElem?_eq_none (by simp;omega)]
def aeK(l:List UInt8):List (Nat→UInt8):=(List.range (l.length/4+7)).map fun i=>cutF (lst (16*(l.length/4+7)) (aeW l)) (16*i)
theorem nd(l:List UInt8):(aeK l).length=l.length/4+7:=by unfold aeK;simp
theorem rz(l:List UInt8){i:Nat}(h:i<l.length/4+7):(aeK l)[i]?=some (cutF (lst (16*(l.length/4+7)) (aeW l)) (16*i)):=by unfold aeK;simp[h]
theorem Aq(l:List UInt8){i:Nat}(h:i<l.length/4+7):E16 (cutF (lst (16*(l.length/4+7)) (aeW l)) (16*i)) (rk (aeW l) i):=fun j hj=>by
 rw[mm (m:=16*(l.length/4+7)) (W:=aeW l) (fun j hj=>bB hj) (by omega)]
 rfl
theorem rA{d nk:Nat}(h:nk=4∨nk=8)(hA:(d+nk)%nk=0):dbl (rc ((d+(nk-1))/nk))=rc ((d+1+(nk-1))/nk):=by
 have e:(d+1+(nk-1))/nk=(d+(nk-1))/nk+1:=by rcases h with rfl | rfl<;>omega
 rw[e]
 rfl
theorem iS{d nk:Nat}(h:nk=4∨nk=8)(hA:¬ (d+nk)%nk=0):rc ((d+(nk-1))/nk)=rc ((d+1+(nk-1))/nk):=by
 have e:(d+1+(nk-1))/nk=(d+(nk-1))/nk:=by rcases h with rfl | rfl<;>omega
 rw[e]
theorem Ar{n nk d:Nat}(h:n=4*nk):(n+4*d)%n=4*((d+nk)%nk):=by
 subst h
 rw[← Nat.mul_add,Nat.mul_mod_mul_left,Nat.add_comm]
section
variable{l a:List UInt8}{nk d:Nat}{c:UInt8}
theorem nf(hnk:l.length=4*nk)(h4:nk=4∨nk=8)(hW:∀ j,j<l.length+4*d→a[j]?=some (aeW l j)){j:Nat}(hj:j<4):cutF a (l.length+4*d-4) j=aeW l (4*d+(4*nk-4)+j):=by
 rw[mm hW (by omega)]
 congr 1
 omega
theorem pO(hnk:l.length=4*nk)(h4:nk=4∨nk=8):lF ah nk (cutF l 0) (aeW l):=by
 have:=sW l (by omega)
 rwa [show l.length/4=nk by omega]at this
theorem Db(hnk:l.length=4*nk)(h4:nk=4∨nk=8)(hd:d<3*nk+28)(hW:∀ j,j<l.length+4*d→a[j]?=some (aeW l j))(hA:(d+nk)%nk=0)(hc:c=rc ((d+(nk-1))/nk))(k:Nat)(hk:k<4):
  aeW l (l.length+4*d+k)=aeW l (4*d+k)^^^pk4 (ah (cutF a (l.length+4*d-4) 1).toNat^^^c) (ah (cutF a (l.length+4*d-4) 2).toNat) (ah (cutF a (l.length+4*d-4) 3).toNat) (ah (cutF a (l.length+4*d-4) 0).toNat) k:=by
 have h:=p7 (by omega) (pO hnk h4) d _ hd rfl hA k hk
 rw[show 4*d+(4*nk-4)+4+k-4*nk=4*d+k by omega,show 4*d+(4*nk-4)+4+k=l.length+4*d+k by omega]at h
 rw[nf hnk h4 hW (j:=0) (by decide),nf hnk h4 hW (j:=1) (by decide),nf hnk h4 hW (j:=2) (by decide),nf hnk h4 hW (j:=3) (by decide),hc,h]
 unfold pk4 xr
 rcases (by omega:k=0∨k=1∨k=2∨k=3) with rfl | rfl | rfl | rfl<;>simp
theorem Dc(hnk:l.length=4*nk)(h4:nk=4∨nk=8)(hd:d<3*nk+28)(hW:∀ j,j<l.length+4*d→a[j]?=some (aeW l j))(hA:¬ (d+nk)%nk=0)(hC:(d+nk)%nk=4)(k:Nat)(hk:k<4):
  aeW l (l.length+4*d+k)=aeW l (4*d+k)^^^pk4 (ah (cutF a (l.length+4*d-4) 0).toNat) (ah (cutF a (l.length+4*d-4) 1).toNat) (ah (cutF a (l.length+4*d-4) 2).toNat) (ah (cutF a (l.length+4*d-4) 3).toNat) k:=by
 have h8:nk=8∧(d+nk)%nk=4:=⟨by rcases h4 with rfl | rfl<;>omega,hC⟩
 have h:=p9 (by omega) (pO hnk h4) d _ hd rfl hA h8 k hk
 rw[show 4*d+(4*nk-4)+4+k-4*nk=4*d+k by omega,show 4*d+(4*nk-4)+4+k=l.length+4*d+k by omega]at h
 rw[nf hnk h4 hW (j:=0) (by decide),nf hnk h4 hW (j:=1) (by decide),nf hnk h4 hW (j:=2) (by decide),nf hnk h4 hW (j:=3) (by decide),h]
 unfold pk4 xr
 rcases (by omega:k=0∨k=1∨k=2∨k=3) with rfl | rfl | rfl | rfl<;>simp
theorem Dd(hnk:l.length=4*nk)(h4:nk=4∨nk=8)(hd:d<3*nk+28)(hW:∀ j,j<l.length+4*d→a[j]?=some (aeW l j))(hA:¬ (d+nk)%nk=0)(hC:¬ (d+nk)%nk=4)(k:Nat)(hk:k<4):
  aeW l (l.length+4*d+k)=aeW l (4*d+k)^^^cutF a (l.length+4*d-4) k:=by
 have h:=p8 (by omega) (pO hnk h4) d _ hd rfl hA (fun h=>hC h.2) k hk
 rw[show 4*d+(4*nk-4)+4+k-4*nk=4*d+k by omega,show 4*d+(4*nk-4)+4+k=l.length+4*d+k by omega]at h
 rw[nf hnk h4 hW hk,h]
 rfl
end
theorem u9(l:List UInt8){nk j:Nat}(hnk:l.length=4*nk)(h4:nk=4∨nk=8)(hj:j<l.length):l[j]?=some (aeW l j):=by
 have h:=(pO hnk h4).1 j (by omega)
 rw[h]
 unfold cutF
 rw[Nat.zero_add,List.getD_eq_getElem?_getD,List.getElem?_eq_getElem hj]
 rfl
theorem jH(A:Option Addr)(z:Nat)(l:List UInt8)(hk:l.length=16∨l.length=32):Does Tryz.prog 56 #[(.slice A l.length z)] [] (fun w=>w.heap[0]?=some (.cells ((ac 256).enc ah) 103 (0,0))∧Vu af w A l.length z l) (fun v E'=>OwnT (ac 16) 51 v (aeK l) E'):=by
 refine dU Tryz.func56 Tryz.ntmps56 ?_
 intro w0 hH hR
 replace hH:HH w0 [] [] w0:=hH.only [false]
 obtain ⟨nk,hnk,h4⟩:∃ nk,l.length=4*nk∧(nk=4∨nk=8):=⟨l.length/4,by omega,by omega⟩
 refine zr (zv .mv 0 ?_)
 refine zn (zr (zv .mv 1 ?_))
 refine zv .len 1 ?_
 refine zv (v:=(.int .i64 (((l.length/4):Nat):Int))) (fun _ _ hF=>cM (z:=((l.length/4:Nat):Int)) rfl (hF.ev 0 rfl) rfl (by omega) (wI dO (by omega) (by omega))) 1 ?_
 refine zv (.add (((l.length/4)+7:Nat):Int)) 1 ?_
 refine zm hH (fun _ hF=>f0 (e:=51) (n:=(l.length/4)+7) (sz:=16) (by_:=16) (z:=((ac 16).val (fun _=>0))) (cs:=madeCells ((ac 16).enc (fun _=>0)) (((l.length/4)+7)*16)) rfl (by kernel_rfl) (by kernel_rfl) (hF.ev 0 rfl) (hF.ev 0 rfl) rfl rfl (by omega) (by omega) rfl) trivial 1 ?_
 clear hH
 rintro _ _ w ⟨g1,rfl,rfl⟩ hH
 refine zv .mv 1 ?_
 refine zn (zr (zv .mv 0 ?_))
 refine zv .len 1 ?_
 refine zv (.mul ((16*((l.length/4)+7):Nat):Int)) 1 ?_
 refine zm hH (fun _ hF=>f0 (e:=5) (n:=16*((l.length/4)+7)) (sz:=1) (by_:=1) (z:=(.int .u8 0)) (cs:=madeCells (af.enc 0) ((16*((l.length/4)+7))*1)) rfl (by kernel_rfl) (by kernel_rfl) (hF.ev 0 rfl) (hF.ev 0 rfl) rfl rfl (by omega) (by omega) rfl) trivial 1 ?_
 clear hH
 rintro _ _ w ⟨g2,rfl,rfl⟩ hH
 refine zv .mv 1 ?_
 refine zn (zr (zv .mv 0 ?_))
 refine zv .mv 0 ?_
 obtain ⟨cur4,hcs5,hB3⟩:∃ cs,bJ (madeCells (af.enc 0) ((16*((l.length/4)+7))*1)) (0) (be af l)=cs∧Bk af (16*((l.length/4)+7)) cs ((List.replicate (16*((l.length/4)+7)) 0).take 0++(l++(List.replicate (16*((l.length/4)+7)) 0).drop (0+l.length))):=⟨_,rfl,(Bk.make (C:=af) 0 (16*((l.length/4)+7)) (ltb rfl) (by unfold maxLen;omega)).copy 0 l (by rw[List.length_replicate];omega)⟩
 refine ze 1 hH rfl (fun _ hF=>ef (C:=af) (m:=l) (e:=5) rfl (by kernel_rfl) (by kernel_rfl) (ltb rfl) (hF.ev 1 rfl) (hF.ev 0 rfl) (by omega) rfl (by rw[size_madeCells];show 0+l.length*1≤(16*(l.length/4+7))*1;omega) hcs5) (hH.vu hR.2 (by decide) (Off.nil _ _)) 3 ?_
 clear hH
 rintro _ _ w ⟨rfl,rfl⟩ hH
 refine zn (zr (zv .mv 1 ?_))
 refine zn (aj (zr (zv .mv 0 ?_)))
 refine zv .len 1 ?_
 refine zv .mv 1 ?_
 refine zn (ai ?_)
 refine zL4 (fun (d:Nat) (c:UInt8) (_:Array Value) (_:List UInt8)=>[(6,(.int .i64 (((l.length+4*d):Nat):Int))),(5,(.int .u8 c.toNat)),(4,(.slice (some ⟨g2,0,none⟩) (16*((l.length/4)+7)) (16*((l.length/4)+7)))),(3,(.slice (some ⟨g1,0,none⟩) ((l.length/4)+7) ((l.length/4)+7))),(0,(.slice A l.length z))]) (fun d c cs a w=>HH w0 [] [[bl g1 51 (madeCells ((ac 16).enc (fun _=>0)) (((l.length/4)+7)*16))],[bl g2 5 cs]] w∧(d≤3*nk+28)∧(c=rc ((d+(nk-1))/nk))∧(a.length=(16*(l.length/4+7)))∧(∀ j,j<l.length+4*d→a[j]?=some (aeW l j))∧(Bk af (16*(l.length/4+7)) cs a)) (fun d _ _ _=>3*nk+28-d) 0 1 cur4 ((List.replicate (16*((l.length/4)+7)) 0).take 0++(l++(List.replicate (16*((l.length/4)+7)) 0).drop (0+l.length))) ⟨hH,(by omega),(by rw[Nat.zero_add,Nat.div_eq_of_lt (by omega)];rfl),(by simp;omega),(fun j hj=>by rw[List.take_zero,List.nil_append,List.getElem?_append_left (by omega),u9 l hnk h4 (by omega)]),hB3⟩ ?_
 clear hH
 rintro d c cs a w ⟨hH,hd,hcc,hal,haW,hB⟩
 refine aj (zr (zv .mv 0 ?_))
 refine zv .mv 0 ?_
 refine zv .len 1 ?_
 refine zv (.lt (l.length+4*d<16*((l.length/4)+7))) 3 ?_
 refine zn ?_
 refine zP (fun hc6 => ?_) (fun hc6 => ?_)
 refine aA (ag (aj (ai (zr (zv .mv 1 ?_)))))
 refine zv .mv 0 ?_
 refine zv (.sub (((l.length+4*d-4):Nat):Int)) 1 ?_
 refine zv (v:=(.slice (some ⟨g2,0+(l.length+4*d-4)*1,none⟩) ((16*((l.length/4)+7))-(l.length+4*d-4)) ((16*((l.length/4)+7))-(l.length+4*d-4)))) (fun _ _ hF=>eu (k:=l.length+4*d-4) (e:=5) (sz:=1) rfl (by kernel_rfl) (by kernel_rfl) (hF.ev 1 rfl) (hF.ev 0 rfl) rfl (by omega) (by omega)) 3 ?_
 refine zv (v:=(.pointer (some ⟨g2,0+(l.length+4*d-4)*1,none⟩))) (fun _ _ hF=>bS (m:=4) (e:=5) rfl (by kernel_rfl) (hF.ev 0 rfl) (by omega)) 1 ?_
 refine zs (hH.q 1 rfl) (.ld (ac 4) (cutF a (l.length+4*d-4)) (fun _ hS=>((hB.holdsL hS).arr (l.length+4*d-4) 4 (by first | omega | (rw[ap];omega) | (simp only[List.length_drop,List.length_take,ap];omega) | (simp only[List.length_drop,List.length_take];omega))))) 1 ?_
 refine zA hH (ac 4) (fun _=>0) 0 ?_
 clear hH
 intro g7 w hH
 refine zW 2 hH rfl (cutF a (l.length+4*d-4)) ?_
 clear hH
 intro w hH
 refine zn (aj (zr (zv .mv 2 ?_)))
 refine zv .mv 0 ?_
 refine zv .len 1 ?_
 refine zv (v:=(.int .i64 (((4*((d+nk)%nk)):Nat):Int))) (fun _ _ hF=>bm rfl (hF.ev 1 rfl) (hF.ev 0 rfl) (by omega) (congrArg (fun q:Nat=>(q:Int)) (Ar hnk))) 3 ?_
 refine zn (ai (zr (zv (.eq (4*((d+nk)%nk)=0)) 0 ?_)))
 refine zv .mv 1 ?_
 refine zn ?_
 refine zP (fun hc8 => ?_) (fun hc8 => ?_)
 refine zx ?_
 replace hH:=hH.drew
 have hi9:1<4:=by omega
 refine rv 0 (.ia 1 4 1 (hi:=hi9)) 3 ?_
 refine rld 1 (hH.q 2 rfl) (.ld af ((cutF a (l.length+4*d-4)) 1) (fun _ hS=>((ae hS).elt hi9))) 1 ?_
 have hi10:((cutF a (l.length+4*d-4)) 1).toNat<256:=UInt8.toNat_lt _
 refine rv 2 (.ia 1 256 (((cutF a (l.length+4*d-4)) 1).toNat) (hi:=hi10)) 1 ?_
 refine rld 3 (hH.ob hR.1) (.ld af (ah (((cutF a (l.length+4*d-4)) 1).toNat)) (fun _ hS=>((ae hS).elt hi10))) 1 ?_
 refine rv 4 .mv 0 ?_
 refine rv 5 (.xb ((ah (((cutF a (l.length+4*d-4)) 1).toNat))^^^c) (u:=(ah (((cutF a (l.length+4*d-4)) 1).toNat))) (v:=c)) 3 ?_
 have hi11:2<4:=by omega
 refine rv 6 (.ia 1 4 2 (hi:=hi11)) 0 ?_
 refine rld 7 (hH.q 2 rfl) (.ld af ((cutF a (l.length+4*d-4)) 2) (fun _ hS=>((ae hS).elt hi11))) 1 ?_
 have hi12:((cutF a (l.length+4*d-4)) 2).toNat<256:=UInt8.toNat_lt _
 refine rv 8 (.ia 1 256 (((cutF a (l.length+4*d-4)) 2).toNat) (hi:=hi12)) 1 ?_
 refine rld 9 (hH.ob hR.1) (.ld af (ah (((cutF a (l.length+4*d-4)) 2).toNat)) (fun _ hS=>((ae hS).elt hi12))) 1 ?_
 have hi13:3<4:=by omega
 refine rv 10 (.ia 1 4 3 (hi:=hi13)) 0 ?_
 refine rld 11 (hH.q 2 rfl) (.ld af ((cutF a (l.length+4*d-4)) 3) (fun _ hS=>((ae hS).elt hi13))) 1 ?_
 have hi14:((cutF a (l.length+4*d-4)) 3).toNat<256:=UInt8.toNat_lt _
 refine rv 12 (.ia 1 256 (((cutF a (l.length+4*d-4)) 3).toNat) (hi:=hi14)) 1 ?_
 refine rld 13 (hH.ob hR.1) (.ld af (ah (((cutF a (l.length+4*d-4)) 3).toNat)) (fun _ hS=>((ae hS).elt hi14))) 1 ?_
 have hi15:0<4:=by omega
 refine rv 14 (.ia 1 4 0 (hi:=hi15)) 0 ?_
 refine rld 15 (hH.q 2 rfl) (.ld af ((cutF a (l.length+4*d-4)) 0) (fun _ hS=>((ae hS).elt hi15))) 1 ?_
 have hi16:((cutF a (l.length+4*d-4)) 0).toNat<256:=UInt8.toNat_lt _
 refine rv 16 (.ia 1 256 (((cutF a (l.length+4*d-4)) 0).toNat) (hi:=hi16)) 1 ?_
 refine rld 17 (hH.ob hR.1) (.ld af (ah (((cutF a (l.length+4*d-4)) 0).toNat)) (fun _ hS=>((ae hS).elt hi16))) 1 ?_
 refine rv 18 (v:=((ac 4).val (pk4 ((ah ((cutF a (l.length+4*d-4)) 1).toNat)^^^c) (ah ((cutF a (l.length+4*d-4)) 2).toNat) (ah ((cutF a (l.length+4*d-4)) 3).toNat) (ah ((cutF a (l.length+4*d-4)) 0).toNat)))) (fun _ _ hF=>aE (cells:=(ac 4).enc (pk4 ((ah ((cutF a (l.length+4*d-4)) 1).toNat)^^^c) (ah ((cutF a (l.length+4*d-4)) 2).toNat) (ah ((cutF a (l.length+4*d-4)) 3).toNat) (ah ((cutF a (l.length+4*d-4)) 0).toNat))) (vals:=[(0,(.int .u8 (((((ah (((cutF a (l.length+4*d-4)) 1).toNat))^^^c).toNat):Nat):Int))),(1,(.int .u8 ((((ah (((cutF a (l.length+4*d-4)) 2).toNat)).toNat):Nat):Int))),(2,(.int .u8 ((((ah (((cutF a (l.length+4*d-4)) 3).toNat)).toNat):Nat):Int))),(3,(.int .u8 ((((ah (((cutF a (l.length+4*d-4)) 0).toNat)).toNat):Nat):Int)))]) rfl (EvP.cons (v:=(.int .u8 (((((ah (((cutF a (l.length+4*d-4)) 1).toNat))^^^c).toNat):Nat):Int))) (hF.ev 3 rfl) (EvP.cons (v:=(.int .u8 ((((ah (((cutF a (l.length+4*d-4)) 2).toNat)).toNat):Nat):Int))) (hF.ev 2 rfl) (EvP.cons (v:=(.int .u8 ((((ah (((cutF a (l.length+4*d-4)) 3).toNat)).toNat):Nat):Int))) (hF.ev 1 rfl) (EvP.cons (v:=(.int .u8 ((((ah (((cutF a (l.length+4*d-4)) 0).toNat)).toNat):Nat):Int))) (hF.ev 0 rfl) EvP.nil)))) (by kernel_rfl) _) 15 ?_
 refine ao 19 ?_
 refine re0 19 2 hH rfl (.sw (ac 4) (cutF a (l.length+4*d-4)) (pk4 ((ah ((cutF a (l.length+4*d-4)) 1).toNat)^^^c) (ah ((cutF a (l.length+4*d-4)) 2).toNat) (ah ((cutF a (l.length+4*d-4)) 3).toNat) (ah ((cutF a (l.length+4*d-4)) 0).toNat))) trivial (pgo [] (pgo [] (pgo [] (pgo [] (pgo [] (pgo [] (pgo [] (pgo [] (.nil _ []))))))))) ?_
 clear hH
 rintro _ _ w rfl hH
 refine ⟨an,rn ?_⟩
 refine aC (zv .mv 9 ?_)
 refine zc Tryz.func98 (rr c) trivial hH 1 ?_
 clear hH
 intro w hH
 refine zv .mv 1 ?_
 refine aD (aN (ag ?_))
 have hT:=Db hnk h4 (by omega) haW (by omega) hcc
 refine zr (zs (hH.q 2 rfl) (.l0 (ac 4) (pk4 ((ah ((cutF a (l.length+4*d-4)) 1).toNat)^^^c) (ah ((cutF a (l.length+4*d-4)) 2).toNat) (ah ((cutF a (l.length+4*d-4)) 3).toNat) (ah ((cutF a (l.length+4*d-4)) 0).toNat))) 2 ?_)
 refine zv .mv 0 ?_
 refine zn (ai ?_)
 refine zL3 (fun (k:Nat) (_:List UInt8) (_:Array Value)=>[(84,(.int .i64 k)),(83,((ac 4).val (pk4 ((ah ((cutF a (l.length+4*d-4)) 1).toNat)^^^c) (ah ((cutF a (l.length+4*d-4)) 2).toNat) (ah ((cutF a (l.length+4*d-4)) 3).toNat) (ah ((cutF a (l.length+4*d-4)) 0).toNat)))),(6,(.int .i64 (((l.length+4*d):Nat):Int))),(5,(.int .u8 ((((dbl c).toNat):Nat):Int))),(4,(.slice (some ⟨g2,0,none⟩) (16*((l.length/4)+7)) (16*((l.length/4)+7)))),(3,(.slice (some ⟨g1,0,none⟩) ((l.length/4)+7) ((l.length/4)+7))),(0,(.slice A l.length z))]) (fun k b cs2 w=>HH w0 [] [[bl g1 51 (madeCells ((ac 16).enc (fun _=>0)) (((l.length/4)+7)*16))],[bl g2 5 cs2],[bl g7 104 ((ac 4).enc (pk4 ((ah ((cutF a (l.length+4*d-4)) 1).toNat)^^^c) (ah ((cutF a (l.length+4*d-4)) 2).toNat) (ah ((cutF a (l.length+4*d-4)) 3).toNat) (ah ((cutF a (l.length+4*d-4)) 0).toNat)))]] w∧(k≤4)∧(b.length=(16*(l.length/4+7)))∧(∀ j,j<l.length+4*d+k→b[j]?=some (aeW l j))∧(Bk af (16*(l.length/4+7)) cs2 b)) (fun k _ _=>4-k) 0 a cs ⟨hH,(Nat.zero_le _),hal,haW,hB⟩ ?_
 clear hH
 rintro k b cs2 w ⟨hH,hk,hbl,hbW,hB2⟩
 refine zr (zv (.lt (k<4)) 0 ?_)
 refine zn (aj ?_)
 refine zP (fun hc17 => ?_) (fun hc17 => ?_)
 refine aA (ag (aj (ai (zr (zv .mv 1 ?_)))))
 have hi18:k<4:=by omega
 refine zv (v:=(.int .u8 (((((pk4 ((ah ((cutF a (l.length+4*d-4)) 1).toNat)^^^c) (ah ((cutF a (l.length+4*d-4)) 2).toNat) (ah ((cutF a (l.length+4*d-4)) 3).toNat) (ah ((cutF a (l.length+4*d-4)) 0).toNat)) k).toNat):Nat):Int))) (fun _ _ hF=>e8 (S:=sBy) (e:=5) (n:=4) (i:=k) (f:=(pk4 ((ah ((cutF a (l.length+4*d-4)) 1).toNat)^^^c) (ah ((cutF a (l.length+4*d-4)) 2).toNat) (ah ((cutF a (l.length+4*d-4)) 3).toNat) (ah ((cutF a (l.length+4*d-4)) 0).toNat))) rfl (by kernel_rfl) (by kernel_rfl) (hF.ev 2 rfl) (hF.ev 1 rfl) rfl hi18) 0 ?_
 refine zv .mv 2 ?_
 refine zv .mv 2 ?_
 refine zn (aC (zv .mv 0 ?_))
 refine zv .mv 0 ?_
 refine zv .mv 0 ?_
 refine zv (.add (((l.length+4*d)+k:Nat):Int)) 3 ?_
 refine zv .mv 0 ?_
 refine zv .mv 0 ?_
 refine zv .mv 32 ?_
 refine zv (.add (((l.length+4*d)+k:Nat):Int)) 3 ?_
 refine zv .mv 0 ?_
 refine zv .len 1 ?_
 refine zv (.sub (((4*d+k):Nat):Int)) 3 ?_
 have hi19:4*d+k<16*((l.length/4)+7):=by omega
 have hj22:4*d+k<b.length:=by first | exact hi19 | (simp only[List.length_drop];omega) | (simp only[List.length_drop,List.length_take];omega) | omega
 obtain ⟨x20,hx21⟩:=ck b (4*d+k) hj22
 have hb23:=UInt8.toNat_lt x20
 refine zv (.ix 1 (4*d+k) (hi:=hi19)) 3 ?_
 refine zs (hH.q 1 rfl) (.ld af x20 (fun _ hS=>((hB2.holdsL hS) (4*d+k) _ hx21))) 1 ?_
 refine zv .mv 8 ?_
 refine zv (.xb (x20^^^((pk4 ((ah ((cutF a (l.length+4*d-4)) 1).toNat)^^^c) (ah ((cutF a (l.length+4*d-4)) 2).toNat) (ah ((cutF a (l.length+4*d-4)) 3).toNat) (ah ((cutF a (l.length+4*d-4)) 0).toNat)) k)) (u:=x20) (v:=((pk4 ((ah ((cutF a (l.length+4*d-4)) 1).toNat)^^^c) (ah ((cutF a (l.length+4*d-4)) 2).toNat) (ah ((cutF a (l.length+4*d-4)) 3).toNat) (ah ((cutF a (l.length+4*d-4)) 0).toNat)) k))) 3 ?_
 have hi24:(l.length+4*d)+k<16*((l.length/4)+7):=by omega
 have hj27:(l.length+4*d)+k<b.length:=by first | exact hi24 | (simp only[List.length_drop];omega) | (simp only[List.length_drop,List.length_take];omega) | omega
 obtain ⟨x25,hx26⟩:=ck b ((l.length+4*d)+k) hj27
 have hb28:=UInt8.toNat_lt x25
 refine zv (.ix 1 ((l.length+4*d)+k) (hi:=hi24)) 6 ?_
 obtain ⟨cur30,hcs31,hB29⟩:∃ cs,bJ cs2 (0+((l.length+4*d)+k)*1) (af.enc (x20^^^((pk4 ((ah ((cutF a (l.length+4*d-4)) 1).toNat)^^^c) (ah ((cutF a (l.length+4*d-4)) 2).toNat) (ah ((cutF a (l.length+4*d-4)) 3).toNat) (ah ((cutF a (l.length+4*d-4)) 0).toNat)) k))).toList=cs∧Bk af (16*(l.length/4+7)) cs (b.set ((l.length+4*d)+k) (x20^^^((pk4 ((ah ((cutF a (l.length+4*d-4)) 1).toNat)^^^c) (ah ((cutF a (l.length+4*d-4)) 2).toNat) (ah ((cutF a (l.length+4*d-4)) 3).toNat) (ah ((cutF a (l.length+4*d-4)) 0).toNat)) k))):=⟨_,rfl,eZ hB2 ((l.length+4*d)+k) hj27 (x20^^^((pk4 ((ah ((cutF a (l.length+4*d-4)) 1).toNat)^^^c) (ah ((cutF a (l.length+4*d-4)) 2).toNat) (ah ((cutF a (l.length+4*d-4)) 3).toNat) (ah ((cutF a (l.length+4*d-4)) 0).toNat)) k))⟩
 refine ze0 1 hH rfl (fun _ hF=>bV (C:=af) (z:=(x20^^^((pk4 ((ah ((cutF a (l.length+4*d-4)) 1).toNat)^^^c) (ah ((cutF a (l.length+4*d-4)) 2).toNat) (ah ((cutF a (l.length+4*d-4)) 3).toNat) (ah ((cutF a (l.length+4*d-4)) 0).toNat)) k))) rfl (hF.ev 0 rfl) (hF.ev 1 rfl) rfl (by kernel_rfl) (ed hB2 hj27) hcs31) trivial ?_
 clear hH
 rintro _ _ w rfl hH
 refine aD (aN (ag (aC (zv (.add ((k+1:Nat):Int)) 7 ?_))))
 refine zv .mv 1 ?_
 refine aD ?_
 exact zR3 (k+1) (b.set ((l.length+4*d)+k) (x20^^^((pk4 ((ah ((cutF a (l.length+4*d-4)) 1).toNat)^^^c) (ah ((cutF a (l.length+4*d-4)) 2).toNat) (ah ((cutF a (l.length+4*d-4)) 3).toNat) (ah ((cutF a (l.length+4*d-4)) 0).toNat)) k))) cur30 ⟨hH,(by omega),(by rw[List.length_set];exact hbl),(kZ (m:=l.length+4*d+k) hbW (by omega) (by rw[hT k (by omega),Option.some.inj (hx21.symm.trans (hbW _ (by omega)))])),hB29⟩ (by omega)
 refine aJ (ak (ak (aR (aN (ag ?_)))))
 obtain rfl:k=4:=by omega
 refine aC (zv .mv 15 ?_)
 refine zv (.add (((l.length+4*(d+1)):Nat):Int)) 1 ?_
 refine zv .mv 1 ?_
 refine aD ?_
 replace hH:HH w0 [] [[bl g1 51 (madeCells ((ac 16).enc (fun _=>0)) (((l.length/4)+7)*16))],[bl g2 5 cs2]] w:=hH.only [true,true,false]
 exact zR4 (d+1) (dbl c) cs2 b ⟨hH,(by omega),(by rw[hcc];exact rA h4 (by omega)),hbl,(fun j hj=>hbW j (by omega)),hB2⟩ (by omega)
 refine zr (zv (.eq (4*((d+nk)%nk)=16)) 3 ?_)
 refine zv .mv 1 ?_
 refine zn ?_
 refine zP (fun hc32 => ?_) (fun hc32 => ?_)
 refine br mixedOrders (by kernel_rfl) ?_
 replace hH:=hH.drew
 have hi33:0<4:=by omega
 refine rv 0 (.ia 1 4 0 (hi:=hi33)) 1 ?_
 refine rld 1 (hH.q 2 rfl) (.ld af ((cutF a (l.length+4*d-4)) 0) (fun _ hS=>((ae hS).elt hi33))) 1 ?_
 have hi34:((cutF a (l.length+4*d-4)) 0).toNat<256:=UInt8.toNat_lt _
 refine rv 2 (.ia 1 256 (((cutF a (l.length+4*d-4)) 0).toNat) (hi:=hi34)) 1 ?_
 refine rld 3 (hH.ob hR.1) (.ld af (ah (((cutF a (l.length+4*d-4)) 0).toNat)) (fun _ hS=>((ae hS).elt hi34))) 1 ?_
 have hi35:1<4:=by omega
 refine rv 4 (.ia 1 4 1 (hi:=hi35)) 0 ?_
 refine rld 5 (hH.q 2 rfl) (.ld af ((cutF a (l.length+4*d-4)) 1) (fun _ hS=>((ae hS).elt hi35))) 1 ?_
 have hi36:((cutF a (l.length+4*d-4)) 1).toNat<256:=UInt8.toNat_lt _
 refine rv 6 (.ia 1 256 (((cutF a (l.length+4*d-4)) 1).toNat) (hi:=hi36)) 1 ?_
 refine rld 7 (hH.ob hR.1) (.ld af (ah (((cutF a (l.length+4*d-4)) 1).toNat)) (fun _ hS=>((ae hS).elt hi36))) 1 ?_
 have hi37:2<4:=by omega
 refine rv 8 (.ia 1 4 2 (hi:=hi37)) 0 ?_
 refine rld 9 (hH.q 2 rfl) (.ld af ((cutF a (l.length+4*d-4)) 2) (fun _ hS=>((ae hS).elt hi37))) 1 ?_
 have hi38:((cutF a (l.length+4*d-4)) 2).toNat<256:=UInt8.toNat_lt _
 refine rv 10 (.ia 1 256 (((cutF a (l.length+4*d-4)) 2).toNat) (hi:=hi38)) 1 ?_
 refine rld 11 (hH.ob hR.1) (.ld af (ah (((cutF a (l.length+4*d-4)) 2).toNat)) (fun _ hS=>((ae hS).elt hi38))) 1 ?_
 have hi39:3<4:=by omega
 refine rv 12 (.ia 1 4 3 (hi:=hi39)) 0 ?_
 refine rld 13 (hH.q 2 rfl) (.ld af ((cutF a (l.length+4*d-4)) 3) (fun _ hS=>((ae hS).elt hi39))) 1 ?_
 have hi40:((cutF a (l.length+4*d-4)) 3).toNat<256:=UInt8.toNat_lt _
 refine rv 14 (.ia 1 256 (((cutF a (l.length+4*d-4)) 3).toNat) (hi:=hi40)) 1 ?_
 refine rld 15 (hH.ob hR.1) (.ld af (ah (((cutF a (l.length+4*d-4)) 3).toNat)) (fun _ hS=>((ae hS).elt hi40))) 1 ?_
 refine rv 16 (v:=((ac 4).val (pk4 (ah ((cutF a (l.length+4*d-4)) 0).toNat) (ah ((cutF a (l.length+4*d-4)) 1).toNat) (ah ((cutF a (l.length+4*d-4)) 2).toNat) (ah ((cutF a (l.length+4*d-4)) 3).toNat)))) (fun _ _ hF=>aE (cells:=(ac 4).enc (pk4 (ah ((cutF a (l.length+4*d-4)) 0).toNat) (ah ((cutF a (l.length+4*d-4)) 1).toNat) (ah ((cutF a (l.length+4*d-4)) 2).toNat) (ah ((cutF a (l.length+4*d-4)) 3).toNat))) (vals:=[(0,(.int .u8 ((((ah (((cutF a (l.length+4*d-4)) 0).toNat)).toNat):Nat):Int))),(1,(.int .u8 ((((ah (((cutF a (l.length+4*d-4)) 1).toNat)).toNat):Nat):Int))),(2,(.int .u8 ((((ah (((cutF a (l.length+4*d-4)) 2).toNat)).toNat):Nat):Int))),(3,(.int .u8 ((((ah (((cutF a (l.length+4*d-4)) 3).toNat)).toNat):Nat):Int)))]) rfl (EvP.cons (v:=(.int .u8 ((((ah (((cutF a (l.length+4*d-4)) 0).toNat)).toNat):Nat):Int))) (hF.ev 3 rfl) (EvP.cons (v:=(.int .u8 ((((ah (((cutF a (l.length+4*d-4)) 1).toNat)).toNat):Nat):Int))) (hF.ev 2 rfl) (EvP.cons (v:=(.int .u8 ((((ah (((cutF a (l.length+4*d-4)) 2).toNat)).toNat):Nat):Int))) (hF.ev 1 rfl) (EvP.cons (v:=(.int .u8 ((((ah (((cutF a (l.length+4*d-4)) 3).toNat)).toNat):Nat):Int))) (hF.ev 0 rfl) EvP.nil)))) (by kernel_rfl) _) 15 ?_
 refine ao 17 ?_
 refine re0 17 2 hH rfl (.sw (ac 4) (cutF a (l.length+4*d-4)) (pk4 (ah ((cutF a (l.length+4*d-4)) 0).toNat) (ah ((cutF a (l.length+4*d-4)) 1).toNat) (ah ((cutF a (l.length+4*d-4)) 2).toNat) (ah ((cutF a (l.length+4*d-4)) 3).toNat))) trivial (pgo [] (pgo [] (pgo [] (pgo [] (pgo [] (pgo [] (pgo [] (pgo [] (.nil _ []))))))))) ?_
 clear hH
 rintro _ _ w rfl hH
 refine ⟨an,bQ (by kernel_rfl) ?_⟩
 refine aN (ag ?_)
 have hT:=Dc hnk h4 (by omega) haW (by omega) (by omega)
 refine zr (zs (hH.q 2 rfl) (.l0 (ac 4) (pk4 (ah ((cutF a (l.length+4*d-4)) 0).toNat) (ah ((cutF a (l.length+4*d-4)) 1).toNat) (ah ((cutF a (l.length+4*d-4)) 2).toNat) (ah ((cutF a (l.length+4*d-4)) 3).toNat))) 3 ?_)
 refine zv .mv 0 ?_
 refine zn (ai ?_)
 refine zL3 (fun (k:Nat) (_:List UInt8) (_:Array Value)=>[(84,(.int .i64 k)),(83,((ac 4).val (pk4 (ah ((cutF a (l.length+4*d-4)) 0).toNat) (ah ((cutF a (l.length+4*d-4)) 1).toNat) (ah ((cutF a (l.length+4*d-4)) 2).toNat) (ah ((cutF a (l.length+4*d-4)) 3).toNat)))),(6,(.int .i64 (((l.length+4*d):Nat):Int))),(5,(.int .u8 c.toNat)),(4,(.slice (some ⟨g2,0,none⟩) (16*((l.length/4)+7)) (16*((l.length/4)+7)))),(3,(.slice (some ⟨g1,0,none⟩) ((l.length/4)+7) ((l.length/4)+7))),(0,(.slice A l.length z))]) (fun k b cs2 w=>HH w0 [] [[bl g1 51 (madeCells ((ac 16).enc (fun _=>0)) (((l.length/4)+7)*16))],[bl g2 5 cs2],[bl g7 104 ((ac 4).enc (pk4 (ah ((cutF a (l.length+4*d-4)) 0).toNat) (ah ((cutF a (l.length+4*d-4)) 1).toNat) (ah ((cutF a (l.length+4*d-4)) 2).toNat) (ah ((cutF a (l.length+4*d-4)) 3).toNat)))]] w∧(k≤4)∧(b.length=(16*(l.length/4+7)))∧(∀ j,j<l.length+4*d+k→b[j]?=some (aeW l j))∧(Bk af (16*(l.length/4+7)) cs2 b)) (fun k _ _=>4-k) 0 a cs ⟨hH,(Nat.zero_le _),hal,haW,hB⟩ ?_
 clear hH
 rintro k b cs2 w ⟨hH,hk,hbl,hbW,hB2⟩
 refine zr (zv (.lt (k<4)) 0 ?_)
 refine zn (aj ?_)
 refine zP (fun hc41 => ?_) (fun hc41 => ?_)
 refine aA (ag (aj (ai (zr (zv .mv 1 ?_)))))
 have hi42:k<4:=by omega
 refine zv (v:=(.int .u8 (((((pk4 (ah ((cutF a (l.length+4*d-4)) 0).toNat) (ah ((cutF a (l.length+4*d-4)) 1).toNat) (ah ((cutF a (l.length+4*d-4)) 2).toNat) (ah ((cutF a (l.length+4*d-4)) 3).toNat)) k).toNat):Nat):Int))) (fun _ _ hF=>e8 (S:=sBy) (e:=5) (n:=4) (i:=k) (f:=(pk4 (ah ((cutF a (l.length+4*d-4)) 0).toNat) (ah ((cutF a (l.length+4*d-4)) 1).toNat) (ah ((cutF a (l.length+4*d-4)) 2).toNat) (ah ((cutF a (l.length+4*d-4)) 3).toNat))) rfl (by kernel_rfl) (by kernel_rfl) (hF.ev 2 rfl) (hF.ev 1 rfl) rfl hi42) 0 ?_
 refine zv .mv 2 ?_
 refine zv .mv 2 ?_
 refine zn (aC (zv .mv 0 ?_))
 refine zv .mv 0 ?_
 refine zv .mv 0 ?_
 refine zv (.add (((l.length+4*d)+k:Nat):Int)) 3 ?_
 refine zv .mv 0 ?_
 refine zv .mv 0 ?_
 refine zv .mv 32 ?_
 refine zv (.add (((l.length+4*d)+k:Nat):Int)) 3 ?_
 refine zv .mv 0 ?_
 refine zv .len 1 ?_
 refine zv (.sub (((4*d+k):Nat):Int)) 3 ?_
 have hi43:4*d+k<16*((l.length/4)+7):=by omega
 have hj46:4*d+k<b.length:=by first | exact hi43 | (simp only[List.length_drop];omega) | (simp only[List.length_drop,List.length_take];omega) | omega
 obtain ⟨x44,hx45⟩:=ck b (4*d+k) hj46
 have hb47:=UInt8.toNat_lt x44
 refine zv (.ix 1 (4*d+k) (hi:=hi43)) 3 ?_
 refine zs (hH.q 1 rfl) (.ld af x44 (fun _ hS=>((hB2.holdsL hS) (4*d+k) _ hx45))) 1 ?_
 refine zv .mv 8 ?_
 refine zv (.xb (x44^^^((pk4 (ah ((cutF a (l.length+4*d-4)) 0).toNat) (ah ((cutF a (l.length+4*d-4)) 1).toNat) (ah ((cutF a (l.length+4*d-4)) 2).toNat) (ah ((cutF a (l.length+4*d-4)) 3).toNat)) k)) (u:=x44) (v:=((pk4 (ah ((cutF a (l.length+4*d-4)) 0).toNat) (ah ((cutF a (l.length+4*d-4)) 1).toNat) (ah ((cutF a (l.length+4*d-4)) 2).toNat) (ah ((cutF a (l.length+4*d-4)) 3).toNat)) k))) 3 ?_
 have hi48:(l.length+4*d)+k<16*((l.length/4)+7):=by omega
 have hj51:(l.length+4*d)+k<b.length:=by first | exact hi48 | (simp only[List.length_drop];omega) | (simp only[List.length_drop,List.length_take];omega) | omega
 obtain ⟨x49,hx50⟩:=ck b ((l.length+4*d)+k) hj51
 have hb52:=UInt8.toNat_lt x49
 refine zv (.ix 1 ((l.length+4*d)+k) (hi:=hi48)) 6 ?_
 obtain ⟨cur54,hcs55,hB53⟩:∃ cs,bJ cs2 (0+((l.length+4*d)+k)*1) (af.enc (x44^^^((pk4 (ah ((cutF a (l.length+4*d-4)) 0).toNat) (ah ((cutF a (l.length+4*d-4)) 1).toNat) (ah ((cutF a (l.length+4*d-4)) 2).toNat) (ah ((cutF a (l.length+4*d-4)) 3).toNat)) k))).toList=cs∧Bk af (16*(l.length/4+7)) cs (b.set ((l.length+4*d)+k) (x44^^^((pk4 (ah ((cutF a (l.length+4*d-4)) 0).toNat) (ah ((cutF a (l.length+4*d-4)) 1).toNat) (ah ((cutF a (l.length+4*d-4)) 2).toNat) (ah ((cutF a (l.length+4*d-4)) 3).toNat)) k))):=⟨_,rfl,eZ hB2 ((l.length+4*d)+k) hj51 (x44^^^((pk4 (ah ((cutF a (l.length+4*d-4)) 0).toNat) (ah ((cutF a (l.length+4*d-4)) 1).toNat) (ah ((cutF a (l.length+4*d-4)) 2).toNat) (ah ((cutF a (l.length+4*d-4)) 3).toNat)) k))⟩
 refine ze0 1 hH rfl (fun _ hF=>bV (C:=af) (z:=(x44^^^((pk4 (ah ((cutF a (l.length+4*d-4)) 0).toNat) (ah ((cutF a (l.length+4*d-4)) 1).toNat) (ah ((cutF a (l.length+4*d-4)) 2).toNat) (ah ((cutF a (l.length+4*d-4)) 3).toNat)) k))) rfl (hF.ev 0 rfl) (hF.ev 1 rfl) rfl (by kernel_rfl) (ed hB2 hj51) hcs55) trivial ?_
 clear hH
 rintro _ _ w rfl hH
 refine aD (aN (ag (aC (zv (.add ((k+1:Nat):Int)) 7 ?_))))
 refine zv .mv 1 ?_
 refine aD ?_
 exact zR3 (k+1) (b.set ((l.length+4*d)+k) (x44^^^((pk4 (ah ((cutF a (l.length+4*d-4)) 0).toNat) (ah ((cutF a (l.length+4*d-4)) 1).toNat) (ah ((cutF a (l.length+4*d-4)) 2).toNat) (ah ((cutF a (l.length+4*d-4)) 3).toNat)) k))) cur54 ⟨hH,(by omega),(by rw[List.length_set];exact hbl),(kZ (m:=l.length+4*d+k) hbW (by omega) (by rw[hT k (by omega),Option.some.inj (hx45.symm.trans (hbW _ (by omega)))])),hB53⟩ (by omega)
 refine aJ (ak (ak (aR (aN (ag ?_)))))
 obtain rfl:k=4:=by omega
 refine aC (zv .mv 15 ?_)
 refine zv (.add (((l.length+4*(d+1)):Nat):Int)) 1 ?_
 refine zv .mv 1 ?_
 refine aD ?_
 replace hH:HH w0 [] [[bl g1 51 (madeCells ((ac 16).enc (fun _=>0)) (((l.length/4)+7)*16))],[bl g2 5 cs2]] w:=hH.only [true,true,false]
 exact zR4 (d+1) c cs2 b ⟨hH,(by omega),(hcc.trans (iS h4 (by omega))),hbl,(fun j hj=>hbW j (by omega)),hB2⟩ (by omega)
 refine aA (aN (ag ?_))
 have hT:=Dd hnk h4 (by omega) haW (by omega) (by omega)
 refine zr (zs (hH.q 2 rfl) (.l0 (ac 4) (cutF a (l.length+4*d-4))) 3 ?_)
 refine zv .mv 0 ?_
 refine zn (ai ?_)
 refine zL3 (fun (k:Nat) (_:List UInt8) (_:Array Value)=>[(84,(.int .i64 k)),(83,((ac 4).val (cutF a (l.length+4*d-4)))),(6,(.int .i64 (((l.length+4*d):Nat):Int))),(5,(.int .u8 c.toNat)),(4,(.slice (some ⟨g2,0,none⟩) (16*((l.length/4)+7)) (16*((l.length/4)+7)))),(3,(.slice (some ⟨g1,0,none⟩) ((l.length/4)+7) ((l.length/4)+7))),(0,(.slice A l.length z))]) (fun k b cs2 w=>HH w0 [] [[bl g1 51 (madeCells ((ac 16).enc (fun _=>0)) (((l.length/4)+7)*16))],[bl g2 5 cs2],[bl g7 104 ((ac 4).enc (cutF a (l.length+4*d-4)))]] w∧(k≤4)∧(b.length=(16*(l.length/4+7)))∧(∀ j,j<l.length+4*d+k→b[j]?=some (aeW l j))∧(Bk af (16*(l.length/4+7)) cs2 b)) (fun k _ _=>4-k) 0 a cs ⟨hH,(Nat.zero_le _),hal,haW,hB⟩ ?_
 clear hH
 rintro k b cs2 w ⟨hH,hk,hbl,hbW,hB2⟩
 refine zr (zv (.lt (k<4)) 0 ?_)
 refine zn (aj ?_)
 refine zP (fun hc56 => ?_) (fun hc56 => ?_)
 refine aA (ag (aj (ai (zr (zv .mv 1 ?_)))))
 have hi57:k<4:=by omega
 refine zv (v:=(.int .u8 (((((cutF a (l.length+4*d-4)) k).toNat):Nat):Int))) (fun _ _ hF=>e8 (S:=sBy) (e:=5) (n:=4) (i:=k) (f:=(cutF a (l.length+4*d-4))) rfl (by kernel_rfl) (by kernel_rfl) (hF.ev 2 rfl) (hF.ev 1 rfl) rfl hi57) 0 ?_
 refine zv .mv 2 ?_
 refine zv .mv 2 ?_
 refine zn (aC (zv .mv 0 ?_))
 refine zv .mv 0 ?_
 refine zv .mv 0 ?_
 refine zv (.add (((l.length+4*d)+k:Nat):Int)) 3 ?_
 refine zv .mv 0 ?_
 refine zv .mv 0 ?_
 refine zv .mv 32 ?_
 refine zv (.add (((l.length+4*d)+k:Nat):Int)) 3 ?_
 refine zv .mv 0 ?_
 refine zv .len 1 ?_
 refine zv (.sub (((4*d+k):Nat):Int)) 3 ?_
 have hi58:4*d+k<16*((l.length/4)+7):=by omega
 have hj61:4*d+k<b.length:=by first | exact hi58 | (simp only[List.length_drop];omega) | (simp only[List.length_drop,List.length_take];omega) | omega
 obtain ⟨x59,hx60⟩:=ck b (4*d+k) hj61
 have hb62:=UInt8.toNat_lt x59
 refine zv (.ix 1 (4*d+k) (hi:=hi58)) 3 ?_
 refine zs (hH.q 1 rfl) (.ld af x59 (fun _ hS=>((hB2.holdsL hS) (4*d+k) _ hx60))) 1 ?_
 refine zv .mv 8 ?_
 refine zv (.xb (x59^^^((cutF a (l.length+4*d-4)) k)) (u:=x59) (v:=((cutF a (l.length+4*d-4)) k))) 3 ?_
 have hi63:(l.length+4*d)+k<16*((l.length/4)+7):=by omega
 have hj66:(l.length+4*d)+k<b.length:=by first | exact hi63 | (simp only[List.length_drop];omega) | (simp only[List.length_drop,List.length_take];omega) | omega
 obtain ⟨x64,hx65⟩:=ck b ((l.length+4*d)+k) hj66
 have hb67:=UInt8.toNat_lt x64
 refine zv (.ix 1 ((l.length+4*d)+k) (hi:=hi63)) 6 ?_
 obtain ⟨cur69,hcs70,hB68⟩:∃ cs,bJ cs2 (0+((l.length+4*d)+k)*1) (af.enc (x59^^^((cutF a (l.length+4*d-4)) k))).toList=cs∧Bk af (16*(l.length/4+7)) cs (b.set ((l.length+4*d)+k) (x59^^^((cutF a (l.length+4*d-4)) k))):=⟨_,rfl,eZ hB2 ((l.length+4*d)+k) hj66 (x59^^^((cutF a (l.length+4*d-4)) k))⟩
 refine ze0 1 hH rfl (fun _ hF=>bV (C:=af) (z:=(x59^^^((cutF a (l.length+4*d-4)) k))) rfl (hF.ev 0 rfl) (hF.ev 1 rfl) rfl (by kernel_rfl) (ed hB2 hj66) hcs70) trivial ?_
 clear hH
 rintro _ _ w rfl hH
 refine aD (aN (ag (aC (zv (.add ((k+1:Nat):Int)) 7 ?_))))
 refine zv .mv 1 ?_
 refine aD ?_
 exact zR3 (k+1) (b.set ((l.length+4*d)+k) (x59^^^((cutF a (l.length+4*d-4)) k))) cur69 ⟨hH,(by omega),(by rw[List.length_set];exact hbl),(kZ (m:=l.length+4*d+k) hbW (by omega) (by rw[hT k (by omega),Option.some.inj (hx60.symm.trans (hbW _ (by omega)))])),hB68⟩ (by omega)
 refine aJ (ak (ak (aR (aN (ag ?_)))))
 obtain rfl:k=4:=by omega
 refine aC (zv .mv 15 ?_)
 refine zv (.add (((l.length+4*(d+1)):Nat):Int)) 1 ?_
 refine zv .mv 1 ?_
 refine aD ?_
 replace hH:HH w0 [] [[bl g1 51 (madeCells ((ac 16).enc (fun _=>0)) (((l.length/4)+7)*16))],[bl g2 5 cs2]] w:=hH.only [true,true,false]
 exact zR4 (d+1) c cs2 b ⟨hH,(by omega),(hcc.trans (iS h4 (by omega))),hbl,(fun j hj=>hbW j (by omega)),hB2⟩ (by omega)
 refine aJ (ak (ak (aR (ag (aj ?_)))))
 obtain rfl:a=lst (16*(l.length/4+7)) (aeW l):=bR (fun j hj=>haW j (by omega)) hal
 refine zr (zv .mv 39 ?_)
 refine zv .len 1 ?_
 refine zv .mv 0 ?_
 refine zn (ai ?_)
 refine zL3 (fun (i:Nat) (_:List (Nat→UInt8)) (_:Array Value)=>[(107,(.int .i64 i)),(106,(.int .i64 ((((l.length/4)+7):Nat):Int))),(4,(.slice (some ⟨g2,0,none⟩) (16*((l.length/4)+7)) (16*((l.length/4)+7)))),(3,(.slice (some ⟨g1,0,none⟩) ((l.length/4)+7) ((l.length/4)+7)))]) (fun i kl cs3 w=>HH w0 [] [[bl g1 51 cs3],[bl g2 5 cs]] w∧(i≤(l.length/4+7))∧(kl.length=(l.length/4+7))∧(∀ j,j<i→kl[j]?=some (cutF (lst (16*(l.length/4+7)) (aeW l)) (16*j)))∧(Bk (ac 16) (l.length/4+7) cs3 kl)) (fun i _ _=>(l.length/4+7)-i) 0 (List.replicate ((l.length/4)+7) (fun _=>0)) (madeCells ((ac 16).enc (fun _=>0)) (((l.length/4)+7)*16)) ⟨hH,(Nat.zero_le _),List.length_replicate,(fun j hj=>absurd hj (Nat.not_lt_zero _)),(Bk.make (C:=(ac 16)) (fun _=>0) ((l.length/4)+7) (ltb rfl) (by unfold maxLen;omega))⟩ ?_
 clear hH
 rintro i kl cs3 w ⟨hH,hi,hkl,hkW,hB3⟩
 refine zr (zv (.lt (i<(l.length/4)+7)) 0 ?_)
 refine zn (aj ?_)
 refine zP (fun hc71 => ?_) (fun hc71 => ?_)
 refine aA (ag (aj (ai (zr (zv .mv 1 ?_)))))
 refine zv .mv 1 ?_
 refine zn (aC (zv .mv 0 ?_))
 refine zv .mv 0 ?_
 refine zv .mv 0 ?_
 refine zv .mv 8 ?_
 refine zv (.mul ((16*i:Nat):Int)) 1 ?_
 refine zv (v:=(.slice (some ⟨g2,0+(16*i)*1,none⟩) ((16*((l.length/4)+7))-(16*i)) ((16*((l.length/4)+7))-(16*i)))) (fun _ _ hF=>eu (k:=16*i) (e:=5) (sz:=1) rfl (by kernel_rfl) (by kernel_rfl) (hF.ev 1 rfl) (hF.ev 0 rfl) rfl (by omega) (by omega)) 3 ?_
 refine zv (v:=(.pointer (some ⟨g2,0+(16*i)*1,none⟩))) (fun _ _ hF=>bS (m:=16) (e:=5) rfl (by kernel_rfl) (hF.ev 0 rfl) (by omega)) 1 ?_
 refine zs (hH.q 1 rfl) (.ld (ac 16) (cutF (lst (16*(l.length/4+7)) (aeW l)) (16*i)) (fun _ hS=>((hB.holdsL hS).arr (16*i) 16 (by first | omega | (rw[ap];omega) | (simp only[List.length_drop,List.length_take,ap];omega) | (simp only[List.length_drop,List.length_take];omega))))) 1 ?_
 have hi72:i<(l.length/4)+7:=by omega
 have hj75:i<kl.length:=by first | exact hi72 | (simp only[List.length_drop];omega) | (simp only[List.length_drop,List.length_take];omega) | omega
 obtain ⟨x73,hx74⟩:=ck kl i hj75
 refine zv (.ix 16 i (hi:=hi72)) 6 ?_
 obtain ⟨cur77,hcs78,hB76⟩:∃ cs,bJ cs3 (0+i*16) ((ac 16).enc (cutF (lst (16*(l.length/4+7)) (aeW l)) (16*i))).toList=cs∧Bk (ac 16) (l.length/4+7) cs (kl.set i (cutF (lst (16*(l.length/4+7)) (aeW l)) (16*i))):=⟨_,rfl,eZ hB3 i hj75 (cutF (lst (16*(l.length/4+7)) (aeW l)) (16*i))⟩
 refine ze0 0 hH rfl (fun _ hF=>bV (C:=(ac 16)) (z:=(cutF (lst (16*(l.length/4+7)) (aeW l)) (16*i))) rfl (hF.ev 0 rfl) (hF.ev 1 rfl) rfl (by kernel_rfl) (ed hB3 hj75) hcs78) trivial ?_
 clear hH
 rintro _ _ w rfl hH
 refine aD (aN (ag (aC (zv (.add ((i+1:Nat):Int)) 7 ?_))))
 refine zv .mv 1 ?_
 refine aD ?_
 exact zR3 (i+1) (kl.set i (cutF (lst (16*(l.length/4+7)) (aeW l)) (16*i))) cur77 ⟨hH,(by omega),(by rw[List.length_set];exact hkl),(Da hkW (by omega) rfl),hB76⟩ (by omega)
 refine aJ (ak (ak (aR (ag (zr (zv .mv 31 ?_))))))
 refine zv .mv 1 ?_
 refine zn (ar (aW 0 rfl rfl ?_))
 obtain rfl:i=(l.length/4+7):=by omega
 obtain rfl:kl=aeK l:=na hkW hkl
 exact ⟨_,_,rfl,hB3.own 51 g1 (nd l),hH.out1 [true,false] rfl⟩
theorem sZ(A:Option Addr)(m c:Nat)(ks:List (Nat→UInt8))(K:Nat→Nat→UInt8)(r:Nat)(hm:m=r+1)(h1:1≤r)(hr:r≤100)(hK:∀ i,i≤r→ks[i]?=some (K i))(b:Nat→UInt8):Pure Tryz.prog 60 #[(.slice A m c),((ac 16).val b)] (fun w=>w.heap[0]?=some (.cells ((ac 256).enc ah) 103 (0,0))∧Vu (ac 16) w A m c ks) ((ac 16).val (An K r b)):=by
 refine pU Tryz.func60 Tryz.ntmps60 ?_
 intro w0 hH hR
 have hlen:=hR.2.len
 refine zr (zB hH (ac 16) b 2 ?_)
 clear hH
 intro g1 w hH
 refine zA hH (ac 16) (fun _=>0) 0 ?_
 clear hH
 intro g2 w hH
 refine zn (zr (zv .mv 0 ?_))
 refine zv .len 1 ?_
 refine zv (.sub ((r:Nat):Int)) 1 ?_
 refine zv .mv 1 ?_
 refine zn ?_
 have hK0:=hK 0 (by omega)
 have hKr:=hK r (Nat.le_refl _)
 refine zx ?_
 replace hH:=hH.drew
 refine rld 0 (hH.q 0 rfl) (.l0 (ac 16) b) 0 ?_
 refine rv 1 .mv 0 ?_
 have hi3:0<m:=by omega
 obtain ⟨b4,off5,rfl,hL6,hb7,hR8⟩:=hR.2.blk (by decide) (Off.nil _ _) (by omega)
 have:=hR.2.cap
 have hj11:0<ks.length:=by first | exact hi3 | (simp only[List.length_drop];omega) | (simp only[List.length_drop,List.length_take];omega) | omega
 refine rv 2 (.ix 16 0 (hi:=hi3)) 1 ?_
 refine rld 3 (S:=fun w=>HoldsL (ac 16) w b4 off5 ks) (hH.holdsL hL6 hb7 hR8) (.ld (ac 16) (K 0) (fun _ hS=>(hS 0 _ hK0))) 1 ?_
 refine ao 4 (rpc 4 Tryz.func99 (gA b (K 0)) trivial hH 3 (pgo [] (pgo [] (.nil _ []))) ?_)
 clear hH
 intro w hH
 refine ⟨an,ao 5 ?_⟩
 refine re0 5 0 hH rfl (.sw (ac 16) b (added b (K 0))) trivial (.nil _ []) ?_
 clear hH
 rintro _ _ w rfl hH
 refine ⟨an,rn ?_⟩
 refine aj (zr (zv .mv 1 ?_))
 refine zv .mv 0 ?_
 refine zv (v:=(.slice (et (some ⟨b4,off5,none⟩) c 1 16) (r-1) (c-1))) (fun _ _ hF=>jQ (k:=1) (h:=r) (e:=51) (sz:=16) rfl (by kernel_rfl) (by kernel_rfl) (hF.ev 1 rfl) rfl (hF.ev 0 rfl) rfl rfl (by omega) (by omega)) 3 ?_
 refine zv .len 0 ?_
 refine zv .mv 0 ?_
 refine zn (ai ?_)
 have he12:(ac 16).enc (enM ah K b 0)=(ac 16).enc (added b (K 0)):=aB (fun j _=>rfl)
 replace hH:HH w0 [] [[bl g1 51 ((ac 16).enc (enM ah K b 0))],[bl g2 51 ((ac 16).enc (fun _=>0))]] w:=by rw[he12];exact hH
 refine zL1 (fun (i:Nat)=>[(20,(.int .i64 i)),(19,(.int .i64 ((((r-1)):Nat):Int))),(18,(.slice (et (some ⟨b4,off5,none⟩) c 1 16) (r-1) (c-1))),(5,(.int .i64 r)),(4,(.pointer (some ⟨g2,0,none⟩))),(3,(.pointer (some ⟨g1,0,none⟩))),(0,(.slice (some ⟨b4,off5,none⟩) m c))]) (fun i w=>HH w0 [] [[bl g1 51 ((ac 16).enc (enM ah K b i))],[bl g2 51 ((ac 16).enc (fun _=>0))]] w∧(i≤(r-1))) (fun i=>(r-1)-i) 0 ⟨hH,(Nat.zero_le _)⟩ ?_
 clear hH
 rintro i w ⟨hH,hi⟩
 refine zr (zv (.lt (i<(r-1))) 0 ?_)
 refine zn (aj ?_)
 refine zP (fun hc13 => ?_) (fun hc13 => ?_)
 refine aA (ag (aj (ai ?_)))
 have hKi:((ks.take r).drop 1)[i]?=some (K (i+1)):=by rw[List.getElem?_drop,List.getElem?_take,if_pos (by omega),Nat.add_comm];exact hK _ (by omega)
 refine zr ?_
 have hi14:i<(r-1):=by omega
 have hj17:i<((ks.take r).drop 1).length:=(by rw[List.length_drop,List.length_take];omega)
 refine zv (v:=(.pointer (some ⟨b4,off5+1*16+i*16,none⟩))) (fun _ _ hF=>tz (i:=i) (e:=51) (sz:=16) rfl (by kernel_rfl) (by kernel_rfl) (hF.ev 3 rfl) (bu (by omega)) (hF.ev 1 rfl) rfl hi14) 1 ?_
 refine zs (S:=fun w=>HoldsL (ac 16) w b4 off5 ks) (hH.holdsL hL6 hb7 hR8) (.ld (ac 16) (K (i+1)) (fun _ hS=>((hS.cut 1 r) i _ hKi))) 1 ?_
 refine zA hH (ac 16) (fun _=>0) 0 ?_
 clear hH
 intro g18 w hH
 refine zW 2 hH rfl (K (i+1)) ?_
 clear hH
 intro w hH
 refine zn (br mixedOrders (by kernel_rfl) ?_)
 replace hH:=hH.drew
 refine rld 0 (hH.q 0 rfl) (.l0 (ac 16) (enM ah K b i)) 2 ?_
 refine rld 4 (hH.q 2 rfl) (.l0 (ac 16) (K (i+1))) 2 ?_
 refine ao 1 (rpc 1 Tryz.func102 (rt (enM ah K b i)) (hH.oldBlk hR.1 (by simp)) hH 2 (.keep (pgo [] (.nil _ []))) ?_)
 clear hH
 intro w hH
 refine ⟨am (hH.blk 2 rfl) an,?_⟩
 refine ao 2 (rpc 2 Tryz.func101 (ml (boxed ah (enM ah K b i))) trivial hH 1 (.keep (.nil _ [])) ?_)
 clear hH
 intro w hH
 refine ⟨am (hH.blk 2 rfl) an,?_⟩
 refine ao 3 (rpc 3 Tryz.func100 (ru (shifted (boxed ah (enM ah K b i)))) trivial hH 1 (.keep (.nil _ [])) ?_)
 clear hH
 intro w hH
 refine ⟨am (hH.blk 2 rfl) an,?_⟩
 refine ao 5 (rpc 5 Tryz.func99 (gA (mixed (shifted (boxed ah (enM ah K b i)))) (K (i+1))) trivial hH 3 (pgo [] (.nil _ [])) ?_)
 clear hH
 intro w hH
 refine ⟨an,ao 6 ?_⟩
 refine re0 6 0 hH rfl (.sw (ac 16) (enM ah K b i) (added (mixed (shifted (boxed ah (enM ah K b i)))) (K (i+1)))) trivial (.nil _ []) ?_
 clear hH
 rintro _ _ w rfl hH
 refine ⟨an,bQ (by kernel_rfl) ?_⟩
 refine aN (ag (aC (zv (.add ((i+1:Nat):Int)) 3 ?_)))
 refine zv .mv 1 ?_
 refine aD ?_
 replace hH:HH w0 [] [[bl g1 51 ((ac 16).enc (added (mixed (shifted (boxed ah (enM ah K b i)))) (K (i+1))))],[bl g2 51 ((ac 16).enc (fun _=>0))]] w:=hH.only [true,true,false]
 have he19:(ac 16).enc (enM ah K b (i+1))=(ac 16).enc (added (mixed (shifted (boxed ah (enM ah K b i)))) (K (i+1))):=aB (fun j _=>rfl)
 replace hH:HH w0 [] [[bl g1 51 ((ac 16).enc (enM ah K b (i+1)))],[bl g2 51 ((ac 16).enc (fun _=>0))]] w:=by rw[he19];exact hH
 exact zR1 (i+1) ⟨hH,(by omega)⟩ (by omega)
 refine aJ (ak (ak (aR (ag ?_))))
 obtain rfl:i=r-1:=by omega
 refine zx ?_
 replace hH:=hH.drew
 refine rld 0 (hH.q 0 rfl) (.l0 (ac 16) (enM ah K b (r-1))) 79 ?_
 refine rv 3 .mv 8 ?_
 refine rv 4 .mv 4 ?_
 have hi20:r<m:=by omega
 have hj23:r<ks.length:=by first | exact hi20 | (simp only[List.length_drop];omega) | (simp only[List.length_drop,List.length_take];omega) | omega
 refine rv 5 (.ix 16 r (hi:=hi20)) 3 ?_
 refine rld 6 (S:=fun w=>HoldsL (ac 16) w b4 off5 ks) (hH.holdsL hL6 hb7 hR8) (.ld (ac 16) (K r) (fun _ hS=>(hS r _ hKr))) 1 ?_
 refine ao 1 (rpc 1 Tryz.func102 (rt (enM ah K b (r-1))) (hH.oldBlk hR.1 (by simp)) hH 2 (.keep (pgo [] (.nil _ []))) ?_)
 clear hH
 intro w hH
 refine ⟨am (hH.holdsL hL6 hb7 hR8) an,?_⟩
 refine ao 2 (rpc 2 Tryz.func101 (ml (boxed ah (enM ah K b (r-1)))) trivial hH 1 (.keep (.nil _ [])) ?_)
 clear hH
 intro w hH
 refine ⟨am (hH.holdsL hL6 hb7 hR8) an,?_⟩
 refine ao 7 (rpc 7 Tryz.func99 (gA (shifted (boxed ah (enM ah K b (r-1)))) (K r)) trivial hH 3 (pgo [] (.nil _ [])) ?_)
 clear hH
 intro w hH
 refine ⟨an,ao 8 ?_⟩
 refine re0 8 1 hH rfl (.sw (ac 16) (fun _=>0) (added (shifted (boxed ah (enM ah K b (r-1)))) (K r))) trivial (.nil _ []) ?_
 clear hH
 rintro _ _ w rfl hH
 refine ⟨an,rn ?_⟩
 refine ar (aI 1 (hH.blk 1 rfl) rfl rfl (by kernel_rfl) (Cod.size _ _) (by kernel_rfl) ?_)
 exact zE hH
theorem s9(g:Nat)(A:Option Addr)(m c:Nat)(ks:List (Nat→UInt8))(K:Nat→Nat→UInt8)(r:Nat)(hm:m=r+1)(h1:1≤r)(hr:r≤100)(hK:∀ i,i≤r→ks[i]?=some (K i))(b:Nat→UInt8):Pure Tryz.prog 92 #[(.slice A m c),(.pointer (some ⟨g,0,none⟩)),((ac 16).val b)] (fun w=>w.heap[g]?=some (.cells ((ac 256).enc (bk ah 256)) 103 (0,0))∧Vu (ac 16) w A m c ks) ((ac 16).val (Ao K r b)):=by
 refine pU Tryz.func92 Tryz.ntmps92 ?_
 intro w0 hH hR
 have hlen:=hR.2.len
 refine zr (zB hH (ac 16) b 4 ?_)
 clear hH
 intro g1 w hH
 refine zA hH (ac 16) (fun _=>0) 0 ?_
 clear hH
 intro g2 w hH
 refine zn (zr (zv .mv 0 ?_))
 refine zv .len 1 ?_
 refine zv (.sub ((r:Nat):Int)) 1 ?_
 refine zv .mv 1 ?_
 refine zn ?_
 have hK0:=hK 0 (by omega)
 have hKr:=hK r (Nat.le_refl _)
 refine zx ?_
 replace hH:=hH.drew
 refine rv 0 .mv 0 ?_
 refine rld 1 (hH.q 0 rfl) (.l0 (ac 16) b) 0 ?_
 refine rv 2 .mv 0 ?_
 refine rv 3 .mv 0 ?_
 have hi3:r<m:=by omega
 obtain ⟨b4,off5,rfl,hL6,hb7,hR8⟩:=hR.2.blk (by decide) (Off.nil _ _) (by omega)
 have:=hR.2.cap
 have hj11:r<ks.length:=by first | exact hi3 | (simp only[List.length_drop];omega) | (simp only[List.length_drop,List.length_take];omega) | omega
 refine rv 4 (.ix 16 r (hi:=hi3)) 3 ?_
 refine rld 5 (S:=fun w=>HoldsL (ac 16) w b4 off5 ks) (hH.holdsL hL6 hb7 hR8) (.ld (ac 16) (K r) (fun _ hS=>(hS r _ hKr))) 1 ?_
 refine ao 6 (rpc 6 Tryz.func99 (gA b (K r)) trivial hH 3 (pgo [] (pgo [] (.nil _ []))) ?_)
 clear hH
 intro w hH
 refine ⟨an,?_⟩
 refine ao 7 (rpc 7 Tryz.func130 (jG (added b (K r))) trivial hH 1 (.nil _ []) ?_)
 clear hH
 intro w hH
 refine ⟨an,?_⟩
 refine ao 8 (rpc 8 Tryz.func129 (mj g (bk ah 256) (unshifted (added b (K r)))) (hH.oldBlk hR.1 (by simp)) hH 3 (.nil _ []) ?_)
 clear hH
 intro w hH
 refine ⟨an,ao 9 ?_⟩
 refine re0 9 0 hH rfl (.sw (ac 16) b (boxed (bk ah 256) (unshifted (added b (K r))))) trivial (.nil _ []) ?_
 clear hH
 rintro _ _ w rfl hH
 refine ⟨an,rn ?_⟩
 refine aj (zr (zv .mv 3 ?_))
 refine zv (.sub (((r-1-0):Nat):Int)) 1 ?_
 refine zv .mv 1 ?_
 refine zn (ai ?_)
 have he12:(ac 16).enc (deM K r b 0)=(ac 16).enc (boxed (bk ah 256) (unshifted (added b (K r)))):=aB (fun j _=>rfl)
 replace hH:HH w0 [] [[bl g1 51 ((ac 16).enc (deM K r b 0))],[bl g2 51 ((ac 16).enc (fun _=>0))]] w:=by rw[he12];exact hH
 refine zL1 (fun (i:Nat)=>[(8,(.int .i64 (((r-1-i):Nat):Int))),(6,(.pointer (some ⟨g2,0,none⟩))),(5,(.pointer (some ⟨g1,0,none⟩))),(1,(.pointer (some ⟨g,0,none⟩))),(0,(.slice (some ⟨b4,off5,none⟩) m c))]) (fun i w=>HH w0 [] [[bl g1 51 ((ac 16).enc (deM K r b i))],[bl g2 51 ((ac 16).enc (fun _=>0))]] w∧(i≤(r-1))) (fun i=>(r-1)-i) 0 ⟨hH,(Nat.zero_le _)⟩ ?_
 clear hH
 rintro i w ⟨hH,hi⟩
 refine aj (zr (zv .mv 0 ?_))
 refine zv (.gt (r-1-i > 0)) 1 ?_
 refine zn ?_
 refine zP (fun hc13 => ?_) (fun hc13 => ?_)
 refine aA (ag (aj (ai ?_)))
 have hKi:=hK (r-1-i) (by omega)
 refine br mixedOrders (by kernel_rfl) ?_
 replace hH:=hH.drew
 refine rv 0 .mv 1 ?_
 refine rld 1 (hH.q 0 rfl) (.l0 (ac 16) (deM K r b i)) 0 ?_
 refine rv 2 .mv 0 ?_
 refine rv 3 .mv 0 ?_
 have hi14:r-1-i<m:=by omega
 have hj17:r-1-i<ks.length:=by first | exact hi14 | (simp only[List.length_drop];omega) | (simp only[List.length_drop,List.length_take];omega) | omega
 refine rv 4 (.ix 16 (r-1-i) (hi:=hi14)) 3 ?_
 refine rld 5 (S:=fun w=>HoldsL (ac 16) w b4 off5 ks) (hH.holdsL hL6 hb7 hR8) (.ld (ac 16) (K (r-1-i)) (fun _ hS=>(hS (r-1-i) _ hKi))) 1 ?_
 refine ao 6 (rpc 6 Tryz.func99 (gA (deM K r b i) (K (r-1-i))) trivial hH 3 (pgo [] (pgo [] (.nil _ []))) ?_)
 clear hH
 intro w hH
 refine ⟨an,?_⟩
 refine ao 7 (rpc 7 Tryz.func131 (sY (added (deM K r b i) (K (r-1-i)))) trivial hH 1 (.nil _ []) ?_)
 clear hH
 intro w hH
 refine ⟨an,?_⟩
 refine ao 8 (rpc 8 Tryz.func130 (jG (unmixed (added (deM K r b i) (K (r-1-i))))) trivial hH 1 (.nil _ []) ?_)
 clear hH
 intro w hH
 refine ⟨an,?_⟩
 refine ao 9 (rpc 9 Tryz.func129 (mj g (bk ah 256) (unshifted (unmixed (added (deM K r b i) (K (r-1-i)))))) (hH.oldBlk hR.1 (by simp)) hH 3 (.nil _ []) ?_)
 clear hH
 intro w hH
 refine ⟨an,ao 10 ?_⟩
 refine re0 10 0 hH rfl (.sw (ac 16) (deM K r b i) (boxed (bk ah 256) (unshifted (unmixed (added (deM K r b i) (K (r-1-i))))))) trivial (.nil _ []) ?_
 clear hH
 rintro _ _ w rfl hH
 refine ⟨an,bQ (by kernel_rfl) ?_⟩
 refine aN (ag (aC (zv .mv 3 ?_)))
 refine zv (.sub (((r-1-(i+1)):Nat):Int)) 1 ?_
 refine zv .mv 1 ?_
 refine aD ?_
 have he18:(ac 16).enc (deM K r b (i+1))=(ac 16).enc (boxed (bk ah 256) (unshifted (unmixed (added (deM K r b i) (K (r-1-i)))))):=aB (fun j _=>rfl)
 replace hH:HH w0 [] [[bl g1 51 ((ac 16).enc (deM K r b (i+1)))],[bl g2 51 ((ac 16).enc (fun _=>0))]] w:=by rw[he18];exact hH
 exact zR1 (i+1) ⟨hH,(by omega)⟩ (by omega)
 refine aJ (ak (ak (aR (ag ?_))))
 obtain rfl:i=r-1:=by omega
 refine zx ?_
 replace hH:=hH.drew
 refine rld 0 (hH.q 0 rfl) (.l0 (ac 16) (deM K r b (r-1))) 27 ?_
 refine rv 1 .mv 4 ?_
 have hi19:0<m:=by omega
 have hj22:0<ks.length:=by first | exact hi19 | (simp only[List.length_drop];omega) | (simp only[List.length_drop,List.length_take];omega) | omega
 refine rv 2 (.ix 16 0 (hi:=hi19)) 1 ?_
 refine rld 3 (S:=fun w=>HoldsL (ac 16) w b4 off5 ks) (hH.holdsL hL6 hb7 hR8) (.ld (ac 16) (K 0) (fun _ hS=>(hS 0 _ hK0))) 1 ?_
 refine ao 4 (rpc 4 Tryz.func99 (gA (deM K r b (r-1)) (K 0)) trivial hH 3 (pgo [] (pgo [] (.nil _ []))) ?_)
 clear hH
 intro w hH
 refine ⟨an,ao 5 ?_⟩
 refine re0 5 1 hH rfl (.sw (ac 16) (fun _=>0) (added (deM K r b (r-1)) (K 0))) trivial (.nil _ []) ?_
 clear hH
 rintro _ _ w rfl hH
 refine ⟨an,rn ?_⟩
 refine ar (aI 1 (hH.blk 1 rfl) rfl rfl (by kernel_rfl) (Cod.size _ _) (by kernel_rfl) ?_)
 exact zE hH
def aeF(l:List UInt8)(i:Nat):Nat→UInt8:=cutF (lst (16*(l.length/4+7)) (aeW l)) (16*i)
theorem va(l:List UInt8)(i:Nat)(h:i≤aeR l):E16 (aeF l i) (rk (aeW l) i):=Aq l (by unfold aeR at h;omega)
theorem xi(l:List UInt8)(b:Nat→UInt8):E16 (An (aeF l) (aeR l) b) (aeE l b):=xe (va l)
theorem xj(l:List UInt8)(b:Nat→UInt8):E16 (Ao (aeF l) (aeR l) b) (aeD l b):=xf (va l)
theorem yy{f g:Nat→UInt8}(h:E16 f g):(ac 16).val f=(ac 16).val g:=congrArg Value.agg (aB h)
theorem As(A:Option Addr)(m c:Nat)(l:List UInt8)(hl:l.length=16∨l.length=32)(hm:m=l.length/4+7)(b:Nat→UInt8):Pure Tryz.prog 60 #[.slice A m c,(ac 16).val b] (fun w=>w.heap[0]?=some (.cells ((ac 256).enc ah) 103 (0,0))∧Vu (ac 16) w A m c (aeK l)) ((ac 16).val (aeE l b)) :=
 (sZ A m c (aeK l) (aeF l) (aeR l) (by unfold aeR;omega) (by unfold aeR;omega) (by unfold aeR;omega) (fun i hi=>rz l (by unfold aeR at hi;omega)) b).as (yy (xi l b))
theorem At(g:Nat)(A:Option Addr)(m c:Nat)(l:List UInt8)(hl:l.length=16∨l.length=32)(hm:m=l.length/4+7)(b:Nat→UInt8):Pure Tryz.prog 92 #[.slice A m c,(.pointer (some ⟨g,0,none⟩)),(ac 16).val b] (fun w=>w.heap[g]?=some (.cells ((ac 256).enc (bk ah 256)) 103 (0,0))∧Vu (ac 16) w A m c (aeK l)) ((ac 16).val (aeD l b)) :=
 (s9 g A m c (aeK l) (aeF l) (aeR l) (by unfold aeR;omega) (by unfold aeR;omega) (by unfold aeR;omega) (fun i hi=>rz l (by unfold aeR at hi;omega)) b).as (yy (xj l b))
def ovA(k:Nat)(l:List UInt8)(f:Nat→UInt8):Nat→UInt8:=fun j=>if k≤j∧j<k+l.length then l.getD (j-k) 0 else f j
theorem ng{n:Nat}(k:Nat)(l:List UInt8)(f:Nat→UInt8):bJ ((ac n).enc f) (0+k*1) (be af l)=(ac n).enc (ovA k l f):=by
 apply Array.ext_getElem?
 intro j
 have hf:(be af l).length=l.length:=by rw[bD];exact Nat.mul_one _
 rw[cr,cX,cX,bH,hf,Nat.zero_add,Nat.mul_one]
 by_cases hj:j<n
 ·rw[ce n _ j hj,ce n _ j hj]
  by_cases h1:k≤j∧j<k+l.length
  ·rw[if_pos (by omega)]
   have hx:l[j-k]?=some l[j-k]:=List.getElem?_eq_getElem (by omega)
   have h2:=dk (C:=af) l (j-k) 0 l[j-k] (by8 l[j-k]) hx rfl
   rw[show (j-k)*af.sz+0=j-k from Nat.mul_one _]at h2
   have hv:ovA k l f j=l[j-k]:=by
    unfold ovA
    rw[if_pos h1,List.getD_eq_getElem?_getD,hx]
    rfl
   rw[hv]
   exact h2
  ·rw[if_neg (by omega)]
   have hv:ovA k l f j=f j:=if_neg h1
   rw[hv]
 ·rw[if_neg (by omega),Array.getElem?_eq_none (by rw[bH];omega),Array.getElem?_eq_none (by rw[bH];omega)]
theorem Holds.row{w:World}{b off N:Nat}{f:Nat→UInt8}(h:Holds (ac N) w b off f)(i m:Nat)(hi:m*i+m≤N):Holds (ac m) w b (off+i*m) (fun k=>f (m*i+k)):=fun j u hu=>by
 have hj:j<m:=by
  by_cases hj:j<m
  ·exact hj
  ·rw[cX,Array.getElem?_eq_none (by rw[bH];omega)]at hu;cases hu
 rw[cX,ce m _ j hj]at hu
 have:=h (m*i+j) u (by rw[cX,ce N _ _ (by omega)];exact hu)
 rwa [show off+i*m+j=off+(m*i+j) by rw[Nat.mul_comm i m];omega]
end Go.Proofs.YtajppfmjbkebfaaGreatDoor
