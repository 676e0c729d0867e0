/- What the claim leans on, part 2: plain theorems, and walks of functions of the program and of the document. -/
import Derived.Test.YtajppfmjbkebfaaGreatDoorKPkeskTurnedCA
import Derived.Laws.StructEq
import Derived.Lib.AppendZerosOnto
import Derived.Lib.Builder
import Derived.Lib.UnsafeStr
import Derived.Lib.MakeNoZero
import Derived.Lib.AppendStr
import Derived.Laws.Externs
set_option maxHeartbeats 8000000
namespace Go.Proofs.YtajppfmjbkebfaaGreatDoor
open Go Go.RowKit
set_option maxRecDepth 100000
theorem yX(x:UInt32)(n:Nat)(h0:0<n)(h32:n<32):Pure Tryz.prog 183 #[(.int .u32 x.toNat),(.int .i64 (-(n:Int)))] (fun _=>True) (.int .u32 ((((cI x n).toNat):Nat):Int)):=by
 refine pU Tryz.func183 Tryz.ntmps183 ?_
 intro w0 hH hR
 refine zr (zv .mv 0 ?_)
 refine zn (zr (zv .mv 5 ?_))
 refine zv (v:=(.int .u64 (((18446744073709551616-n):Nat):Int))) (fun _ _ hF=>jR (k':=.u64) rfl (by kernel_rfl) (by kernel_rfl) (hF.ev 0 rfl) (ko h0 (by omega))) 1 ?_
 refine zv (v:=(.int .u64 (((32-n):Nat):Int))) (fun _ _ hF=>i8 (m:=18446744073709551616-n) (j:=31) (z:=(32-n)) rfl rfl (hF.ev 0 rfl) rfl (by show _<18446744073709551616;omega) (by decide) (by rw[show (31:Nat)=2^5-1 from rfl,nJ];omega)) 1 ?_
 refine zv .mv 1 ?_
 refine zn (zr (zv .mv 0 ?_))
 refine zv .mv 0 ?_
 refine zv (.lw (32-n)) 3 ?_
 refine zv .mv 4 ?_
 refine zv .mv 4 ?_
 refine zv (v:=(.int .u64 n)) (fun _ _ hF=>f8 (m:=32) (j:=32-n) (z:=n) rfl rfl rfl (hF.ev 0 rfl) (by show 32-n≤18446744073709551616;omega) (by show (32+(18446744073709551616-(32-n)))%18446744073709551616=_;omega)) 1 ?_
 refine zv (.rw n) 3 ?_
 refine zv (.ow (cI x n) (hz:=vT x n)) 3 ?_
 refine zv .mv 1 ?_
 refine zn (ar (aW 0 rfl rfl ?_))
 exact zE hH
theorem fb(x:UInt32)(n:Nat)(h0:0<n)(h32:n<32):Pure Tryz.prog 177 #[(.int .u32 x.toNat),(.int .i64 n)] (fun _=>True) (.int .u32 ((((cI x n).toNat):Nat):Int)):=by
 refine pU Tryz.func177 Tryz.ntmps177 ?_
 intro w0 hH hR
 refine zr (zv .mv 0 ?_)
 refine zn (zr (zv .mv 3 ?_))
 refine zv .mv 2 ?_
 refine zv (v:=(.int .i64 (-((n:Nat):Int)))) (fun _ _ hF=>oZ rfl (hF.ev 0 rfl) (wI (by omega) (by omega) (by omega))) 1 ?_
 refine zc Tryz.func183 (yX x n h0 h32) trivial hH 3 ?_
 clear hH
 intro w hH
 refine zv .mv 1 ?_
 refine zn (ar (aW 0 rfl rfl ?_))
 exact zE hH
theorem si(x:UInt32):Pure Tryz.prog 167 #[(.int .u32 x.toNat)] (fun _=>True) (.int .u32 ((((io x).toNat):Nat):Int)):=by
 refine pU Tryz.func167 Tryz.ntmps167 ?_
 intro w0 hH hR
 refine zr (zv .mv 0 ?_)
 refine zn (zr (zv .mv 1 ?_))
 refine zc Tryz.func177 (fb x 2 (ltb rfl) (ltb rfl)) trivial hH 1 ?_
 clear hH
 intro w hH
 refine zv .mv 0 ?_
 refine zc Tryz.func177 (fb x 13 (ltb rfl) (ltb rfl)) trivial hH 1 ?_
 clear hH
 intro w hH
 refine zv (.xw (cH (cI x 2) (cI x 13))) 3 ?_
 refine zv .mv 2 ?_
 refine zc Tryz.func177 (fb x 22 (ltb rfl) (ltb rfl)) trivial hH 1 ?_
 clear hH
 intro w hH
 refine zv (.xw (cH (cH (cI x 2) (cI x 13)) (cI x 22))) 3 ?_
 refine zv .mv 1 ?_
 refine zn (ar (aW 0 rfl rfl ?_))
 exact zE hH
theorem sj(x:UInt32):Pure Tryz.prog 166 #[(.int .u32 x.toNat)] (fun _=>True) (.int .u32 ((((dz x).toNat):Nat):Int)):=by
 refine pU Tryz.func166 Tryz.ntmps166 ?_
 intro w0 hH hR
 refine zr (zv .mv 0 ?_)
 refine zn (zr (zv .mv 1 ?_))
 refine zc Tryz.func177 (fb x 6 (ltb rfl) (ltb rfl)) trivial hH 1 ?_
 clear hH
 intro w hH
 refine zv .mv 0 ?_
 refine zc Tryz.func177 (fb x 11 (ltb rfl) (ltb rfl)) trivial hH 1 ?_
 clear hH
 intro w hH
 refine zv (.xw (cH (cI x 6) (cI x 11))) 3 ?_
 refine zv .mv 2 ?_
 refine zc Tryz.func177 (fb x 25 (ltb rfl) (ltb rfl)) trivial hH 1 ?_
 clear hH
 intro w hH
 refine zv (.xw (cH (cH (cI x 6) (cI x 11)) (cI x 25))) 3 ?_
 refine zv .mv 1 ?_
 refine zn (ar (aW 0 rfl rfl ?_))
 exact zE hH
theorem sk(x:UInt32):Pure Tryz.prog 176 #[(.int .u32 x.toNat)] (fun _=>True) (.int .u32 ((((cZ x).toNat):Nat):Int)):=by
 refine pU Tryz.func176 Tryz.ntmps176 ?_
 intro w0 hH hR
 refine zr (zv .mv 0 ?_)
 refine zn (zr (zv .mv 1 ?_))
 refine zc Tryz.func177 (fb x 7 (ltb rfl) (ltb rfl)) trivial hH 1 ?_
 clear hH
 intro w hH
 refine zv .mv 0 ?_
 refine zc Tryz.func177 (fb x 18 (ltb rfl) (ltb rfl)) trivial hH 1 ?_
 clear hH
 intro w hH
 refine zv (.xw (cH (cI x 7) (cI x 18))) 3 ?_
 refine zv .mv 2 ?_
 refine zv (.rw 3) 1 ?_
 refine zv (.xw (cH (cH (cI x 7) (cI x 18)) (fU x 3))) 3 ?_
 refine zv .mv 1 ?_
 refine zn (ar (aW 0 rfl rfl ?_))
 exact zE hH
theorem sl(x:UInt32):Pure Tryz.prog 175 #[(.int .u32 x.toNat)] (fun _=>True) (.int .u32 ((((cC x).toNat):Nat):Int)):=by
 refine pU Tryz.func175 Tryz.ntmps175 ?_
 intro w0 hH hR
 refine zr (zv .mv 0 ?_)
 refine zn (zr (zv .mv 1 ?_))
 refine zc Tryz.func177 (fb x 17 (ltb rfl) (ltb rfl)) trivial hH 1 ?_
 clear hH
 intro w hH
 refine zv .mv 0 ?_
 refine zc Tryz.func177 (fb x 19 (ltb rfl) (ltb rfl)) trivial hH 1 ?_
 clear hH
 intro w hH
 refine zv (.xw (cH (cI x 17) (cI x 19))) 3 ?_
 refine zv .mv 2 ?_
 refine zv (.rw 10) 1 ?_
 refine zv (.xw (cH (cH (cI x 17) (cI x 19)) (fU x 10))) 3 ?_
 refine zv .mv 1 ?_
 refine zn (ar (aW 0 rfl rfl ?_))
 exact zE hH
theorem vY(b:Nat→UInt8):Pure Tryz.prog 165 #[((ac 64).val b)] (fun _=>True) ((cWs 64).val (W32 b)):=by
 refine pU Tryz.func165 Tryz.ntmps165 ?_
 intro w0 hH hR
 refine zr (zB hH (ac 64) b 1 ?_)
 clear hH
 intro g1 w hH
 refine zA hH (cWs 64) (fun _=>0) 0 ?_
 clear hH
 intro g2 w hH
 refine zn (zr (zA hH (cWs 64) (fun _=>0) 0 ?_))
 clear hH
 intro g3 w hH
 refine zn (aj ?_)
 have he4:(cWs 64).enc (bM b 0)=(cWs 64).enc (fun _=>0):=aP (fun i _=>by rw[sa])
 replace hH:HH w0 [] [[bl g1 93 ((ac 64).enc b)],[bl g2 119 ((cWs 64).enc (fun _=>0))],[bl g3 119 ((cWs 64).enc (bM b 0))]] w:=by rw[he4];exact hH
 refine zr (zs (hH.q 0 rfl) (.l0 (ac 64) b) 4 ?_)
 refine zv .mv 0 ?_
 refine zn (ai (zL1 (fun (m:Nat)=>[(8,(.int .i64 m)),(7,((ac 64).val b)),(3,(.pointer (some ⟨g3,0,none⟩))),(2,(.pointer (some ⟨g2,0,none⟩)))]) (fun m w=>HH w0 [] [[bl g1 93 ((ac 64).enc b)],[bl g2 119 ((cWs 64).enc (fun _=>0))],[bl g3 119 ((cWs 64).enc (bM b m))]] w∧(m≤64)) (fun m=>64-m) 0 ⟨hH,(Nat.zero_le _)⟩ ?_))
 clear hH
 rintro m w ⟨hH,hm⟩
 refine zr (zv (.lt (m<64)) 0 ?_)
 refine zn (aj ?_)
 refine zP (fun hc5 => ?_) (fun hc5 => ?_)
 refine aA (ag (aj (ai (zr (zv .mv 1 ?_)))))
 have hi6:m<64:=by omega
 refine zv (v:=(.int .u8 ((((b m).toNat):Nat):Int))) (fun _ _ hF=>e8 (S:=sBy) (e:=5) (n:=64) (i:=m) (f:=b) rfl (by kernel_rfl) (by kernel_rfl) (hF.ev 2 rfl) (hF.ev 1 rfl) rfl hi6) 0 ?_
 refine zv .mv 2 ?_
 refine zv .mv 2 ?_
 refine zn (aC (zv .mv 0 ?_))
 refine zv (v:=(.int .i64 (((m/4):Nat):Int))) (fun _ _ hF=>cM (z:=((m/4:Nat):Int)) rfl (hF.ev 0 rfl) rfl (by omega) (wI dO (by omega) (by omega))) 1 ?_
 refine zv .mv 4 ?_
 refine zv (v:=(.int .i64 (((m/4):Nat):Int))) (fun _ _ hF=>cM (z:=((m/4:Nat):Int)) rfl (hF.ev 0 rfl) rfl (by omega) (wI dO (by omega) (by omega))) 1 ?_
 have hi7:m/4<64:=by omega
 refine zv (.ia 1 64 (m/4) (hi:=hi7)) 1 ?_
 refine zs (hH.q 2 rfl) (.ld cWd ((bM b m) (m/4)) (fun _ hS=>((ae hS).eltV hi7))) 1 ?_
 refine zv (.lw 8) 1 ?_
 refine zv .mv 4 ?_
 refine zv (v:=(.int .u32 ((((UInt32.ofNat (b m).toNat).toNat):Nat):Int))) (fun _ _ hF=>vS (z:=UInt32.ofNat (b m).toNat) rfl rfl (by kernel_rfl) (hF.ev 0 rfl) rfl) 1 ?_
 refine zv (.ow (bM b (m+1) (m/4)) (hz:=r9 b m (m/4) rfl)) 3 ?_
 have hi8:m/4<64:=by omega
 refine zv (.ia 1 64 (m/4) (hi:=hi8)) 2 ?_
 refine ze0 2 hH rfl (.st cWd (bM b (m+1) (m/4)) (aU (S:=sWd) (C:=(cWs 64)) rfl hi8) (bE (bM b m) (bM b (m+1) (m/4)) hi8)) trivial ?_
 clear hH
 rintro _ _ w rfl hH
 refine aD (aN (ag (aC (zv (.add ((m+1:Nat):Int)) 7 ?_))))
 refine zv .mv 1 ?_
 refine aD ?_
 have he9:(cWs 64).enc (bM b (m+1))=(cWs 64).enc (stF (bM b m) (m/4) (bM b (m+1) (m/4))):=aP (fun i _=>(congrFun (tF b m (m/4) _ rfl rfl) i).symm)
 replace hH:HH w0 [] [[bl g1 93 ((ac 64).enc b)],[bl g2 119 ((cWs 64).enc (fun _=>0))],[bl g3 119 ((cWs 64).enc (bM b (m+1)))]] w:=by rw[he9];exact hH
 exact zR1 (m+1) ⟨hH,(by omega)⟩ (by omega)
 refine aJ (ak (ak (aR (ag (aj ?_)))))
 obtain rfl:m=64:=by omega
 have he10:(cWs 64).enc (upF 16 (W32 b) (bM b 64))=(cWs 64).enc (bM b 64):=aP (fun i _=>by rw[tH])
 replace hH:HH w0 [] [[bl g1 93 ((ac 64).enc b)],[bl g2 119 ((cWs 64).enc (fun _=>0))],[bl g3 119 ((cWs 64).enc (upF 16 (W32 b) (bM b 64)))]] w:=by rw[he10];exact hH
 refine zr (zv .mv 7 ?_)
 refine zn (ai (zL1 (fun (t:Nat)=>[(6,(.int .i64 t)),(3,(.pointer (some ⟨g3,0,none⟩))),(2,(.pointer (some ⟨g2,0,none⟩)))]) (fun t w=>HH w0 [] [[bl g1 93 ((ac 64).enc b)],[bl g2 119 ((cWs 64).enc (fun _=>0))],[bl g3 119 ((cWs 64).enc (upF t (W32 b) (bM b 64)))]] w∧(16≤t)∧(t≤64)) (fun t=>64-t) 16 ⟨hH,(Nat.le_refl _),(by decide)⟩ ?_))
 clear hH
 rintro t w ⟨hH,h16,ht⟩
 refine aj (zr (zv .mv 0 ?_))
 refine zv (.lt (t<64)) 1 ?_
 refine zn ?_
 refine zP (fun hc11 => ?_) (fun hc11 => ?_)
 refine aA (ag (aj (ai (br mixedOrders (by kernel_rfl) ?_))))
 replace hH:=hH.drew
 refine rv 0 .mv 1 ?_
 refine rv 1 .mv 0 ?_
 refine rv 2 (.sub (((t-2):Nat):Int)) 1 ?_
 have hi12:t-2<64:=by omega
 refine rv 3 (.ia 1 64 (t-2) (hi:=hi12)) 1 ?_
 refine rld 4 (hH.q 2 rfl) (.ld cWd ((upF t (W32 b) (bM b 64)) (t-2)) (fun _ hS=>((ae hS).eltV hi12))) 1 ?_
 refine rv 6 .mv 0 ?_
 refine rv 7 (.sub (((t-7):Nat):Int)) 1 ?_
 have hi13:t-7<64:=by omega
 refine rv 8 (.ia 1 64 (t-7) (hi:=hi13)) 1 ?_
 refine rld 9 (hH.q 2 rfl) (.ld cWd ((upF t (W32 b) (bM b 64)) (t-7)) (fun _ hS=>((ae hS).eltV hi13))) 1 ?_
 refine rv 11 .mv 0 ?_
 refine rv 12 (.sub (((t-15):Nat):Int)) 1 ?_
 have hi14:t-15<64:=by omega
 refine rv 13 (.ia 1 64 (t-15) (hi:=hi14)) 1 ?_
 refine rld 14 (hH.q 2 rfl) (.ld cWd ((upF t (W32 b) (bM b 64)) (t-15)) (fun _ hS=>((ae hS).eltV hi14))) 1 ?_
 refine rv 17 .mv 0 ?_
 refine rv 18 (.sub (((t-16):Nat):Int)) 1 ?_
 have hi15:t-16<64:=by omega
 refine rv 19 (.ia 1 64 (t-16) (hi:=hi15)) 1 ?_
 refine rld 20 (hH.q 2 rfl) (.ld cWd ((upF t (W32 b) (bM b 64)) (t-16)) (fun _ hS=>((ae hS).eltV hi15))) 1 ?_
 refine ao 5 (rpc 5 Tryz.func175 (sl ((upF t (W32 b) (bM b 64)) (t-2))) trivial hH 8 (.keep (.keep (.keep (pgo [] (.nil _ []))))) ?_)
 clear hH
 intro w hH
 refine ⟨am (hH.blk 2 rfl) (am (hH.blk 2 rfl) (am (hH.blk 2 rfl) an)),?_⟩
 refine rv 10 (.aw (bf (cC ((upF t (W32 b) (bM b 64)) (t-2))) ((upF t (W32 b) (bM b 64)) (t-7)))) 9 ?_
 refine ao 15 (rpc 15 Tryz.func176 (sk ((upF t (W32 b) (bM b 64)) (t-15))) trivial hH 4 (.keep (pgo [] (.keep (.nil _ [])))) ?_)
 clear hH
 intro w hH
 refine ⟨am (hH.blk 2 rfl) (am (hH.blk 2 rfl) an),?_⟩
 refine rv 16 (.aw (bf (bf (cC ((upF t (W32 b) (bM b 64)) (t-2))) ((upF t (W32 b) (bM b 64)) (t-7))) (cZ ((upF t (W32 b) (bM b 64)) (t-15))))) 3 ?_
 refine rv 21 (.aw (bf (bf (bf (cC ((upF t (W32 b) (bM b 64)) (t-2))) ((upF t (W32 b) (bM b 64)) (t-7))) (cZ ((upF t (W32 b) (bM b 64)) (t-15)))) ((upF t (W32 b) (bM b 64)) (t-16)))) 3 ?_
 have hi16:t<64:=by omega
 refine rv 22 (.ia 1 64 t (hi:=hi16)) 2 ?_
 refine ao 23 ?_
 refine re0 23 2 hH rfl (.st cWd (bf (bf (bf (cC ((upF t (W32 b) (bM b 64)) (t-2))) ((upF t (W32 b) (bM b 64)) (t-7))) (cZ ((upF t (W32 b) (bM b 64)) (t-15)))) ((upF t (W32 b) (bM b 64)) (t-16))) (aU (S:=sWd) (C:=(cWs 64)) rfl hi16) (bE (upF t (W32 b) (bM b 64)) (bf (bf (bf (cC ((upF t (W32 b) (bM b 64)) (t-2))) ((upF t (W32 b) (bM b 64)) (t-7))) (cZ ((upF t (W32 b) (bM b 64)) (t-15)))) ((upF t (W32 b) (bM b 64)) (t-16))) hi16)) trivial (pgo [] (pgo [] (.nil _ []))) ?_
 clear hH
 rintro _ _ w rfl hH
 refine ⟨an,bQ (by kernel_rfl) ?_⟩
 refine aN (ag (aC (zv .mv 7 ?_)))
 refine zv (.add ((t+1:Nat):Int)) 1 ?_
 refine zv .mv 1 ?_
 refine aD ?_
 have he17:(cWs 64).enc (upF (t+1) (W32 b) (bM b 64))=(cWs 64).enc (stF (upF t (W32 b) (bM b 64)) t (bf (bf (bf (cC ((upF t (W32 b) (bM b 64)) (t-2))) ((upF t (W32 b) (bM b 64)) (t-7))) (cZ ((upF t (W32 b) (bM b 64)) (t-15)))) ((upF t (W32 b) (bM b 64)) (t-16)))):=aP (fun i _=>(congrFun (bi t (W32 b) (bM b 64) (ql h16)) i).symm)
 replace hH:HH w0 [] [[bl g1 93 ((ac 64).enc b)],[bl g2 119 ((cWs 64).enc (fun _=>0))],[bl g3 119 ((cWs 64).enc (upF (t+1) (W32 b) (bM b 64)))]] w:=by rw[he17];exact hH
 exact zR1 (t+1) ⟨hH,(by omega),(by omega)⟩ (by omega)
 refine aJ (ak (ak (aR (ag ?_))))
 obtain rfl:t=64:=by omega
 have he18:(cWs 64).enc (W32 b)=(cWs 64).enc (upF 64 (W32 b) (bM b 64)):=aP (fun i hi=>(bz _ _ hi).symm)
 replace hH:HH w0 [] [[bl g1 93 ((ac 64).enc b)],[bl g2 119 ((cWs 64).enc (fun _=>0))],[bl g3 119 ((cWs 64).enc (W32 b))]] w:=by rw[he18];exact hH
 refine zr (zs (hH.q 2 rfl) (.l0 (cWs 64) (W32 b)) 7 ?_)
 refine zW 1 hH rfl (W32 b) ?_
 clear hH
 intro w hH
 refine zn (ar (aI 1 (hH.blk 1 rfl) rfl rfl (by kernel_rfl) (Cod.size _ _) (by kernel_rfl) ?_))
 exact zE hH
theorem vZ(s:Nat→UInt32):Pure Tryz.prog 141 #[((cWs 8).val s)] (fun _=>True) ((ac 32).val (bX s)):=by
 refine pU Tryz.func141 Tryz.ntmps141 ?_
 intro w0 hH hR
 refine zr (zB hH (cWs 8) s 1 ?_)
 clear hH
 intro g1 w hH
 refine zA hH (ac 32) (fun _=>0) 0 ?_
 clear hH
 intro g2 w hH
 refine zn (zr (zA hH (ac 32) (fun _=>0) 0 ?_))
 clear hH
 intro g3 w hH
 refine zn (aj ?_)
 have he4:(ac 32).enc (upF 0 (bX s) (fun _=>0))=(ac 32).enc (fun _=>0):=aB (fun i _=>by rw[bw])
 replace hH:HH w0 [] [[bl g1 118 ((cWs 8).enc s)],[bl g2 22 ((ac 32).enc (fun _=>0))],[bl g3 22 ((ac 32).enc (upF 0 (bX s) (fun _=>0)))]] w:=by rw[he4];exact hH
 refine zr (zv .mv 0 ?_)
 refine zn (ai (zL1 (fun (m:Nat)=>[(5,(.int .i64 m)),(3,(.pointer (some ⟨g3,0,none⟩))),(2,(.pointer (some ⟨g2,0,none⟩))),(1,(.pointer (some ⟨g1,0,none⟩)))]) (fun m w=>HH w0 [] [[bl g1 118 ((cWs 8).enc s)],[bl g2 22 ((ac 32).enc (fun _=>0))],[bl g3 22 ((ac 32).enc (upF m (bX s) (fun _=>0)))]] w∧(m≤32)) (fun m=>32-m) 0 ⟨hH,(Nat.zero_le _)⟩ ?_))
 clear hH
 rintro m w ⟨hH,hm⟩
 refine zr (zv (.lt (m<32)) 0 ?_)
 refine zn (aj ?_)
 refine zP (fun hc5 => ?_) (fun hc5 => ?_)
 refine aA (ag (aj (ai (zr (zv .mv 1 ?_)))))
 refine zv .mv 1 ?_
 refine zn (aC (zv .mv 0 ?_))
 refine zv .mv 0 ?_
 refine zv (v:=(.int .i64 (((m/4):Nat):Int))) (fun _ _ hF=>cM (z:=((m/4:Nat):Int)) rfl (hF.ev 0 rfl) rfl (by omega) (wI dO (by omega) (by omega))) 1 ?_
 have hi6:m/4<8:=by omega
 refine zv (.ia 1 8 (m/4) (hi:=hi6)) 1 ?_
 refine zs (hH.q 0 rfl) (.ld cWd (s (m/4)) (fun _ hS=>((ae hS).eltV hi6))) 1 ?_
 refine zv .mv 4 ?_
 refine zv (v:=(.int .i64 (((m%4):Nat):Int))) (fun _ _ hF=>bm (z:=((m%4:Nat):Int)) rfl (hF.ev 0 rfl) rfl (by omega) bW) 1 ?_
 refine zv (.mul (((m%4)*8:Nat):Int)) 1 ?_
 refine zv (.sub (((24-m%4*8):Nat):Int)) 1 ?_
 refine zv (.rw (24-m%4*8)) 3 ?_
 refine zv .cb 1 ?_
 have hi7:m<32:=by omega
 refine zv (.ia 1 32 m (hi:=hi7)) 2 ?_
 refine ze0 2 hH rfl (.st af (UInt8.ofNat ((fU (s (m/4)) (24-m%4*8)).toNat)) (aU (S:=sBy) (C:=(ac 32)) rfl hi7) (aQ (upF m (bX s) (fun _=>0)) (UInt8.ofNat ((fU (s (m/4)) (24-m%4*8)).toNat)) hi7)) trivial ?_
 clear hH
 rintro _ _ w rfl hH
 refine aD (aN (ag (aC (zv (.add ((m+1:Nat):Int)) 7 ?_))))
 refine zv .mv 1 ?_
 refine aD ?_
 have he8:(ac 32).enc (upF (m+1) (bX s) (fun _=>0))=(ac 32).enc (stF (upF m (bX s) (fun _=>0)) m (UInt8.ofNat ((fU (s (m/4)) (24-m%4*8)).toNat))):=aB (fun i _=>(congrFun (bi m (bX s) (fun _=>0) (tJ s m)) i).symm)
 replace hH:HH w0 [] [[bl g1 118 ((cWs 8).enc s)],[bl g2 22 ((ac 32).enc (fun _=>0))],[bl g3 22 ((ac 32).enc (upF (m+1) (bX s) (fun _=>0)))]] w:=by rw[he8];exact hH
 exact zR1 (m+1) ⟨hH,(by omega)⟩ (by omega)
 refine aJ (ak (ak (aR (ag ?_))))
 obtain rfl:m=32:=by omega
 have he9:(ac 32).enc (bX s)=(ac 32).enc (upF 32 (bX s) (fun _=>0)):=aB (fun i hi=>(bz _ _ hi).symm)
 replace hH:HH w0 [] [[bl g1 118 ((cWs 8).enc s)],[bl g2 22 ((ac 32).enc (fun _=>0))],[bl g3 22 ((ac 32).enc (bX s))]] w:=by rw[he9];exact hH
 refine zr (zs (hH.q 2 rfl) (.l0 (ac 32) (bX s)) 23 ?_)
 refine zW 1 hH rfl (bX s) ?_
 clear hH
 intro w hH
 refine zn (ar (aI 1 (hH.blk 1 rfl) rfl rfl (by kernel_rfl) (Cod.size _ _) (by kernel_rfl) ?_))
 exact zE hH
theorem yY(s:Nat→UInt32)(b:Nat→UInt8):Pure Tryz.prog 140 #[((cWs 8).val s),((ac 64).val b)] (fun w=>w.heap[3]?=some (.cells ((cWs 64).enc K32) 119 (0,0))) ((cWs 8).val (bq b s)):=by
 refine pU Tryz.func140 Tryz.ntmps140 ?_
 intro w0 hH hR
 refine zr (zB hH (cWs 8) s 1 ?_)
 clear hH
 intro g1 w hH
 refine zB hH (ac 64) b 2 ?_
 clear hH
 intro g2 w hH
 refine zA hH (cWs 8) (fun _=>0) 0 ?_
 clear hH
 intro g3 w hH
 refine zn (zr (zs (hH.q 1 rfl) (.l0 (ac 64) b) 2 ?_))
 refine zc Tryz.func165 (vY b) trivial hH 1 ?_
 clear hH
 intro w hH
 refine zA hH (cWs 64) (fun _=>0) 0 ?_
 clear hH
 intro g4 w hH
 refine zW 3 hH rfl (W32 b) ?_
 clear hH
 intro w hH
 refine zn (zx ?_)
 replace hH:=hH.drew
 have hi5:0<8:=by omega
 refine rv 0 (.ia 1 8 0 (hi:=hi5)) 2 ?_
 refine rld 1 (hH.q 0 rfl) (.ld cWd (s 0) (fun _ hS=>((ae hS).eltV hi5))) 1 ?_
 have hi6:1<8:=by omega
 refine rv 2 (.ia 1 8 1 (hi:=hi6)) 0 ?_
 refine rld 3 (hH.q 0 rfl) (.ld cWd (s 1) (fun _ hS=>((ae hS).eltV hi6))) 1 ?_
 have hi7:2<8:=by omega
 refine rv 4 (.ia 1 8 2 (hi:=hi7)) 0 ?_
 refine rld 5 (hH.q 0 rfl) (.ld cWd (s 2) (fun _ hS=>((ae hS).eltV hi7))) 1 ?_
 have hi8:3<8:=by omega
 refine rv 6 (.ia 1 8 3 (hi:=hi8)) 0 ?_
 refine rld 7 (hH.q 0 rfl) (.ld cWd (s 3) (fun _ hS=>((ae hS).eltV hi8))) 1 ?_
 have hi9:4<8:=by omega
 refine rv 8 (.ia 1 8 4 (hi:=hi9)) 0 ?_
 refine rld 9 (hH.q 0 rfl) (.ld cWd (s 4) (fun _ hS=>((ae hS).eltV hi9))) 1 ?_
 have hi10:5<8:=by omega
 refine rv 10 (.ia 1 8 5 (hi:=hi10)) 0 ?_
 refine rld 11 (hH.q 0 rfl) (.ld cWd (s 5) (fun _ hS=>((ae hS).eltV hi10))) 1 ?_
 have hi11:6<8:=by omega
 refine rv 12 (.ia 1 8 6 (hi:=hi11)) 0 ?_
 refine rld 13 (hH.q 0 rfl) (.ld cWd (s 6) (fun _ hS=>((ae hS).eltV hi11))) 1 ?_
 have hi12:7<8:=by omega
 refine rv 14 (.ia 1 8 7 (hi:=hi12)) 0 ?_
 refine rld 15 (hH.q 0 rfl) (.ld cWd (s 7) (fun _ hS=>((ae hS).eltV hi12))) 1 ?_
 refine rv 16 .mv 128 ?_
 refine rv 17 .mv 128 ?_
 refine rv 18 .mv 128 ?_
 refine rv 19 .mv 128 ?_
 refine rv 20 .mv 128 ?_
 refine rv 21 .mv 128 ?_
 refine rv 22 .mv 128 ?_
 refine rv 23 .mv 128 ?_
 refine rn ?_
 refine aj (zr (zv .mv 0 ?_))
 refine zn (ai (zL1 (fun (m:Nat)=>[(37,(.int .i64 m)),(13,(.int .u32 ((((au b s m 7).toNat):Nat):Int))),(12,(.int .u32 ((((au b s m 6).toNat):Nat):Int))),(11,(.int .u32 ((((au b s m 5).toNat):Nat):Int))),(10,(.int .u32 ((((au b s m 4).toNat):Nat):Int))),(9,(.int .u32 ((((au b s m 3).toNat):Nat):Int))),(8,(.int .u32 ((((au b s m 2).toNat):Nat):Int))),(7,(.int .u32 ((((au b s m 1).toNat):Nat):Int))),(6,(.int .u32 ((((au b s m 0).toNat):Nat):Int))),(5,(.pointer (some ⟨g4,0,none⟩))),(4,(.pointer (some ⟨g3,0,none⟩))),(2,(.pointer (some ⟨g1,0,none⟩)))]) (fun m w=>HH w0 [] [[bl g1 118 ((cWs 8).enc s)],[bl g2 93 ((ac 64).enc b)],[bl g3 118 ((cWs 8).enc (fun _=>0))],[bl g4 119 ((cWs 64).enc (W32 b))]] w∧(m≤64)) (fun m=>64-m) 0 ⟨hH,(Nat.zero_le _)⟩ ?_))
 clear hH
 rintro m w ⟨hH,hm⟩
 refine zr (zv (.lt (m<64)) 0 ?_)
 refine zn (aj ?_)
 refine zP (fun hc13 => ?_) (fun hc13 => ?_)
 refine aA (ag (aj (ai (zr (zv .mv 1 ?_)))))
 refine zv .mv 1 ?_
 refine zn (zx ?_)
 replace hH:=hH.drew
 refine rv 0 .mv 4 ?_
 refine rv 1 .mv 0 ?_
 refine rv 4 .mv 0 ?_
 refine rv 5 .mv 0 ?_
 refine rv 6 (.nw (bK (au b s m 4) (au b s m 5))) 3 ?_
 refine rv 7 .mv 0 ?_
 refine rv 8 .cw 1 ?_
 refine rv 9 .mv 0 ?_
 refine rv 10 (.nw (bK (ey (au b s m 4)) (au b s m 6))) 3 ?_
 refine rv 11 (.xw (cH (bK (au b s m 4) (au b s m 5)) (bK (ey (au b s m 4)) (au b s m 6)))) 3 ?_
 refine rv 13 .mv 0 ?_
 have hi14:m<64:=by omega
 refine rv 14 (.ia 1 64 m (hi:=hi14)) 1 ?_
 refine rld 15 (hH.ob hR) (.ld cWd (K32 m) (fun _ hS=>((ae hS).eltV hi14))) 1 ?_
 refine rv 17 .mv 16 ?_
 have hi15:m<64:=by omega
 refine rv 18 (.ia 1 64 m (hi:=hi15)) 1 ?_
 refine rld 19 (hH.q 3 rfl) (.ld cWd ((W32 b) m) (fun _ hS=>((ae hS).eltV hi15))) 1 ?_
 refine ao 2 (rpc 2 Tryz.func166 (sj (au b s m 4)) trivial hH 8 (.keep (.keep (.nil _ []))) ?_)
 clear hH
 intro w hH
 refine ⟨am (hH.blk 3 rfl) (am (hH.oldBlk hR (by simp)) an),?_⟩
 refine rv 3 (.aw (bf (au b s m 7) (dz (au b s m 4)))) 17 ?_
 refine rv 12 (.aw (bf (bf (au b s m 7) (dz (au b s m 4))) (cH (bK (au b s m 4) (au b s m 5)) (bK (ey (au b s m 4)) (au b s m 6))))) 9 ?_
 refine rv 16 (.aw (bf (bf (bf (au b s m 7) (dz (au b s m 4))) (cH (bK (au b s m 4) (au b s m 5)) (bK (ey (au b s m 4)) (au b s m 6)))) (K32 m))) 5 ?_
 refine rv 20 (.aw (bf (bf (bf (bf (au b s m 7) (dz (au b s m 4))) (cH (bK (au b s m 4) (au b s m 5)) (bK (ey (au b s m 4)) (au b s m 6)))) (K32 m)) ((W32 b) m))) 3 ?_
 refine rv 21 .mv 1 ?_
 refine rn ?_
 refine zr (zv .mv 0 ?_)
 refine zc Tryz.func167 (si (au b s m 0)) trivial hH 1 ?_
 clear hH
 intro w hH
 refine zv .mv 0 ?_
 refine zv .mv 0 ?_
 refine zv (.nw (bK (au b s m 0) (au b s m 1))) 3 ?_
 refine zv .mv 0 ?_
 refine zv .mv 0 ?_
 refine zv (.nw (bK (au b s m 0) (au b s m 2))) 3 ?_
 refine zv (.xw (cH (bK (au b s m 0) (au b s m 1)) (bK (au b s m 0) (au b s m 2)))) 3 ?_
 refine zv .mv 0 ?_
 refine zv .mv 0 ?_
 refine zv (.nw (bK (au b s m 1) (au b s m 2))) 3 ?_
 refine zv (.xw (cH (cH (bK (au b s m 0) (au b s m 1)) (bK (au b s m 0) (au b s m 2))) (bK (au b s m 1) (au b s m 2)))) 3 ?_
 refine zv (.aw (bf (io (au b s m 0)) (cH (cH (bK (au b s m 0) (au b s m 1)) (bK (au b s m 0) (au b s m 2))) (bK (au b s m 1) (au b s m 2))))) 3 ?_
 refine zv .mv 1 ?_
 refine zn (aC (zv .mv 0 ?_))
 refine zv .mv 2 ?_
 refine zv (.aw (bf (bf (bf (bf (bf (au b s m 7) (dz (au b s m 4))) (cH (bK (au b s m 4) (au b s m 5)) (bK (ey (au b s m 4)) (au b s m 6)))) (K32 m)) ((W32 b) m)) (bf (io (au b s m 0)) (cH (cH (bK (au b s m 0) (au b s m 1)) (bK (au b s m 0) (au b s m 2))) (bK (au b s m 1) (au b s m 2)))))) 3 ?_
 refine zv .mv 512 ?_
 refine zv .mv 512 ?_
 refine zv .mv 512 ?_
 refine zv .mv 512 ?_
 refine zv .mv 32 ?_
 refine zv (.aw (bf (au b s m 3) (bf (bf (bf (bf (au b s m 7) (dz (au b s m 4))) (cH (bK (au b s m 4) (au b s m 5)) (bK (ey (au b s m 4)) (au b s m 6)))) (K32 m)) ((W32 b) m)))) 3 ?_
 refine zv .mv 256 ?_
 refine zv .mv 256 ?_
 refine zv .mv 256 ?_
 refine zv .mv 128 ?_
 refine zv .mv 128 ?_
 refine zv .mv 128 ?_
 refine zv .mv 128 ?_
 refine zv .mv 128 ?_
 refine zv .mv 128 ?_
 refine zv .mv 128 ?_
 refine zv .mv 128 ?_
 refine aD (aN (ag (aC (zv (.add ((m+1:Nat):Int)) 256 ?_))))
 refine zv .mv 1 ?_
 refine aD ?_
 exact zR1 (m+1) ⟨hH,(by omega)⟩ (by omega)
 refine aJ (ak (ak (aR (ag (aj ?_)))))
 obtain rfl:m=64:=by omega
 refine zr (zv .mv 1539 ?_)
 refine zv .mv 128 ?_
 refine zv .mv 128 ?_
 refine zv .mv 128 ?_
 refine zv .mv 128 ?_
 refine zv .mv 128 ?_
 refine zv .mv 128 ?_
 refine zv .mv 128 ?_
 refine zv (v:=((cWs 8).val (au b s 64))) (fun _ _ hF=>aE (cells:=(cWs 8).enc (au b s 64)) (vals:=[(0,(.int .u32 ((((au b s 64 0).toNat):Nat):Int))),(1,(.int .u32 ((((au b s 64 1).toNat):Nat):Int))),(2,(.int .u32 ((((au b s 64 2).toNat):Nat):Int))),(3,(.int .u32 ((((au b s 64 3).toNat):Nat):Int))),(4,(.int .u32 ((((au b s 64 4).toNat):Nat):Int))),(5,(.int .u32 ((((au b s 64 5).toNat):Nat):Int))),(6,(.int .u32 ((((au b s 64 6).toNat):Nat):Int))),(7,(.int .u32 ((((au b s 64 7).toNat):Nat):Int)))]) rfl (EvP.cons (v:=(.int .u32 ((((au b s 64 0).toNat):Nat):Int))) (hF.ev 7 rfl) (EvP.cons (v:=(.int .u32 ((((au b s 64 1).toNat):Nat):Int))) (hF.ev 6 rfl) (EvP.cons (v:=(.int .u32 ((((au b s 64 2).toNat):Nat):Int))) (hF.ev 5 rfl) (EvP.cons (v:=(.int .u32 ((((au b s 64 3).toNat):Nat):Int))) (hF.ev 4 rfl) (EvP.cons (v:=(.int .u32 ((((au b s 64 4).toNat):Nat):Int))) (hF.ev 3 rfl) (EvP.cons (v:=(.int .u32 ((((au b s 64 5).toNat):Nat):Int))) (hF.ev 2 rfl) (EvP.cons (v:=(.int .u32 ((((au b s 64 6).toNat):Nat):Int))) (hF.ev 1 rfl) (EvP.cons (v:=(.int .u32 ((((au b s 64 7).toNat):Nat):Int))) (hF.ev 0 rfl) EvP.nil)))))))) (by kernel_rfl) _) 255 ?_
 have he16:(cWs 8).enc (upF 0 (bq b s) s)=(cWs 8).enc s:=aP (fun i _=>by rw[bw])
 replace hH:HH w0 [] [[bl g1 118 ((cWs 8).enc (upF 0 (bq b s) s))],[bl g2 93 ((ac 64).enc b)],[bl g3 118 ((cWs 8).enc (fun _=>0))],[bl g4 119 ((cWs 64).enc (W32 b))]] w:=by rw[he16];exact hH
 refine zv .mv 0 ?_
 refine zn (ai (zL1 (fun (q:Nat)=>[(97,(.int .i64 q)),(96,((cWs 8).val (au b s 64))),(4,(.pointer (some ⟨g3,0,none⟩))),(2,(.pointer (some ⟨g1,0,none⟩)))]) (fun q w=>HH w0 [] [[bl g1 118 ((cWs 8).enc (upF q (bq b s) s))],[bl g2 93 ((ac 64).enc b)],[bl g3 118 ((cWs 8).enc (fun _=>0))],[bl g4 119 ((cWs 64).enc (W32 b))]] w∧(q≤8)) (fun q=>8-q) 0 ⟨hH,(Nat.zero_le _)⟩ ?_))
 clear hH
 rintro q w ⟨hH,hq⟩
 refine zr (zv (.lt (q<8)) 0 ?_)
 refine zn (aj ?_)
 refine zP (fun hc17 => ?_) (fun hc17 => ?_)
 refine aA (ag (aj (ai (zr (zv .mv 1 ?_)))))
 have hi18:q<8:=by omega
 refine zv (v:=(.int .u32 (((((au b s 64) q).toNat):Nat):Int))) (fun _ _ hF=>e8 (S:=sWd) (e:=25) (n:=8) (i:=q) (f:=(au b s 64)) rfl (by kernel_rfl) (by kernel_rfl) (hF.ev 2 rfl) (hF.ev 1 rfl) rfl hi18) 0 ?_
 refine zv .mv 2 ?_
 refine zv .mv 2 ?_
 refine zn (aC (zv .mv 2 ?_))
 have hi19:q<8:=by omega
 refine zv (.ia 1 8 q (hi:=hi19)) 0 ?_
 refine zs (hH.q 0 rfl) (.ld cWd ((upF q (bq b s) s) q) (fun _ hS=>((ae hS).eltV hi19))) 1 ?_
 refine zv .mv 4 ?_
 refine zv (.aw (bf ((upF q (bq b s) s) q) ((au b s 64) q))) 3 ?_
 have hi20:q<8:=by omega
 refine zv (.ia 1 8 q (hi:=hi20)) 2 ?_
 refine ze0 0 hH rfl (.st cWd (bf ((upF q (bq b s) s) q) ((au b s 64) q)) (aU (S:=sWd) (C:=(cWs 8)) rfl hi20) (bE (upF q (bq b s) s) (bf ((upF q (bq b s) s) q) ((au b s 64) q)) hi20)) trivial ?_
 clear hH
 rintro _ _ w rfl hH
 refine aD (aN (ag (aC (zv (.add ((q+1:Nat):Int)) 7 ?_))))
 refine zv .mv 1 ?_
 refine aD ?_
 have he21:(cWs 8).enc (upF (q+1) (bq b s) s)=(cWs 8).enc (stF (upF q (bq b s) s) q (bf ((upF q (bq b s) s) q) ((au b s 64) q))):=aP (fun i _=>(congrFun (bi q (bq b s) s (by rw[gP];rfl)) i).symm)
 replace hH:HH w0 [] [[bl g1 118 ((cWs 8).enc (upF (q+1) (bq b s) s))],[bl g2 93 ((ac 64).enc b)],[bl g3 118 ((cWs 8).enc (fun _=>0))],[bl g4 119 ((cWs 64).enc (W32 b))]] w:=by rw[he21];exact hH
 exact zR1 (q+1) ⟨hH,(by omega)⟩ (by omega)
 refine aJ (ak (ak (aR (ag ?_))))
 obtain rfl:q=8:=by omega
 have he22:(cWs 8).enc (bq b s)=(cWs 8).enc (upF 8 (bq b s) s):=aP (fun i hi=>(bz _ _ hi).symm)
 replace hH:HH w0 [] [[bl g1 118 ((cWs 8).enc (bq b s))],[bl g2 93 ((ac 64).enc b)],[bl g3 118 ((cWs 8).enc (fun _=>0))],[bl g4 119 ((cWs 64).enc (W32 b))]] w:=by rw[he22];exact hH
 refine zr (zs (hH.q 0 rfl) (.l0 (cWs 8) (bq b s)) 23 ?_)
 refine zW 2 hH rfl (bq b s) ?_
 clear hH
 intro w hH
 refine zn (ar (aI 1 (hH.blk 2 rfl) rfl rfl (by kernel_rfl) (Cod.size _ _) (by kernel_rfl) ?_))
 exact zE hH
def HaAt(g:Nat)(l:List UInt8)(E:Hl):Prop := ∃ s r,E=[bl g 175 (cHa.enc (s,r,l.length))]∧HaS s r l.length fun j=>l.getD j 0
theorem sm(n L:Nat)(hL:L=64*bY n-n)(hn:n≤1152921504606846976):Does Tryz.prog 108 #[(.int .u64 n),(.int .i64 64),(.int .i64 8)] [] (fun _=>True) (fun v E'=>OwnT af 5 v (pdL n) E'):=by
 refine dU Tryz.func108 Tryz.ntmps108 ?_
 intro w0 hH hR
 replace hH:HH w0 [] [] w0:=hH.only [false]
 have hL2:L=64-(n+8)%64+8:=by rw[hL];unfold bY;omega
 refine zr (zv .mv 0 ?_)
 refine zn (zr (zv .mv 1 ?_))
 refine zv .mv 0 ?_
 refine zv .mv 0 ?_
 refine zv (.cu .u64 (q:=8)) 1 ?_
 refine zv (v:=(.int .u64 (((n+8):Nat):Int))) (fun _ _ hF=>f7 (m:=n) (j:=8) (z:=(n+8)) rfl rfl (hF.ev 1 rfl) (hF.ev 0 rfl) (Nat.mod_eq_of_lt (by show _<18446744073709551616;omega))) 3 ?_
 refine zv .mv 8 ?_
 refine zv (.cu .u64 (q:=64)) 1 ?_
 refine zv (v:=(.int .u64 ((((n+8)%64):Nat):Int))) (fun _ _ hF=>bm (z:=(((n+8)%64:Nat):Int)) rfl (hF.ev 1 rfl) (hF.ev 0 rfl) (by omega) bW) 3 ?_
 refine zv .ci 1 ?_
 refine zv (.sub (((64-(n+8)%64):Nat):Int)) 3 ?_
 refine zv .mv 1 ?_
 refine zn (zr (zv .mv 1 ?_))
 refine zv .mv 4 ?_
 refine zv (.add ((L:Nat):Int)) 3 ?_
 refine zm hH (fun _ hF=>f0 (e:=5) (n:=L) (sz:=1) (by_:=1) (z:=(.int .u8 0)) (cs:=madeCells (af.enc (0:UInt8)) (L*1)) rfl (by kernel_rfl) (by kernel_rfl) (hF.ev 0 rfl) (hF.ev 0 rfl) rfl rfl (by omega) (by omega) rfl) trivial 1 ?_
 clear hH
 rintro _ _ w ⟨g1,rfl,rfl⟩ hH
 refine zv .mv 1 ?_
 refine zn (zr (zv .mv 0 ?_))
 have hi2:0<L:=by omega
 have hj5:0<(List.replicate L (0:UInt8)).length:=by rw[List.length_replicate];omega
 obtain ⟨x3,hx4⟩:=ck (List.replicate L (0:UInt8)) 0 hj5
 have hb6:=UInt8.toNat_lt x3
 refine zv (.ix 1 0 (hi:=hi2)) 1 ?_
 obtain ⟨cur8,hcs9,hB7⟩:∃ cs,bJ (madeCells (af.enc (0:UInt8)) (L*1)) (0+0*1) (af.enc 128).toList=cs∧Bk af L cs ((List.replicate L (0:UInt8)).set 0 128):=⟨_,rfl,eZ (Bk.make (C:=af) (0:UInt8) L (ltb rfl) (by unfold maxLen;omega)) 0 hj5 128⟩
 refine ze0 0 hH rfl (fun _ hF=>bV (C:=af) (z:=128) rfl (hF.ev 0 rfl) rfl rfl (by kernel_rfl) (ed (Bk.make (C:=af) (0:UInt8) L (ltb rfl) (by unfold maxLen;omega)) hj5) hcs9) trivial ?_
 clear hH
 rintro _ _ w rfl hH
 refine zn (zr (zv .mv 5 ?_))
 refine zv (v:=(.int .u64 (((n*8):Nat):Int))) (fun _ _ hF=>i9 (m:=n) (j:=8) (z:=(n*8)) rfl rfl (hF.ev 0 rfl) rfl (Nat.mod_eq_of_lt (by show _<18446744073709551616;omega))) 1 ?_
 refine zv .mv 1 ?_
 refine zn (aj (zr (zv .mv 0 ?_)))
 refine zn (ai (zL2 (fun (m:Nat) (_:Array Value)=>[(29,(.int .i64 m)),(9,(.int .u64 (((n*8):Nat):Int))),(8,(.slice (some ⟨g1,0,none⟩) L L))]) (fun m cur' w=>HH w0 [] [[bl g1 5 cur']] w∧(m≤8)∧(Bk af L cur' (lst L (el L n m)))) (fun m _=>8-m) 0 cur8 ⟨hH,(Nat.zero_le _),(nO (show 0<L by omega)▸hB7)⟩ ?_))
 clear hH
 rintro m cur' w ⟨hH,hm,hB'⟩
 refine zr (zv (.lt (m<8)) 0 ?_)
 refine zn (aj ?_)
 refine zP (fun hc10 => ?_) (fun hc10 => ?_)
 refine aA (ag (aj (ai (zr (zv .mv 1 ?_)))))
 refine zv .mv 1 ?_
 refine zn (aC (zv .mv 0 ?_))
 refine zv .mv 0 ?_
 refine zv .len 1 ?_
 refine zv (.sub (((L-1):Nat):Int)) 1 ?_
 refine zv .mv 0 ?_
 refine zv (.sub (((L-1-m):Nat):Int)) 3 ?_
 refine zv .mv 0 ?_
 refine zv .mv 8 ?_
 refine zv (.mul ((8*m:Nat):Int)) 1 ?_
 refine zv (v:=(.int .u64 ((((n*8)/2^(8*m)):Nat):Int))) (fun _ _ hF=>du (n:=8*m) (z:=((n*8)/2^(8*m))) rfl (hF.ev 1 rfl) (hF.ev 0 rfl) (by show _≤64;omega) (rfl)) 3 ?_
 refine zv .cb 1 ?_
 have hi11:L-1-m<L:=by omega
 have hj14:L-1-m<(lst L (el L n m)).length:=by rw[ap];omega
 obtain ⟨x12,hx13⟩:=ck (lst L (el L n m)) (L-1-m) hj14
 have hb15:=UInt8.toNat_lt x12
 refine zv (.ix 1 (L-1-m) (hi:=hi11)) 6 ?_
 obtain ⟨cur17,hcs18,hB16⟩:∃ cs,bJ cur' (0+(L-1-m)*1) (af.enc (UInt8.ofNat ((n*8)/2^(8*m)))).toList=cs∧Bk af L cs ((lst L (el L n m)).set (L-1-m) (UInt8.ofNat ((n*8)/2^(8*m)))):=⟨_,rfl,eZ hB' (L-1-m) hj14 (UInt8.ofNat ((n*8)/2^(8*m)))⟩
 refine ze0 0 hH rfl (fun _ hF=>bV (C:=af) (z:=(UInt8.ofNat ((n*8)/2^(8*m)))) rfl (hF.ev 0 rfl) (hF.ev 1 rfl) rfl (by kernel_rfl) (ed hB' hj14) hcs18) trivial ?_
 clear hH
 rintro _ _ w rfl hH
 refine aD (aN (ag (aC (zv (.add ((m+1:Nat):Int)) 7 ?_))))
 refine zv .mv 1 ?_
 refine aD ?_
 exact zR2 (m+1) cur17 ⟨hH,(by omega),(qm (show m<L by omega)▸hB16)⟩ (by omega)
 refine aJ (ak (ak (aR (ag (zr (zv .mv 15 ?_))))))
 refine zv .mv 1 ?_
 refine zn (ar (aW 0 rfl rfl ?_))
 obtain rfl:m=8:=by omega
 have he:lst L (el L n 8)=pdL n:=by rw[hL];rfl
 exact ⟨_,_,rfl,(he▸hB'.own 5 g1 (ap _ _)),hH.out1 [true] rfl⟩
theorem nP(g k:Nat)(s:Nat→UInt32)(r F:Nat→UInt8)(A:Option Addr)(n c:Nat)(m:List UInt8)(hS:HaS s r k F)(hF:∀ j x,m[j]?=some x→F (k+j)=x)(hb:k+n≤1152921504606846976):Does Tryz.prog 104 #[(.pointer (some ⟨g,0,none⟩)),(.slice A n c)] [bl g 175 (cHa.enc (s,r,k))] (fun w=>w.heap[3]?=some (.cells ((cWs 64).enc K32) 119 (0,0))∧Vu af w A n c m∧Off A n [g]) (fun v E'=>v=.tuple #[] ∧ ∃ s' r',E'=[bl g 175 (cHa.enc (s',r',k+n))]∧HaS s' r' (k+n) F):=by
 refine dU Tryz.func104 Tryz.ntmps104 ?_
 intro w0 hH hR
 replace hH:HH w0 [g] [[bl g 175 (cHa.enc (s,r,k))]] w0:=hH
 have hng:=Bf hR.1 (hH.blk 0 rfl) rfl
 refine aj (zr (zv .mv 0 ?_))
 refine zv (v:=(.bool false)) (fun _ _ hF=>qa (e:=175) rfl (by kernel_rfl) (hF.ev 0 rfl) rfl rfl) 1 ?_
 refine zn (zF ?_)
 refine aA (ag (ai ?_))
 refine zL7 (fun (A1:Option Addr) (n1:Nat) (c1:Nat) (_:List UInt8) (_:Nat→UInt32) (_:Nat→UInt8) (_:Nat)=>[(1,(.slice A1 n1 c1)),(0,(.pointer (some ⟨g,0,none⟩)))]) (fun A1 n1 c1 m1 s1 r1 k1 w=>HH w0 [g] [[bl g 175 (cHa.enc (s1,r1,k1))]] w∧(Vu af w0 A1 n1 c1 m1)∧(Off A1 n1 [g])∧(HaS s1 r1 k1 F)∧(∀ j z,m1[j]?=some z→F (k1+j)=z)∧(k1+n1=k+n)) (fun _ n1 _ _ _ _ _=>n1) A n c m s r k ⟨hH,hR.2.1,hR.2.2,hS,hF,rfl⟩ ?_
 clear hH
 rintro A1 n1 c1 m1 s1 r1 k1 w ⟨hH,hV,hO,hS1,hF1,hk⟩
 refine aj (zr (zv .mv 0 ?_))
 refine zv .len 1 ?_
 refine zv (.gt (n1 > 0)) 1 ?_
 refine zn ?_
 refine zP (fun hc1 => ?_) (fun hc1 => ?_)
 refine aA (ag (ai ?_))
 have hlen1:=hV.len
 obtain ⟨kk,hkk⟩:∃ kk,kk=min n1 (64-k1%64):=⟨_,rfl⟩
 refine zx ?_
 replace hH:=hH.drew
 refine rv 0 .mv 1 ?_
 refine rv 1 .nc 1 ?_
 refine rv 2 (.fld 8) 1 ?_
 refine rv 3 .mv 0 ?_
 refine rv 4 .nc 1 ?_
 refine rv 5 (.fld 72) 1 ?_
 refine rld 6 (hH.q 0 rfl) (.ld (eX .u64) k1 (fun _ hS=>((ae hS).snd).snd)) 1 ?_
 refine rv 7 (v:=(.int .u64 (((k1%64):Nat):Int))) (fun _ _ hF=>bm (z:=((k1%64:Nat):Int)) rfl (hF.ev 0 rfl) rfl (by omega) bW) 1 ?_
 refine rv 8 (v:=(.slice (some ⟨g,8+k1%64*1,none⟩) (64-k1%64) (64-k1%64))) (fun _ _ hF=>dh (m:=64) (l:=k1%64) (e:=5) (sz:=1) rfl (by kernel_rfl) (by kernel_rfl) (hF.ev 1 rfl) (hF.ev 0 rfl) rfl (by omega)) 3 ?_
 refine rv 9 .mv 0 ?_
 refine ao 10 ?_
 refine re 10 0 hH rfl (fun _ hF=>eg (C:=af) (m:=m1) (e:=5) kk hkk.symm rfl (by kernel_rfl) (by kernel_rfl) (ltb rfl) (hF.ev 1 rfl) (hF.ev 0 rfl) hlen1 (by rw[Cod.size];show 8+k1%64*1+kk*1≤73;omega) (co (cD (yS r1 (k1%64*1) (m1.take kk)) (by rw[bD,List.length_take];show k1%64*1+min kk m1.length*1≤64;omega)) rfl)) (hH.vu hV (by decide) hO) 3 (pgo [8,7] (.nil _ [])) ?_
 clear hH
 rintro _ _ w ⟨rfl,rfl⟩ hH
 refine ⟨an,rv 11 .mv 1 ?_⟩
 refine rn ?_
 refine zr (zv .mv 0 ?_)
 refine zv .nc 0 ?_
 refine zv (.fld 72) 1 ?_
 refine zs (hH.q 0 rfl) (.ld (eX .u64) k1 (fun _ hS=>((ae hS).snd).snd)) 1 ?_
 refine zv .mv 0 ?_
 refine zv (.cu .u64) 1 ?_
 refine zv (v:=(.int .u64 (((k1+kk):Nat):Int))) (fun _ _ hF=>f7 (m:=k1) (j:=kk) (z:=(k1+kk)) rfl rfl (hF.ev 1 rfl) (hF.ev 0 rfl) (Nat.mod_eq_of_lt (by show _<18446744073709551616;omega))) 3 ?_
 refine zv .nc 2 ?_
 refine zv (.fld 72) 1 ?_
 refine ze0 0 hH rfl (fun _ hF=>bV (C:=(eX .u64)) (z:=k1+kk) rfl (hF.ev 0 rfl) (hF.ev 1 rfl) rfl (by kernel_rfl) (by rw[Cod.size];exact leb rfl) (co (co (cy (eX .u64) _ _) rfl) rfl)) trivial ?_
 clear hH
 rintro _ _ w rfl hH
 refine zn (zr (zv .mv 11 ?_))
 refine zv .mv 2 ?_
 refine zv (v:=(.slice (et A1 c1 kk 1) (n1-kk) (c1-kk))) (fun _ _ hF=>mz (k:=kk) (e:=5) (sz:=1) rfl (by kernel_rfl) (by kernel_rfl) (hF.ev 1 rfl) (hF.ev 0 rfl) rfl (by omega)) 3 ?_
 refine zv .mv 1 ?_
 refine zn (zr (zv .mv 0 ?_))
 refine zv .nc 1 ?_
 refine zv (.fld 72) 1 ?_
 refine zs (hH.q 0 rfl) (.ld (eX .u64) (k1+kk) (fun _ hS=>((ae hS).snd).snd)) 1 ?_
 refine zv (v:=(.int .u64 ((((k1+kk)%64):Nat):Int))) (fun _ _ hF=>bm (z:=(((k1+kk)%64:Nat):Int)) rfl (hF.ev 0 rfl) rfl (by omega) bW) 1 ?_
 refine zv (.eq ((k1+kk)%64=0)) 1 ?_
 refine zn ?_
 refine zP (fun hc2 => ?_) (fun hc2 => ?_)
 refine br mixedOrders (by kernel_rfl) ?_
 replace hH:=hH.drew
 refine rv 0 .mv 1 ?_
 refine rv 1 .mv 0 ?_
 refine rv 2 .nc 1 ?_
 refine rv 3 (.fld 0) 1 ?_
 refine rld 4 (hH.q 0 rfl) (.ld (cWs 8) s1 (fun _ hS=>(ae hS).fst)) 1 ?_
 refine rv 5 .mv 0 ?_
 refine rv 6 .nc 1 ?_
 refine rv 7 (.fld 8) 1 ?_
 refine rld 8 (hH.q 0 rfl) (.ld (ac 64) (ovF r1 (k1%64*1) (m1.take kk)) (fun _ hS=>((ae hS).snd).fst)) 1 ?_
 refine ao 9 (rpc 9 Tryz.func140 (yY s1 (ovF r1 (k1%64*1) (m1.take kk))) (hH.oldBlk hR.1 hng) hH 3 (pgo [] (pgo [] (.nil _ []))) ?_)
 clear hH
 intro w hH
 refine ⟨an,rv 10 .nc 2 ?_⟩
 refine rv 11 (.fld 0) 1 ?_
 refine ao 12 ?_
 refine re0 12 0 hH rfl (fun _ hF=>bV (C:=(cWs 8)) (z:=(bq (ovF r1 (k1%64*1) (m1.take kk)) s1)) rfl (hF.ev 0 rfl) (hF.ev 1 rfl) rfl (by kernel_rfl) (by rw[Cod.size];exact leb rfl) (cD (cy (cWs 8) _ _) (by rw[Array.length_toList,Cod.size];exact leb rfl))) trivial (.nil _ []) ?_
 clear hH
 rintro _ _ w rfl hH
 refine ⟨an,bQ (by kernel_rfl) ?_⟩
 refine aN ?_
 exact zR7 (et A1 c1 kk 1) (n1-kk) (c1-kk) (m1.drop kk) (bq (ovF r1 (k1%64*1) (m1.take kk)) s1) (ovF r1 (k1%64*1) (m1.take kk)) (k1+kk) ⟨hH,(hV.from (show kk≤n1 by omega)),(hO.cut hV _ (fun _=>by omega)),(hS1.full hF1 (by omega) (by omega)),(fun j x hx=>by rw[Nat.add_assoc];exact hF1 _ _ (by rw[List.getElem?_drop]at hx;exact hx)),(by omega)⟩ (show n1-kk<n1 by omega)
 refine aA (aN ?_)
 exact zR7 (et A1 c1 kk 1) (n1-kk) (c1-kk) (m1.drop kk) s1 (ovF r1 (k1%64*1) (m1.take kk)) (k1+kk) ⟨hH,(hV.from (show kk≤n1 by omega)),(hO.cut hV _ (fun _=>by omega)),(hS1.part hF1 (by omega) (by omega)),(fun j x hx=>by rw[Nat.add_assoc];exact hF1 _ _ (by rw[List.getElem?_drop]at hx;exact hx)),(by omega)⟩ (show n1-kk<n1 by omega)
 refine aJ (ak (ak (aR (tr rfl ?_))))
 obtain rfl:k1=k+n:=by omega
 exact ⟨_,_,rfl,⟨rfl,s1,r1,rfl,hS1⟩,hH.out1 [true] rfl⟩
theorem x6  : Does Tryz.prog 107 #[] [] (fun w=>w.heap[2]?=some (.cells ((cWs 8).enc H32) 118 (0,0))) (fun v E' => ∃ g,v=jI g∧HaAt g [] E'):=by
 refine dU Tryz.func107 Tryz.ntmps107 ?_
 intro w0 hH hR
 replace hH:HH w0 [] [] w0:=hH.only [false]
 refine zr (zv .mv 0 ?_)
 refine zn (zr (zs (hH.ob hR) (.ld (cWs 8) H32 (fun _=>ae)) 1 ?_))
 refine zv (v:=(cHa.val (H32,fun _=>0,0))) (fun _ _ hF=>aE (cells:=cHa.enc (H32,fun _=>0,0)) (vals:=[(0,((cWs 8).val H32))]) rfl (EvP.cons (hF.ev 0 rfl) EvP.nil) (by kernel_rfl) _) 1 ?_
 refine zB hH cHa (H32,fun _=>0,0) 1 ?_
 clear hH
 intro g1 w hH
 refine zv .mv 1 ?_
 refine zn (ar (aW 0 rfl rfl ?_))
 exact ⟨_,_,rfl,⟨_,rfl,H32,fun _=>0,rfl,fun _ _=>rfl,fun _ h=>absurd h (Nat.not_lt_zero _)⟩,hH.out1 [true] rfl⟩
theorem yZ(g k:Nat)(s:Nat→UInt32)(r f:Nat→UInt8)(hS:HaS s r k f)(hk:k≤1000000000000000000):Pure Tryz.prog 105 #[(.pointer (some ⟨g,0,none⟩))] (fun w=>w.heap[3]?=some (.cells ((cWs 64).enc K32) 119 (0,0))∧w.heap[g]?=some (.cells (cHa.enc (s,r,k)) 175 (0,0))) ((ac 32).val (tC k f)):=by
 refine pU Tryz.func105 Tryz.ntmps105 ?_
 intro w0 hH hR
 refine zr (zA hH (ac 32) (fun _=>0) 0 ?_)
 clear hH
 intro g1 w hH
 refine zn (aj (zr (zv .mv 0 ?_)))
 refine zv (v:=(.bool false)) (fun _ _ hF=>qa (e:=175) rfl (by kernel_rfl) (hF.ev 0 rfl) rfl rfl) 1 ?_
 refine zn (zF ?_)
 refine aA (ag (zr (zv .mv 1 ?_)))
 refine zv .nc 1 ?_
 refine zs (hH.ob hR.2) (.ld cHa (s,r,k) (fun _=>ae)) 1 ?_
 refine zA hH cHa (fun _=>0,fun _=>0,0) 0 ?_
 clear hH
 intro g2 w hH
 refine zW 1 hH rfl (s,r,k) ?_
 clear hH
 intro w hH
 refine zn (zr (zv .mv 10 ?_))
 refine zv .nc 1 ?_
 refine zv (.fld 72) 1 ?_
 refine zs (hH.ob hR.2) (.ld (eX .u64) k (fun _ hS=>((ae hS).snd).snd)) 1 ?_
 refine zm hH (.call Tryz.func108 ((sm k _ rfl (by omega)))) trivial 1 ?_
 clear hH
 rintro v7 E3 w hO4 hH
 obtain ⟨A5,c6,rfl⟩:=hO4.slice
 refine ze 1 hH rfl (.call Tryz.func104 (nP g2 k s r (ga k f) A5 _ c6 (pdL k) (hS.congr fun j hj=>sf k f j hj) (yT f) (by rw[mC];have:=jT k;omega))) (⟨hH.oldBlk hR.1 (by simp),(hO4.vuAt (hH.has 2 rfl)),(hH.off3 1 2 rfl rfl rfl hO4)⟩) 1 ?_
 clear hH
 rintro _ _ w ⟨rfl,s29,r210,rfl,hS211⟩ hH
 refine zn (zr (zv (.fld 0) 3 ?_))
 refine zs (hH.q 1 rfl) (.ld (cWs 8) s29 (fun _ hS=>(ae hS).fst)) 1 ?_
 refine zc Tryz.func141 (vZ s29) trivial hH 1 ?_
 clear hH
 intro w hH
 refine zW 0 hH rfl (bX s29) ?_
 clear hH
 intro w hH
 refine zn (ar (aI 1 (hH.blk 0 rfl) rfl rfl (by kernel_rfl) (Cod.size _ _) (by kernel_rfl) ?_))
 have hS3:=hS211
 rw[mC,show k+(64*bY k-k)=64*bY k by have:=jT k;omega]at hS3
 exact ⟨vV (yU hS3),HH.toBelow hH⟩
theorem jU(g:Nat)(l m:List UInt8)(E:Hl)(hE:HaAt g l E)(A:Option Addr)(n c:Nat)(hb:l.length+m.length≤1000000000000000000):Does Tryz.prog 104 #[jI g,.slice A n c] E (fun w=>w.heap[3]?=some (.cells ((cWs 64).enc K32) 119 (0,0))∧Vu af w A n c m∧Off A n [g]) (fun v E'=>v=.tuple #[]∧HaAt g (l++m) E'):=by
 obtain ⟨s,r,rfl,hS⟩:=hE
 intro w hw hR
 have hn:=hR.2.1.len
 subst hn
 refine (nP g l.length s r (fun j=>(l++m).getD j 0) A m.length c m (hS.congr fun j hj => ?_) (fun j x hx => ?_) (by omega) w hw hR).mono ?_
 ·rw[List.getD_eq_getElem?_getD,List.getD_eq_getElem?_getD,List.getElem?_append_left hj]
 ·rw[List.getD_eq_getElem?_getD,List.getElem?_append_right (by omega),Nat.add_sub_cancel_left,hx];rfl
 ·rintro e w' ⟨v,E',he,⟨h1,s',r',h2,h3⟩,h4⟩
  refine ⟨v,E',he,⟨h1,s',r',?_,?_⟩,h4⟩
  ·rw[h2,List.length_append]
  ·rw[List.length_append];exact h3
theorem tL(g:Nat)(l:List UInt8)(E:Hl)(hE:HaAt g l E)(hb:l.length≤1000000000000000000):Does Tryz.prog 105 #[jI g] E (fun w=>w.heap[3]?=some (.cells ((cWs 64).enc K32) 119 (0,0))) (fun v E'=>v=(ac 32).val (sha l)∧E=E'):=by
 obtain ⟨s,r,rfl,hS⟩:=hE
 intro w hw hR
 have hblk:=hw.blk _ (List.mem_singleton.2 rfl)
 refine (yZ g l.length s r (fun j=>l.getD j 0) hS hb w ⟨hR,hblk⟩).mono ?_
 rintro e w' ⟨he,hB⟩
 refine ⟨_,_,he,⟨rfl,rfl⟩,?_⟩
 have h0:=hw.start
 exact (HH.below h0 hB).hold
theorem HaAt.bks{g:Nat}{l:List UInt8}{E:Hl}(h:HaAt g l E):bks E=[g]:=by
 obtain ⟨s,r,rfl,_⟩:=h
 rfl
theorem tM(A:Option Addr)(n c:Nat)(l:List UInt8)(hb:n≤140737488351232):Pure Tryz.prog 66 #[(.slice A n c)] (fun w=>w.heap[3]?=some (.cells ((cWs 64).enc K32) 119 (0,0))∧w.heap[2]?=some (.cells ((cWs 8).enc H32) 118 (0,0))∧Vu af w A n c l) ((ac 32).val (sha l)):=by
 refine pU Tryz.func66 Tryz.ntmps66 ?_
 intro w0 hH hR
 have hn:=hR.2.2.len
 refine zr (zA hH (ac 32) (fun _=>0) 0 ?_)
 clear hH
 intro g1 w hH
 refine zn (zr (zm hH (.call Tryz.func107 (x6)) (hH.oldBlk hR.2.1 (by simp)) 0 ?_))
 clear hH
 rintro _ E3 w ⟨g2,rfl,hHa4⟩ hH
 refine zv .mv 1 ?_
 refine zn (zr (zv .mv 0 ?_))
 refine zv .mv 8 ?_
 refine ze 1 hH rfl (.call Tryz.func104 (jU g2 ([]) l E3 hHa4 A n c (by show 0+_≤_;omega))) (⟨(hH.oldBlk hR.1 (by simp)),(hH.vu hR.2.2 (by decide) (Off.nil _ _)),hHa4.bks▸(hH.off 1 rfl hR.2.2 (by decide) (Off.nil _ _))⟩) 3 ?_
 clear hH
 rintro _ E5 w ⟨rfl,hHa6⟩ hH
 refine zn (zr (zv .mv 3 ?_))
 refine ze 1 hH rfl (.call Tryz.func105 (tL g2 l E5 hHa6 (by omega))) (hH.oldBlk hR.1 (by simp)) 1 ?_
 clear hH
 rintro _ _ w ⟨rfl,rfl⟩ hH
 refine zW 0 hH rfl (sha l) ?_
 clear hH
 intro w hH
 refine zn (ar (aI 1 (hH.blk 0 rfl) rfl rfl (by kernel_rfl) (Cod.size _ _) (by kernel_rfl) ?_))
 exact zE hH
section
def fV(x:UInt64)(n:Nat):UInt64:=UInt64.ofNat (x.toNat/2^n)
def so(x:UInt64)(n:Nat):UInt64:=UInt64.ofNat (x.toNat*2^n)
def o0(x y:UInt64):UInt64:=x|||y
def bL(x y:UInt64):UInt64:=x&&&y
def cJ(x y:UInt64):UInt64:=x^^^y
def ez(x:UInt64):UInt64 := ~~~x
def bh(x y:UInt64):UInt64:=x+y
def cK(x:UInt64)(n:Nat):UInt64:=o0 (fV x n) (so x (64-n))
def iw(x:UInt64):UInt64:=cJ (cJ (cK x 28) (cK x 34)) (cK x 39)
def dC(x:UInt64):UInt64:=cJ (cJ (cK x 14) (cK x 18)) (cK x 41)
def db(x:UInt64):UInt64:=cJ (cJ (cK x 1) (cK x 8)) (fV x 7)
def cF(x:UInt64):UInt64:=cJ (cJ (cK x 19) (cK x 61)) (fV x 6)
def wa(e f g:UInt64):UInt64:=cJ (bL e f) (bL (ez e) g)
def x7(a b c:UInt64):UInt64:=cJ (cJ (bL a b) (bL a c)) (bL b c)
theorem gQ(x:UInt64)(n:Nat):(fV x n).toNat=x.toNat/2^n:=by
 unfold fV
 rw[UInt64.toNat_ofNat']
 have h:=x.toNat_lt
 have h2:x.toNat/2^n≤x.toNat:=Nat.div_le_self _ _
 exact Nat.mod_eq_of_lt (by omega)
theorem kr(x:UInt64)(n:Nat):(so x n).toNat=x.toNat*2^n%18446744073709551616:=UInt64.toNat_ofNat'
def lQ(b:Nat→UInt8)(t:Nat):UInt64:=UInt64.ofNat ((b (8*t)).toNat*72057594037927936+(b (8*t+1)).toNat*281474976710656+(b (8*t+2)).toNat*1099511627776+(b (8*t+3)).toNat*4294967296+(b (8*t+4)).toNat*16777216+(b (8*t+5)).toNat*65536+(b (8*t+6)).toNat*256+(b (8*t+7)).toNat)
def W64(b:Nat→UInt8)(t:Nat):UInt64 :=
 if _h:t<16 then lQ b t else bh (bh (bh (cF (W64 b (t-2))) (W64 b (t-7))) (db (W64 b (t-15)))) (W64 b (t-16))
termination_by t
decreasing_by all_goals omega
theorem mE(b:Nat→UInt8)(t:Nat)(h:t<16):W64 b t=lQ b t:=by rw[W64,dif_pos h]
theorem o1(b:Nat→UInt8)(t:Nat)(h:16≤t):W64 b t=bh (bh (bh (cF (W64 b (t-2))) (W64 b (t-7))) (db (W64 b (t-15)))) (W64 b (t-16)):=by
 rw[W64,dif_neg (by omega)]
def CG:List UInt64:=[4794697086780616226,8158064640168781261,13096744586834688815,16840607885511220156,4131703408338449720,6480981068601479193,10538285296894168987,12329834152419229976,15566598209576043074,1334009975649890238,2608012711638119052,6128411473006802146,8268148722764581231,9286055187155687089,11230858885718282805,13951009754708518548,16472876342353939154,17275323862435702243,1135362057144423861,2597628984639134821,3308224258029322869,5365058923640841347,6679025012923562964,8573033837759648693,10970295158949994411,12119686244451234320,12683024718118986047,13788192230050041572,14330467153632333762,15395433587784984357,489312712824947311,1452737877330783856,2861767655752347644,3322285676063803686,5560940570517711597,5996557281743188959,7280758554555802590,8532644243296465576,9350256976987008742,10552545826968843579,11727347734174303076,12113106623233404929,14000437183269869457,14369950271660146224,15101387698204529176,15463397548674623760,17586052441742319658,1182934255886127544,1847814050463011016,2177327727835720531,2830643537854262169,3796741975233480872,4115178125766777443,5681478168544905931,6601373596472566643,7507060721942968483,8399075790359081724,8693463985226723168,9568029438360202098,10144078919501101548,10430055236837252648,11840083180663258601,13761210420658862357,14299343276471374635,14566680578165727644,15097957966210449927,16922976911328602910,17689382322260857208,500013540394364858,748580250866718886,1242879168328830382,1977374033974150939,2944078676154940804,3659926193048069267,4368137639120453308,4836135668995329356,5532061633213252278,6448918945643986474,6902733635092675308,7801388544844847127]
def CH:List UInt64:=[7640891576956012808,13503953896175478587,4354685564936845355,11912009170470909681,5840696475078001361,11170449401992604703,2270897969802886507,6620516959819538809]
def K64(i:Nat):UInt64:=CG.getD i 0
def H64(i:Nat):UInt64:=CH.getD i 0
def gH(w:UInt64)(t:Nat)(s:Nat→UInt64):UInt64:=bh (bh (bh (bh (s 7) (dC (s 4))) (wa (s 4) (s 5) (s 6))) (K64 t)) w
def lR(s:Nat→UInt64):UInt64:=bh (iw (s 0)) (x7 (s 0) (s 1) (s 2))
def mF(w:UInt64)(t:Nat)(s:Nat→UInt64):Nat→UInt64
 | 0=>bh (gH w t s) (lR s)
 | 1=>s 0
 | 2=>s 1
 | 3=>s 2
 | 4=>bh (s 3) (gH w t s)
 | 5=>s 4
 | 6=>s 5
 | _=>s 6
def av(b:Nat→UInt8)(s:Nat→UInt64):Nat→Nat→UInt64
 | 0=>s
 | t+1=>mF (W64 b t) t (av b s t)
def bs(b:Nat→UInt8)(s:Nat→UInt64):Nat→UInt64:=fun i=>bh (s i) (av b s 80 i)
def aK(m:Nat→UInt8):Nat→Nat→UInt64
 | 0=>H64
 | k+1=>bs (fun j=>m (128*k+j)) (aK m k)
def bT(n:Nat):Nat:=(n+16)/128+1
def gI(n:Nat)(f:Nat→UInt8):Nat→UInt8:=fun j =>
 if j<n then f j else if j=n then 128 else if j<128*bT n-8 then 0 else UInt8.ofNat (8*n/256^(128*bT n-1-j))
def cj(s:Nat→UInt64):Nat→UInt8:=fun i=>UInt8.ofNat ((s (i/8)).toNat/2^(56-i%8*8))
def Bg(n:Nat)(f:Nat→UInt8):Nat→UInt8:=cj (aK (gI n f) (bT n))
theorem mG{b b':Nat→UInt8}{s s':Nat→UInt64}(hb:∀ j,j<128→b j=b' j)(hs:∀ i,i<8→s i=s' i):∀ i,i<8→bs b s i=bs b' s' i:=by
 have hw:∀ t,t<16→lQ b t=lQ b' t:=fun t ht=>by
  unfold lQ
  rw[hb (8*t) (by omega),hb (8*t+1) (by omega),hb (8*t+2) (by omega),hb (8*t+3) (by omega),hb (8*t+4) (by omega),hb (8*t+5) (by omega),hb (8*t+6) (by omega),hb (8*t+7) (by omega)]
 have hW:∀ n t,t<n→W64 b t=W64 b' t:=by
  intro n
  induction n with
  | zero=>intro t ht;omega
  | succ n ih =>
   intro t ht
   by_cases h:t<16
   ·rw[mE _ _ h,mE _ _ h,hw t h]
   ·rw[o1 _ _ (by omega),o1 b' _ (by omega),ih (t-2) (by omega),ih (t-7) (by omega),ih (t-15) (by omega),ih (t-16) (by omega)]
 have hr:∀ t i,i<8→av b s t i=av b' s' t i:=by
  intro t
  induction t with
  | zero=>exact hs
  | succ t ih =>
   intro i hi
   show mF (W64 b t) t (av b s t) i=mF (W64 b' t) t (av b' s' t) i
   rw[hW (t+1) t (by omega)]
   have e0:=ih 0 (by omega);have e1:=ih 1 (by omega);have e2:=ih 2 (by omega);have e3:=ih 3 (by omega);have e4:=ih 4 (by omega);have e5:=ih 5 (by omega);have e6:=ih 6 (by omega);have e7:=ih 7 (by omega)
   obtain rfl | rfl | rfl | rfl | rfl | rfl | rfl | rfl:i=0∨i=1∨i=2∨i=3∨i=4∨i=5∨i=6∨i=7:=by omega
   all_goals (simp only[mF,gH,lR,e0,e1,e2,e3,e4,e5,e6,e7])
 intro i hi
 unfold bs
 rw[hs i hi,hr 80 i hi]
end
def sWq:Scal UInt64:=⟨fun x=>.int .u64 (x.toNat:Int),fun _=>rfl⟩
abbrev cWq:Cod UInt64:=sWq.cod
abbrev cQs(n:Nat):Cod (Nat→UInt64):=sWq.vec n
section
variable{P:Program}{a:Act}{o:Oper}{w:World}{x y:Operand}{t t2 ty:TypeId}{u v z:UInt64}
theorem y4(ho:o.op=.binOp .add t x y t2)(hx:a.eval x=.int .u64 (u.toNat:Int))(hy:a.eval y=.int .u64 (v.toNat:Int))(hz:bh u v=z):(execOp a.eval o).run P w=.ok (.value (.int .u64 (z.toNat:Int))) w :=
 f7 rfl ho hx hy (by subst hz;exact (UInt64.toNat_add u v).symm)
theorem y5(ho:o.op=.binOp .xor t x y t2)(hx:a.eval x=.int .u64 (u.toNat:Int))(hy:a.eval y=.int .u64 (v.toNat:Int))(hz:cJ u v=z):(execOp a.eval o).run P w=.ok (.value (.int .u64 (z.toNat:Int))) w :=
 oU rfl ho hx hy u.toNat_lt v.toNat_lt (by subst hz;exact (UInt64.toNat_xor u v).symm)
theorem y6(ho:o.op=.binOp .and t x y t2)(hx:a.eval x=.int .u64 (u.toNat:Int))(hy:a.eval y=.int .u64 (v.toNat:Int))(hz:bL u v=z):(execOp a.eval o).run P w=.ok (.value (.int .u64 (z.toNat:Int))) w :=
 i8 rfl ho hx hy u.toNat_lt v.toNat_lt (by subst hz;exact (UInt64.toNat_and u v).symm)
theorem Bh(ho:o.op=.binOp .or t x y t2)(hx:a.eval x=.int .u64 (u.toNat:Int))(hy:a.eval y=.int .u64 (v.toNat:Int))(hz:o0 u v=z):(execOp a.eval o).run P w=.ok (.value (.int .u64 (z.toNat:Int))) w :=
 kf rfl ho hx hy u.toNat_lt v.toNat_lt (by subst hz;exact (UInt64.toNat_or u v).symm)
theorem y7{yk:IntKind}{n:Nat}(ho:o.op=.binOp .shl t x y t2)(hx:a.eval x=.int .u64 (u.toNat:Int))(hy:a.eval y=.int yk (n:Int))(hn:n≤64)(hz:so u n=z):(execOp a.eval o).run P w=.ok (.value (.int .u64 (z.toNat:Int))) w :=
 f9 rfl ho hx hy hn (by subst hz;exact (kr u n).symm)
theorem y8{yk:IntKind}{n:Nat}(ho:o.op=.binOp .shr t x y t2)(hx:a.eval x=.int .u64 (u.toNat:Int))(hy:a.eval y=.int yk (n:Int))(hn:n≤64)(hz:fV u n=z):(execOp a.eval o).run P w=.ok (.value (.int .u64 (z.toNat:Int))) w :=
 du ho hx hy hn (by subst hz;exact (gQ u n).symm)
theorem o6(u:UInt64):IntKind.u64.max.toNat^^^u.toNat=(ez u).toNat:=by
 show 18446744073709551615^^^u.toNat=(~~~u).toNat
 rw[UInt64.toNat_not]
 have h:u.toNat<2^64:=u.toNat_lt
 have e:(18446744073709551615:Nat)=2^64-1:=rfl
 apply Nat.eq_of_testBit_eq
 intro i
 rw[show UInt64.size-1-u.toNat=2^64-(u.toNat+1) by show 18446744073709551616-1-u.toNat=18446744073709551616-(u.toNat+1);omega]
 rw[Nat.testBit_xor,e,Nat.testBit_two_pow_sub_one,Nat.testBit_two_pow_sub_succ h]
 by_cases hi:i<64
 ·simp[hi]
 ·have:=Nat.testBit_lt_two_pow (Nat.lt_of_lt_of_le h (Nat.pow_le_pow_right (by decide) (show 64≤i by omega)))
  simp[hi,this]
theorem y9(ho:o.op=.unOp .xor t x)(hx:a.eval x=.int .u64 (u.toNat:Int))(hz:ez u=z):(execOp a.eval o).run P w=.ok (.value (.int .u64 (z.toNat:Int))) w:=by
 subst hz
 have e:IntKind.u64.wrap ((BitVec.ofInt 64 (18446744073709551615:Int)^^^BitVec.ofInt 64 (u.toNat:Int)).toNat:Int)=((ez u).toNat:Int):=by
  rw[BitVec.toNat_xor,show (18446744073709551615:Int)=((18446744073709551615:Nat):Int) from rfl,cT _ _ (by decide),cT _ _ u.toNat_lt,fO rfl]
  congr 1
  have:=o6 u
  rw[show 18446744073709551615^^^u.toNat=(ez u).toNat from this]
  exact Nat.mod_eq_of_lt (ez u).toNat_lt
 unfold execOp
 simp only[ho,hx,Sem.run_bind,Sem.run_pure]
 show ((Op.unary .xor (.int .u64 (u.toNat:Int))).run P w).andThen _=_
 have h:(Op.unary .xor (.int .u64 (u.toNat:Int))).run P w=.ok (.int .u64 ((ez u).toNat:Int)) w:=by
  show ((pure (.int .u64 (IntKind.u64.wrap ((BitVec.ofInt 64 (18446744073709551615:Int)^^^BitVec.ofInt 64 (u.toNat:Int)).toNat:Int))):Sem Value)).run P w=_
  rw[e];rfl
 rw[h];rfl
end
section
variable{P:Program}{o:Oper}{n:Sz}{l:aS}{x y:Operand}{t t2 ty src:TypeId}{u v z:UInt64}{k:IntKind}
theorem Vl.aq(z:UInt64)(ho:o.op=.binOp .add t x y t2:=by exact rfl)(hx:vo l x=some (.int .u64 (u.toNat:Int)):=by exact rfl)(hy:vo l y=some (.int .u64 (v.toNat:Int)):=by exact rfl)(hz:bh u v=z:=by exact rfl):Vl P n l o (.int .u64 (z.toNat:Int)):=fun _ _ hF=>y4 ho (hF.vo hx) (hF.vo hy) hz
theorem Vl.xq(z:UInt64)(ho:o.op=.binOp .xor t x y t2:=by exact rfl)(hx:vo l x=some (.int .u64 (u.toNat:Int)):=by exact rfl)(hy:vo l y=some (.int .u64 (v.toNat:Int)):=by exact rfl)(hz:cJ u v=z:=by exact rfl):Vl P n l o (.int .u64 (z.toNat:Int)):=fun _ _ hF=>y5 ho (hF.vo hx) (hF.vo hy) hz
theorem Vl.oq(z:UInt64)(ho:o.op=.binOp .or t x y t2:=by exact rfl)(hx:vo l x=some (.int .u64 (u.toNat:Int)):=by exact rfl)(hy:vo l y=some (.int .u64 (v.toNat:Int)):=by exact rfl)(hz:o0 u v=z:=by exact rfl):Vl P n l o (.int .u64 (z.toNat:Int)):=fun _ _ hF=>Bh ho (hF.vo hx) (hF.vo hy) hz
theorem Vl.nq(z:UInt64)(ho:o.op=.binOp .and t x y t2:=by exact rfl)(hx:vo l x=some (.int .u64 (u.toNat:Int)):=by exact rfl)(hy:vo l y=some (.int .u64 (v.toNat:Int)):=by exact rfl)(hz:bL u v=z:=by exact rfl):Vl P n l o (.int .u64 (z.toNat:Int)):=fun _ _ hF=>y6 ho (hF.vo hx) (hF.vo hy) hz
theorem Vl.cq(ho:o.op=.unOp .xor t x:=by exact rfl)(hx:vo l x=some (.int .u64 (u.toNat:Int)):=by exact rfl):Vl P n l o (.int .u64 ((ez u).toNat:Int)):=fun _ _ hF=>y9 ho (hF.vo hx) rfl
theorem Vl.lq(q:Nat)(ho:o.op=.binOp .shl t x y t2:=by exact rfl)(hx:vo l x=some (.int .u64 (u.toNat:Int)):=by exact rfl)(hy:vo l y=some (.int k (q:Int)):=by exact rfl)(hq:q≤64:=by omega):Vl P n l o (.int .u64 ((so u q).toNat:Int)):=fun _ _ hF=>y7 ho (hF.vo hx) (hF.vo hy) hq rfl
theorem Vl.rq(q:Nat)(ho:o.op=.binOp .shr t x y t2:=by exact rfl)(hx:vo l x=some (.int .u64 (u.toNat:Int)):=by exact rfl)(hy:vo l y=some (.int k (q:Int)):=by exact rfl)(hq:q≤64:=by omega):Vl P n l o (.int .u64 ((fV u q).toNat:Int)):=fun _ _ hF=>y8 ho (hF.vo hx) (hF.vo hy) hq rfl
end
theorem qq{P:Program}{a:Act}{o:Oper}{w:World}{x:Operand}{z:UInt64}{src dst:TypeId}{k:IntKind}{m:Nat}(ho:o.op=.convert src dst x)(hsrc:(P.underlying src).isSome=true)(hd:P.underlying dst=some (.int .u64))(hx:a.eval x=.int k (m:Int))(hz:UInt64.ofNat m=z):(execOp a.eval o).run P w=.ok (.value (.int .u64 (z.toNat:Int))) w :=
 im rfl ho hsrc hd hx (by subst hz;exact UInt64.toNat_ofNat'.symm)
theorem wb(x:UInt64)(n:Nat):o0 (so x (64-n)) (fV x n)=cK x n:=by
 unfold cK o0
 exact UInt64.or_comm _ _
def pn64(b:Nat→UInt8)(j:Nat):Nat→Nat
 | 0=>0
 | k+1=>pn64 b j k*256+(b (8*j+k)).toNat
theorem wc(b:Nat→UInt8)(j k:Nat):pn64 b j k<256^k:=by
 induction k with
 | zero=>simp[pn64]
 | succ k ih =>
  have h:=(b (8*j+k)).toNat_lt
  show pn64 b j k*256+(b (8*j+k)).toNat<256^(k+1)
  rw[Nat.pow_succ]
  omega
def jK(m j:Nat):Nat:=min 8 (m-8*j)
def aT(b:Nat→UInt8)(m:Nat):Nat→UInt64:=fun j=>UInt64.ofNat (pn64 b j (jK m j))
set_option maxRecDepth 100000 in
theorem lS(b:Nat→UInt8)(m i:Nat)(hi:i=m/8):o0 (so (aT b m i) 8) (UInt64.ofNat (b m).toNat)=aT b (m+1) i:=by
 have h1:jK m i=m%8:=by unfold jK;omega
 have h2:jK (m+1) i=m%8+1:=by unfold jK;omega
 have h3:=wc b i (m%8)
 have h4:256^(m%8)≤256^7:=Nat.pow_le_pow_right (by omega) (by omega)
 have h5:=(b m).toNat_lt
 apply UInt64.toNat_inj.1
 unfold o0
 rw[UInt64.toNat_or,kr]
 unfold aT
 rw[h1,h2]
 show _=(UInt64.ofNat (pn64 b i (m%8)*256+(b (8*i+m%8)).toNat)).toNat
 rw[show 8*i+m%8=m by omega]
 simp only[UInt64.toNat_ofNat']
 generalize pn64 b i (m%8)=P at *
 have hP:P<72057594037927936:=Nat.lt_of_lt_of_le h3 h4
 rw[show P%2^64*2^8%18446744073709551616=P*2^8 by omega,Nat.mod_eq_of_lt (show (b m).toNat<2^64 by omega),qk _ _ h5,Nat.mod_eq_of_lt (show P*256+(b m).toNat<2^64 by omega)]
theorem nQ(b:Nat→UInt8)(m i:Nat)(x:UInt64)(hi:i=m/8)(hx:x=aT b (m+1) i):stF (aT b m) i x=aT b (m+1):=by
 subst hx
 funext j
 unfold stF
 by_cases h:j=i
 ·rw[if_pos h,h]
 ·rw[if_neg h]
  unfold aT
  rw[show jK m j=jK (m+1) j by unfold jK;omega]
theorem lT(b:Nat→UInt8):aT b 0=fun _=>0:=by
 funext j
 unfold aT
 rw[show jK 0 j=0 by unfold jK;omega]
 rfl
set_option maxRecDepth 100000 in
theorem tN(b:Nat→UInt8)(j:Nat)(hj:j<16):aT b 128 j=W64 b j:=by
 rw[mE _ _ hj]
 unfold aT lQ
 rw[show jK 128 j=8 by unfold jK;omega]
 congr 1
 show ((((((((0)*256+(b (8*j+0)).toNat)*256+(b (8*j+1)).toNat)*256+(b (8*j+2)).toNat)*256+(b (8*j+3)).toNat)*256+(b (8*j+4)).toNat)*256+(b (8*j+5)).toNat)*256+(b (8*j+6)).toNat)*256+(b (8*j+7)).toNat=_
 rw[show 8*j+0=8*j from rfl]
 omega
theorem lU(b:Nat→UInt8):upF 16 (W64 b) (aT b 128)=aT b 128:=by
 funext j
 unfold upF
 by_cases h:j<16
 ·rw[if_pos h,tN b j h]
 ·rw[if_neg h]
theorem nR{f:Nat→UInt64}{b:Nat→UInt8}{t:Nat}(h:16≤t):bh (bh (bh (cF (upF t (W64 b) f (t-2))) (upF t (W64 b) f (t-7))) (db (upF t (W64 b) f (t-15)))) (upF t (W64 b) f (t-16))=W64 b t:=by
 rw[bz _ _ (by omega),bz _ _ (by omega),bz _ _ (by omega),bz _ _ (by omega),← o1 b t h]
theorem tO(n:Nat)(f:Nat→UInt8)(j:Nat):el (128*bT n-n) n 8 j=gI n f (n+j):=by
 have h:128*bT n=n+16-(n+16)%128+128:=by unfold bT;omega
 have h2:=Nat.mod_lt (n+16) (show 0<128 by omega)
 unfold el gI
 rw[if_neg (by omega:¬ n+j<n)]
 by_cases h0:j=0
 ·rw[if_neg (by omega),if_pos h0,if_pos (by omega)]
 ·rw[if_neg (by omega:¬ n+j=n)]
  by_cases h8:128*bT n-n-8≤j
  ·rw[if_pos h8,if_neg (by omega),show 128*bT n-n-1-j=128*bT n-1-(n+j) by omega]
  ·rw[if_neg h8,if_neg h0,if_pos (by omega)]
def pdQ(n:Nat):List UInt8:=lst (128*bT n-n) (el (128*bT n-n) n 8)
theorem iy(n:Nat):(pdQ n).length=128*bT n-n:=ap _ _
theorem mH(n:Nat):n+16<128*bT n∧128*bT n≤n+144:=by unfold bT;omega
theorem za{n:Nat}(f:Nat→UInt8):∀ j x,(pdQ n)[j]?=some x→gI n f (n+j)=x:=fun j x hx=>by
 have hj:j<128*bT n-n:=by
  have:=(List.getElem?_eq_some_iff.1 hx).1
  rwa [iy]at this
 unfold pdQ at hx
 rw[bB hj,tO n f j]at hx
 exact Option.some.inj hx
theorem lV(n:Nat)(f:Nat→UInt8)(j:Nat)(h:j<n):f j=gI n f j:=by unfold gI;rw[if_pos h]
def bN(l:List UInt8):Nat→UInt8:=Bg l.length fun j=>l.getD j 0
theorem tQ(s:Nat→UInt64)(m:Nat):UInt8.ofNat (fV (s (m/8)) (56-m%8*8)).toNat=cj s m:=by rw[gQ];rfl
theorem sp(s:Nat→UInt64)(m:Nat):UInt8.ofNat (fV (s (m/8)) (56-8*(m%8))).toNat=cj s m:=by
 rw[gQ]
 unfold cj
 rw[Nat.mul_comm 8]
def aH(F:Nat→UInt8)(i:Nat):Nat→UInt8:=fun j=>F (128*i+j)
def pdN(l:List UInt8):List UInt8:=lst (128*bT l.length) (gI l.length fun j=>l.getD j 0)
theorem qr(l:List UInt8):(pdN l).length=128*bT l.length:=ap _ _
def o7(x:UInt64):Value:=.int .u64 (x.toNat:Int)
def fQ(n:Nat)(f:Nat→UInt64):Array Value:=Array.ofFn fun i:Fin n=>o7 (f i)
theorem lW(n:Nat)(f:Nat→UInt64)(i:Nat)(h:i<n):(fQ n f)[i]?=some (o7 (f i)):=by
 simp[fQ,h]
section
variable{w w':World}{g:Nat}{t:TypeId}{n:Nat}{f:Nat→UInt64}
end
section
variable{P:Program}{w:World}
end
section
variable{P:Program}{w:World}
end
def sl8(u:UInt8)(n:Nat):UInt8:=UInt8.ofNat (u.toNat*2^n)
def sr8(u:UInt8)(n:Nat):UInt8:=UInt8.ofNat (u.toNat/2^n)
theorem we(u:UInt8)(n:Nat):(sl8 u n).toNat=(u.toNat*2^n)%256:=UInt8.toNat_ofNat'
theorem qs(u:UInt8)(n:Nat):(sr8 u n).toNat=u.toNat/2^n:=by
 unfold sr8
 rw[UInt8.toNat_ofNat']
 exact Nat.mod_eq_of_lt (Nat.lt_of_le_of_lt (Nat.div_le_self _ _) u.toNat_lt)
theorem tR(u:UInt8):BitVec.ofInt 8 (u.toNat:Int)=u.toBitVec:=by
 apply BitVec.eq_of_toNat_eq
 rw[cT _ _ u.toNat_lt];rfl
theorem zb(u:UInt8):IntKind.u8.wrap (u.toNat:Int)=(u.toNat:Int):=by
 rw[fO rfl,Nat.mod_eq_of_lt];exact u.toNat_lt
theorem wg(u v:UInt8):bits .andNot .u8 (u.toNat:Int) (v.toNat:Int)=((u &&& ~~~v).toNat:Int):=by
 show IntKind.u8.wrap ((BitVec.ofInt 8 (u.toNat:Int) &&& ~~~BitVec.ofInt 8 (v.toNat:Int)).toNat:Int)=_
 rw[tR,tR,← zb]
 rfl
section
variable{P:Program}{o:Oper}{n:Sz}{l:aS}{x y:Operand}{t t2 ty src:TypeId}{u v z:UInt8}{k:IntKind}
theorem Vl.ab(z:UInt8)(ho:o.op=.binOp .and t x y t2:=by exact rfl)(hx:vo l x=some (.int .u8 (u.toNat:Int)):=by exact rfl)(hy:vo l y=some (.int .u8 (v.toNat:Int)):=by exact rfl)(hz:u&&&v=z:=by exact rfl):Vl P n l o (.int .u8 (z.toNat:Int)):=fun _ _ hF =>
 i8 rfl ho (hF.vo hx) (hF.vo hy) u.toNat_lt v.toNat_lt (by subst hz;exact (UInt8.toNat_and u v).symm)
theorem Vl.ob(z:UInt8)(ho:o.op=.binOp .or t x y t2:=by exact rfl)(hx:vo l x=some (.int .u8 (u.toNat:Int)):=by exact rfl)(hy:vo l y=some (.int .u8 (v.toNat:Int)):=by exact rfl)(hz:u|||v=z:=by exact rfl):Vl P n l o (.int .u8 (z.toNat:Int)):=fun _ _ hF =>
 kf rfl ho (hF.vo hx) (hF.vo hy) u.toNat_lt v.toNat_lt (by subst hz;exact (UInt8.toNat_or u v).symm)
theorem Vl.xb(z:UInt8)(ho:o.op=.binOp .xor t x y t2:=by exact rfl)(hx:vo l x=some (.int .u8 (u.toNat:Int)):=by exact rfl)(hy:vo l y=some (.int .u8 (v.toNat:Int)):=by exact rfl)(hz:u^^^v=z:=by exact rfl):Vl P n l o (.int .u8 (z.toNat:Int)):=fun _ _ hF =>
 oU rfl ho (hF.vo hx) (hF.vo hy) u.toNat_lt v.toNat_lt (by subst hz;exact (UInt8.toNat_xor u v).symm)
theorem Vl.pb(z:UInt8)(ho:o.op=.binOp .add t x y t2:=by exact rfl)(hx:vo l x=some (.int .u8 (u.toNat:Int)):=by exact rfl)(hy:vo l y=some (.int .u8 (v.toNat:Int)):=by exact rfl)(hz:u+v=z:=by exact rfl):Vl P n l o (.int .u8 (z.toNat:Int)):=fun _ _ hF =>
 f7 rfl ho (hF.vo hx) (hF.vo hy) (by subst hz;exact (UInt8.toNat_add u v).symm)
theorem Vl.mb(z:UInt8)(ho:o.op=.binOp .sub t x y t2:=by exact rfl)(hx:vo l x=some (.int .u8 (u.toNat:Int)):=by exact rfl)(hy:vo l y=some (.int .u8 (v.toNat:Int)):=by exact rfl)(hz:u-v=z:=by exact rfl):Vl P n l o (.int .u8 (z.toNat:Int)):=fun _ _ hF =>
 f8 rfl ho (hF.vo hx) (hF.vo hy) (Nat.le_of_lt v.toNat_lt) (by subst hz;rw[UInt8.toNat_sub,Nat.add_comm];rfl)
theorem Vl.nb(z:UInt8)(ho:o.op=.binOp .andNot t x y t2:=by exact rfl)(hx:vo l x=some (.int .u8 (u.toNat:Int)):=by exact rfl)(hy:vo l y=some (.int .u8 (v.toNat:Int)):=by exact rfl)(hz:u &&& ~~~v=z:=by exact rfl):Vl P n l o (.int .u8 (z.toNat:Int)):=fun a w hF=>by
 subst hz
 unfold execOp
 simp only[ho,hF.vo hx,hF.vo hy]
 rw[← wg]
 rfl
theorem Vl.lb(q:Nat)(ho:o.op=.binOp .shl t x y t2:=by exact rfl)(hx:vo l x=some (.int .u8 (u.toNat:Int)):=by exact rfl)(hy:vo l y=some (.int k (q:Int)):=by exact rfl)(hq:q≤8:=by omega):Vl P n l o (.int .u8 ((sl8 u q).toNat:Int)):=fun _ _ hF=>f9 rfl ho (hF.vo hx) (hF.vo hy) hq (we u q).symm
theorem Vl.rb(q:Nat)(ho:o.op=.binOp .shr t x y t2:=by exact rfl)(hx:vo l x=some (.int .u8 (u.toNat:Int)):=by exact rfl)(hy:vo l y=some (.int k (q:Int)):=by exact rfl)(hq:q≤8:=by omega):Vl P n l o (.int .u8 ((sr8 u q).toNat:Int)):=fun _ _ hF=>du ho (hF.vo hx) (hF.vo hy) hq (qs u q).symm
theorem Vl.gb(ho:o.op=.unOp .neg t x:=by exact rfl)(hx:vo l x=some (.int .u8 (u.toNat:Int)):=by exact rfl):Vl P n l o (.int .u8 ((-u).toNat:Int)):=fun _ _ hF=>oZ ho (hF.vo hx) (by
 have h:=u.toNat_lt
 rw[UInt8.toNat_neg]
 unfold IntKind.wrap
 show (0-(u.toNat:Int))%256=(((2^8-u.toNat)%2^8:Nat):Int)
 omega)
end
theorem qt{P:Program}{w:World}{t ty t' ty':TypeId}{k k' g g':Nat}{cs cs':Array Value}{l:aS}{fn:Func}{RR:Ending→World→Prop}{nn:Nat}{p p':Tmp}(i j:Nat)(hb:w.heap[g]?=some (.cells cs t (0,0)))(hb':w.heap[g']?=some (.cells cs' t' (0,0)))(hf:fn.results = #[.cell p ty,.cell p' ty'])(hi:l[i]?=some (p,.pointer (some ⟨g,0,none⟩)))(hj:l[j]?=some (p',.pointer (some ⟨g',0,none⟩)))(hdd:(P.underlying ty).map (·.isRow)=some true)(hdd':(P.underlying ty').map (·.isRow)=some true)(hk:cs.size=k)(hk':cs'.size=k')(hs:(P.info? ty).map (·.size)=some k)(hs':(P.info? ty').map (·.size)=some k')(hR:RR (.returned (.tuple #[.agg cs,.agg cs'])) w):QX (bodyPost P fn RR) .ret ⟨nn,[]⟩ l w:=fun a hF=>by
 obtain ⟨d,hu,hdr⟩:=dR hdd
 obtain ⟨d',hu',hdr'⟩:=dR hdd'
 have hp:a.tmps.getD p undef=.pointer (some ⟨g,0,none⟩):=hF.at i hi
 have hp':a.tmps.getD p' undef=.pointer (some ⟨g',0,none⟩):=hF.at j hj
 refine bodyPost_ret (v:=.tuple #[.agg cs,.agg cs']) ?_ hF.defers hR
 have hl:=run_loadVar_row (P:=P) w g t ty cs (0,0) d hb hu (by cases d<;>first | rfl | cases hdr) (by rw[hs,hk])
 have hl':=run_loadVar_row (P:=P) w g' t' ty' cs' (0,0) d' hb' hu' (by cases d'<;>first | rfl | cases hdr') (by rw[hs',hk'])
 simp only[Array.getD_eq_getD_getElem?]at hp hp'
 simp[results,hf,hp,hp',asAddr,hl,hl']
section
variable{P:Program}{w:World}{e t:TypeId}
theorem kt(d n:Nat)(he:P.underlying e=some (.int .u64))(f g:Nat→UInt64):∀ (fs:List Field) (os:List Nat),fs.map (fun f=>(f.name != "_",f.type,f.offset))=os.map (fun i=>(true,e,i))→(∀ i∈os,i<n) →
  (Op.eqFields (d+1) (fQ n f) (fQ n g) fs).run P w=.ok (os.all fun i=>f i == g i) w
 | [],[],_,_=>by simp[Op.eqFields]
 | [],_::_,h,_=>by simp at h
 | _::_,[],h,_=>by simp at h
 | q::fs,i::os,h,hn=>by
  rw[List.map_cons,List.map_cons,List.cons.injEq]at h
  obtain ⟨h0,h⟩:=h
  simp only[Prod.mk.injEq]at h0
  obtain ⟨a1,a2,a3⟩:=h0
  have hi:=hn i (by simp)
  have h1:=lW n f i hi
  have h2:=lW n g i hi
  have ih:=kt d n he f g fs os h fun j hj=>hn j (by simp[hj])
  have p1:(part q.type (fQ n f) q.offset).run P w=.ok (o7 (f i)) w:=by rw[a2,a3];simp[part,isAgg,run_underlying he,h1]
  have p2:(part q.type (fQ n g) q.offset).run P w=.ok (o7 (g i)) w:=by rw[a2,a3];simp[part,isAgg,run_underlying he,h2]
  have p3:(Op.equalIn (d+1) q.type (o7 (f i)) (o7 (g i))).run P w=.ok (f i == g i) w:=by
   have e1:((f i).toNat == (g i).toNat)=(f i == g i):=by
    rw[Bool.eq_iff_iff]
    simp[← UInt64.toNat_inj]
   have e2:(((f i).toNat:Int) == ((g i).toNat:Int))=(f i == g i):=by
    rw[← e1,Bool.eq_iff_iff]
    simp
    omega
   rw[a2]
   simp[Op.equalIn,run_underlying he,o7,e2]
  have a1':(q.name ≠ "_")=True:=by simpa using a1
  simp only[Op.eqFields,a1',if_true,Sem.run_bind,p1,p2,p3,Result.andThen_ok,List.all_cons]
  cases f i == g i
  ·simp
  ·simpa using ih
def Bi(P:Program)(t e:TypeId)(n:Nat):Bool:=match P.underlying t with
 | some (.struct fs)=>fs.toList.map (fun f=>(f.name != "_",f.type,f.offset)) == (List.range n).map fun i=>(true,e,i)
 | _=>false
theorem zd{n:Nat}{f g:Nat→UInt64}{a:Act}{o:Oper}{x y:Operand}{t2:TypeId}{p:Prop}[Decidable p](ho:o.op=.binOp .eql t x y t2)(hf:Bi P t e n=true)(he:P.underlying e=some (.int .u64))(hs:P.stoodInHeld t=false)
  (hx:a.eval x=(cQs n).val f) (hy:a.eval y=(cQs n).val g) (hq:P.eqGuardType P.depth t=false) (hb:(∀ i,i<n→f i=g i)↔p):(execOp a.eval o).run P w=.ok (.value (.bool (decide p))) w:=by
 unfold Bi at hf
 split at hf
 ·rename_i fs hu
  have hft:P.fieldsOf t=fs:=by unfold Program.fieldsOf;rw[hu]
  have h:=run_equalIn_struct (P:=P) w 9999 t (fQ n f) (fQ n g) (by rw[hft];exact hu) hs
  rw[hft,kt 9998 n he f g _ _ (by simpa using hf) (fun j hj=>List.mem_range.1 hj)]at h
  have hd:((List.range n).all fun i=>f i == g i)=decide p:=by
   rw[Bool.eq_iff_iff,List.all_eq_true,decide_eq_true_iff,← hb]
   simp
  rw[hd]at h
  have h2:(binOp .eql t (.agg (fQ n f)) (.agg (fQ n g))).run P w=.ok (.bool (decide p)) w:=by
   rw[run_eql_struct,h];rfl
  have hx':a.eval x=.agg (fQ n f):=hx
  have hy':a.eval y=.agg (fQ n g):=hy
  unfold execOp
  simp only[ho,hx',hy']
  simp[eqGuard,h2,hq]
 ·cases hf
end
def dv(key:List UInt8)(y:UInt8):List UInt8:=lst 64 (fun j=>key.getD j 0^^^y)
theorem en(key:List UInt8)(y:UInt8):(dv key y).length=64:=ap _ _
def k0(key:List UInt8):List UInt8:=if 64<key.length then lst 32 (sha key) else key
theorem iz{key:List UInt8}(h:¬ 64<key.length):k0 key=key:=if_neg h
def aM(key m:List UInt8):Nat→UInt8:=sha (dv (k0 key) 92++lst 32 (sha (dv (k0 key) 54++m)))
def mkx(y:UInt8)(j:Nat)(f:Nat→UInt8):Nat→UInt8:=fun i=>if i<j then f i^^^y else f i
theorem Bj(y:UInt8)(f:Nat→UInt8):mkx y 0 f=f:=by funext i;simp[mkx]
theorem tS(y:UInt8)(i:Nat)(f:Nat→UInt8):stF (mkx y i f) i (mkx y i f i^^^y)=mkx y (i+1) f:=by
 funext j
 unfold stF mkx
 by_cases h:j=i
 ·subst h;simp
 ·by_cases h2:j<i
  ·simp[h,h2,Nat.lt_succ_of_lt h2]
  ·have h3:¬ j<i+1:=by omega
   simp[h,h2,h3]
theorem qu{l:List UInt8}{n:Nat}(hn:l.length=n)(y:UInt8):lst 64 (mkx y 64 (ovr (l.take n) fun _=>0))=dv l y:=by
 subst hn
 rw[List.take_length]
 have h:∀ i,i<64→mkx y 64 (ovr l fun _=>0) i=l.getD i 0^^^y:=fun i hi=>by
  unfold mkx
  rw[if_pos hi]
  unfold ovr
  by_cases h:i<l.length
  ·rw[if_pos h]
  ·rw[if_neg h,List.getD_eq_getElem?_getD,List.getElem?_eq_none (by omega)];rfl
 exact List.map_congr_left fun i hi=>h i (List.mem_range.1 hi)
theorem Bl{l:List UInt8}{n:Nat}(hn:l.length=n)(y:UInt8):lst 64 (fun j=>ovr (l.take n) (fun _=>0) j^^^y)=dv l y:=by
 rw[← qu hn y]
 exact List.map_congr_left fun i hi=>(if_pos (List.mem_range.1 hi)).symm
theorem o8(m:List UInt8)(k:Nat)(hk:k≤64):aM (List.replicate k 0) m=aM [] m:=by
 have h:∀ y,dv (k0 (List.replicate k 0)) y=dv (k0 []) y:=fun y=>by
  rw[iz (by rw[List.length_replicate];omega),iz (by decide)]
  have h:∀ i,(List.replicate k (0:UInt8)).getD i 0^^^y=([]:List UInt8).getD i 0^^^y:=fun i=>by
   rw[List.getD_eq_getElem?_getD,List.getElem?_replicate]
   split<;>rfl
  exact List.map_congr_left fun i _=>h i
 unfold aM
 rw[h,h]
def tK(prk info:List UInt8):Nat→List UInt8
 | 0=>[]
 | i+1=>lst 32 (aM prk (tK prk info i++(info++[UInt8.ofNat (i+1)])))
def iA(prk info:List UInt8):Nat→List UInt8
 | 0=>[]
 | i+1=>iA prk info i++tK prk info (i+1)
theorem fc(prk info:List UInt8)(i:Nat):(tK prk info (i+1)).length=32:=ap _ _
theorem x8(prk info:List UInt8)(i:Nat):(tK prk info i).length≤32:=by
 cases i with
 | zero=>exact Nat.zero_le _
 | succ i=>rw[fc];exact Nat.le_refl _
theorem ku(prk info:List UInt8)(i:Nat):(iA prk info i).length=32*i:=by
 induction i with
 | zero=>rfl
 | succ i ih=>show (iA prk info i++tK prk info (i+1)).length=_;rw[List.length_append,ih,fc];omega
def sq(salt secret info:List UInt8)(n:Nat):List UInt8:=(iA (lst 32 (aM salt secret)) info 255).take n
theorem sv(prk info:List UInt8){i j n:Nat}(hij:i≤j)(hn:n≤32*i):(iA prk info j).take n=(iA prk info i).take n:=by
 induction j with
 | zero=>rw[show i=0 by omega]
 | succ j ih =>
  by_cases h:i=j+1
  ·rw[h]
  ·show (iA prk info j++_).take n=_
   rw[List.take_append_of_le_length (by rw[ku];omega),ih (by omega)]
theorem tT(salt secret info:List UInt8){i n:Nat}(hi:i≤255)(hn:n≤32*i):sq salt secret info n=(iA (lst 32 (aM salt secret)) info i).take n:=sv _ _ hi hn
theorem wh(salt secret info:List UInt8){n:Nat}(hn:n≤8160):(sq salt secret info n).length=n:=by
 unfold sq
 rw[List.length_take,ku];omega
theorem wi(prk info:List UInt8){i n:Nat}:(iA prk info i).take n++(tK prk info (i+1)).take (min 32 (n-((iA prk info i).take n).length))=(iA prk info (i+1)).take n:=by
 show _=(iA prk info i++tK prk info (i+1)).take n
 rw[List.take_append,List.length_take,ku]
 congr 1
 by_cases h:n≤32*i
 ·rw[show min 32 (n-min n (32*i))=0 by omega,show n-32*i=0 by omega]
 ·rw[show min n (32*i)=32*i by omega]
  by_cases h2:n-32*i≤32
  ·rw[show min 32 (n-32*i)=n-32*i by omega]
  ·rw[show min 32 (n-32*i)=32 by omega,List.take_of_length_le (by rw[fc];exact Nat.le_refl _),List.take_of_length_le (by rw[fc];omega)]
section
open Go
structure Ch where
 g:Nat
 c:Nat
 A:Option Addr
 v:Value
 E:Hl
def ch0:Ch:=⟨0,0,none,undef,[]⟩
abbrev Chs:=Nat→Ch
def onD(ds:List Nat)(G:Chs):Chs:=fun k=>cond (ds.contains k) (G k) ch0
structure It where
 i:Nat
 d:Option Nat
 ns:List Nat
 ds:List Nat
 s:List Nat
 r:List Nat
 v:Chs→Ch→Value
 E:Chs→Ch→Hl
 post:Chs→Ch→Prop
def It.val(t:It)(G:Chs):Value:=t.v (onD t.ds G) (G t.i)
def It.hl(t:It)(G:Chs):Hl:=t.E (onD t.ds G) (G t.i)
def tU:Option Nat→Value→aS
 | some d,v=>[(d,v)]
 | none,_=>[]
def gq(G:Chs):List It→aS
 | []=>[]
 | t::r=>tU t.d (t.val G)++gq G r
def fe(l:aS)(its:List It)(ns:List Nat)(G:Chs):aS:=gq G (its.filter fun s=>ns.contains s.i)++l
def dS:Nat→List Hl→List (Nat×Hl)
 | _,[]=>[]
 | k,h::r=>(k,h)::dS (k+1) r
def dJ(Hs:List Hl)(its:List It)(G:Chs):List (Nat×Hl):=dS 1000 Hs++its.map fun t=>(t.i,t.hl G)
def dL(id:Nat):List (Nat×Hl)→Hl
 | []=>[]
 | x::r=>cond (Nat.beq x.1 id) x.2 (dL id r)
def goneG(its:List It)(dn:Nat→Bool)(id:Nat):Bool:=its.any fun u=>dn u.i&&u.s.contains id
def bP(its:List It)(dn:Nat→Bool)(id:Nat):Bool:=(Nat.ble 1000 id||dn id)&&!goneG its dn id
def stE(al:Nat→Bool)(o:List (Nat×Hl)):List Hl:=o.map fun x=>cond (al x.1) x.2 []
def o9(G:Chs):List It→Prop
 | []=>True
 | t::r=>t.post (onD t.ds G) (G t.i)∧o9 G r
theorem nT{id:Nat}{h:Hl}:∀ {O:List (Nat×Hl)},(O.map (·.1)).Nodup→(id,h)∈O→dL id O=h
 | [],_,hm=>by cases hm
 | x::r,hn,hm=>by
  rw[dL]
  rw[List.map_cons,List.nodup_cons]at hn
  rcases List.mem_cons.1 hm with rfl | hm
  ·rw[Nat.beq_refl];rfl
  ·have hne:x.1≠id:=fun e=>hn.1 (e▸List.mem_map_of_mem (f:=(·.1)) hm)
   have:Nat.beq x.1 id=false:=by
    cases hb:Nat.beq x.1 id
    ·rfl
    ·exact absurd (Nat.eq_of_beq_eq_true hb) hne
   rw[this]
   exact nT hn.2 hm
theorem jb{al:Nat→Bool}{id:Nat}(ha:al id=true):∀ {O:List (Nat×Hl)},(O.map (·.1)).Nodup→id∈O.map (·.1) →
  ((stE al O).flatten).Perm (dL id O++(stE (fun k=>al k&&!(k == id)) O).flatten)
 | [],_,hm=>by cases hm
 | x::r,hn,hm=>by
  rw[List.map_cons,List.nodup_cons]at hn
  rw[dL]
  show ((cond (al x.1) x.2 []::stE al r).flatten).Perm (_++(cond (al x.1&&!(x.1 == id)) x.2 []::stE (fun k=>al k&&!(k == id)) r).flatten)
  rw[List.flatten_cons,List.flatten_cons]
  by_cases hx:x.1=id
  ·subst hx
   rw[Nat.beq_refl,ha]
   have e:stE (fun k=>al k&&!(k == x.1)) r=stE al r:=List.map_congr_left fun y hy=>by
    have hne:y.1≠x.1:=fun e=>hn.1 (e▸List.mem_map_of_mem (f:=(·.1)) hy)
    have:(y.1 == x.1)=false:=by simp[hne]
    simp only[this,Bool.not_false,Bool.and_true]
   rw[e]
   simp
  ·have h1:Nat.beq x.1 id=false:=by
    cases hb:Nat.beq x.1 id
    ·rfl
    ·exact absurd (Nat.eq_of_beq_eq_true hb) hx
   have h2:(x.1 == id)=false:=by simp[hx]
   have hm:id∈r.map (·.1):=by
    rcases List.mem_cons.1 hm with h | h
    ·exact absurd h.symm hx
    ·exact h
   rw[h1,h2,Bool.not_false,Bool.and_true]
   refine (List.Perm.append_left _ (jb ha hn.2 hm)).trans ?_
   rw[← List.append_assoc,← List.append_assoc]
   exact List.Perm.append_right _ List.perm_append_comm
theorem kv:∀ (q:List Nat) {al:Nat→Bool} {O:List (Nat×Hl)},(O.map (·.1)).Nodup→q.Nodup→(∀ id∈q,al id=true∧id∈O.map (·.1)) →
  ((stE al O).flatten).Perm ((q.map fun id=>dL id O).flatten++(stE (fun k=>al k&&!q.contains k) O).flatten)
 | [],al,O,_,_,_=>by
  have e:(fun k=>al k&&!([]:List Nat).contains k)=al:=by funext k;simp
  rw[e]
  exact List.Perm.refl _
 | id::q,al,O,hn,hq,h=>by
  rw[List.nodup_cons]at hq
  refine (jb (h id (by simp)).1 hn (h id (by simp)).2).trans ?_
  rw[List.map_cons,List.flatten_cons,List.append_assoc]
  refine List.Perm.append_left _ ?_
  have:=kv q (al:=fun k=>al k&&!(k == id)) hn hq.2 fun k hk=>⟨by
   have hne:k≠id:=fun e=>hq.1 (e▸hk)
   have:(k == id)=false:=by simp[hne]
   rw[(h k (by simp[hk])).1,this];rfl,(h k (by simp[hk])).2⟩
  have e:(fun k=>(al k&&!(k == id))&&!q.contains k)=fun k=>al k&&!(id::q).contains k:=by
   funext k
   rw[List.contains_cons]
   cases al k<;>cases (k == id)<;>rfl
  rw[e]at this
  exact this
section
variable{P:Program}{ops:Array Oper}{Q:Exit→Act→World→Prop}{w w0:World}{n:Sz}{m:Nat}{l:aS}{L:Array Bool}{R:List Nat}{Hs:List Hl}{its:List It}{t:It}
def Sp(P:Program)(ops:Array Oper)(n:Sz)(w0:World)(R:List Nat)(Hs:List Hl)(l:aS)(its:List It)(t:It):Prop :=
 ∀ G a w Xs,Fr n (fe l its t.ns G) a→HH w0 R ((t.s.map fun id=>dL id (dJ Hs its G))++((t.r.map fun id=>dL id (dJ Hs its G))++Xs)) w →
  Out P (fun v w' => ∃ x,t.post (onD t.ds G) x∧(t.d.isSome=true→v=t.v (onD t.ds G) x)∧HH w0 R (t.E (onD t.ds G) x::((t.r.map fun id=>dL id (dJ Hs its G))++Xs)) w') ((execOp a.eval (cP ops t.i)).run P w)
def wfG(ops:Array Oper)(i k:Nat):Bool:=ib .any ops 6 i k
def mI:List Nat→Bool
 | []=>true
 | x::r => !r.contains x&&mI r
def gR(ops:Array Oper)(its:List It)(i k:Nat):Bool:=its.any (fun s=>Nat.beq s.i k)&&wfG ops i k
def x9(n:Sz)(l:aS):Option Nat→Bool
 | some d=>Nat.blt d n.n&&l.all fun x => !(Nat.beq x.1 d)
 | none=>true
def zf(ops:Array Oper)(L:Array Bool)(n:Sz)(l:aS)(nb:Nat)(its:List It)(t:It):Bool :=
 Nat.blt t.i ops.size&&((cP ops t.i).dst == t.d)&&(cP ops t.i).guard.isNone&&x9 n l t.d&&Nat.blt t.i L.size&&!(L.getD t.i true) &&
 t.ns.all (gR ops its t.i)&&t.ds.all (gR ops its t.i)&&(t.s++t.r).all (fun id=>(Nat.ble 1000 id&&Nat.blt id (1000+nb))||gR ops its t.i id)&&mI (t.s++t.r) &&
 its.all (fun u=>Nat.beq u.i t.i||(!(u.s.any t.s.contains)&&(!(u.s.any t.r.contains)||wfG ops u.i t.i))) &&
 (cP ops t.i).after.all fun e => !Region.binds .any e||L.getD e.on false||(its.any (fun s=>Nat.beq s.i e.on)&&Nat.blt e.on t.i)
def dI:List It→Bool
 | []=>true
 | t::r=>r.all (fun s => !(Nat.beq s.i t.i)&&!(t.d.isSome&&s.d == t.d))&&dI r
def wj(ops:Array Oper)(L:Array Bool)(n:Sz)(l:aS)(nb:Nat)(its:List It):Bool :=
 Nat.ble ops.size 1000&&dI its&&its.all (zf ops L n l nb its) &&
 (List.range ops.size).all fun j=>L.getD j true||its.any (fun t=>Nat.beq t.i j)||its.all fun t=>wfG ops j t.i
theorem wk{a b:Nat}(h:Nat.beq a b=true):a=b:=Nat.eq_of_beq_eq_true h
theorem CI{a b:Nat}(h:a≠b):Nat.beq a b=false:=by
 cases hb:Nat.beq a b
 ·rfl
 ·exact absurd (wk hb) h
theorem jA:∀ {l:List Nat},mI l=true→l.Nodup
 | [],_=>List.nodup_nil
 | x::r,h=>by
  unfold mI at h
  obtain ⟨h1,h2⟩:=Bool.and_eq_true_iff.1 h
  rw[List.nodup_cons]
  exact ⟨fun hm=>(by rw[List.contains_iff_mem.2 hm]at h1;cases h1),jA h2⟩
theorem jB:∀ {its:List It},dI its=true→(its.map (·.i)).Nodup
 | [],_=>List.nodup_nil
 | t::r,h=>by
  unfold dI at h
  obtain ⟨h1,h2⟩:=Bool.and_eq_true_iff.1 h
  rw[List.map_cons,List.nodup_cons]
  refine ⟨fun hm => ?_,jB h2⟩
  obtain ⟨s,hs,e⟩:=List.mem_map.1 hm
  have:=List.all_eq_true.1 h1 s hs
  obtain ⟨h3,_⟩:=Bool.and_eq_true_iff.1 this
  rw[e,Nat.beq_refl]at h3
  cases h3
theorem iB{s t:It}:∀ {its:List It},dI its=true→s∈its→t∈its→s.i=t.i→s=t
 | [],_,h,_,_=>by cases h
 | x::r,hd,h,h',e=>by
  unfold dI at hd
  obtain ⟨h1,h2⟩:=Bool.and_eq_true_iff.1 hd
  have hne:∀ y∈r,y.i≠x.i:=fun y hy e=>by
   have:=List.all_eq_true.1 h1 y hy
   obtain ⟨h3,_⟩:=Bool.and_eq_true_iff.1 this
   rw[e,Nat.beq_refl]at h3
   cases h3
  rcases List.mem_cons.1 h with rfl | k1
  ·rcases List.mem_cons.1 h' with rfl | k2
   ·rfl
   ·exact absurd e.symm (hne t k2)
  ·rcases List.mem_cons.1 h' with rfl | k2
   ·exact absurd e (hne s k1)
   ·exact iB h2 k1 k2 e
theorem qv{s t:It}:∀ {its:List It},dI its=true→s∈its→t∈its→s.i≠t.i → ∀ d,s.d=some d→t.d=some d→False
 | [],_,h,_,_=>by cases h
 | x::r,hd,h,h',e=>fun d hs ht=>by
  unfold dI at hd
  obtain ⟨h1,h2⟩:=Bool.and_eq_true_iff.1 hd
  have hne:∀ y∈r,x.d=some d→y.d=some d→False:=fun y hy hx hyd=>by
   have:=List.all_eq_true.1 h1 y hy
   obtain ⟨_,h3⟩:=Bool.and_eq_true_iff.1 this
   rw[hx,hyd]at h3
   simp at h3
  rcases List.mem_cons.1 h with rfl | k1
  ·rcases List.mem_cons.1 h' with rfl | k2
   ·exact e rfl
   ·exact hne t k2 hs ht
  ·rcases List.mem_cons.1 h' with rfl | k2
   ·exact hne s k1 ht hs
   ·exact qv h2 k1 k2 e d hs ht
theorem nU(dn:Nat→Bool)(t:It)(hn:dn t.i=false):∀ (its:List It),(its.map (·.i)).Nodup→t∈its →
  (its.filter fun s => !dn s.i).length=(its.filter fun s => !(s.i == t.i||dn s.i)).length+1
 | [],_,h=>by cases h
 | s::r,hd,h=>by
  rw[List.map_cons,List.nodup_cons]at hd
  by_cases hs:s.i=t.i
  ·have e:(r.filter fun x => !(x.i == t.i||dn x.i))=r.filter fun x => !dn x.i:=List.filter_congr fun x hx=>by
    have hne:x.i≠t.i:=fun e=>hd.1 (hs▸e▸List.mem_map_of_mem (f:=(·.i)) hx)
    have e2:(x.i == t.i)=false:=by simp[hne]
    rw[e2,Bool.false_or]
   rw[List.filter_cons,List.filter_cons,e]
   simp[hs,hn]
  ·have ht:t∈r:=(List.mem_cons.1 h).resolve_left fun e=>hs (by rw[e])
   have ih:=nU dn t hn r hd.2 ht
   have e2:(s.i == t.i)=false:=by simp[hs]
   rw[List.filter_cons,List.filter_cons,e2,Bool.false_or]
   split
   ·rw[List.length_cons,List.length_cons,ih]
   ·exact ih
theorem dV:∀ (k:Nat) (Hs:List Hl) (x:Nat),x∈(dS k Hs).map (·.1)↔k≤x∧x<k+Hs.length
 | k,[],x=>by simp[dS]
 | k,h::r,x=>by
  rw[dS,List.map_cons,List.mem_cons,dV (k+1) r x,List.length_cons]
  show x=k∨_↔_
  omega
theorem jC:∀ (k:Nat) (Hs:List Hl),((dS k Hs).map (·.1)).Nodup
 | k,[]=>List.nodup_nil
 | k,h::r=>by
  rw[dS,List.map_cons,List.nodup_cons,dV]
  exact ⟨fun h=>by have:=h.1;show False;change k+1≤k at this;omega,jC (k+1) r⟩
theorem lX{al:Nat→Bool}:∀ (k:Nat) (Hs:List Hl),(∀ x,k≤x→al x=true)→stE al (dS k Hs)=Hs
 | k,[],_=>rfl
 | k,h::r,ha=>by
  show cond (al k) h []::stE al (dS (k+1) r)=_
  rw[ha k (Nat.le_refl _),lX (k+1) r fun x hx=>ha x (by omega)]
  rfl
def kw(L:Array Bool)(its:List It):Array Bool:=its.foldl (fun L t=>L.setIfInBounds t.i true) L
theorem fG{α:Type}{f g:α→Bool}:∀ {l:List α},(∀ x∈l,f x=g x)→l.any f=l.any g
 | [],_=>rfl
 | a::r,h=>by rw[List.any_cons,List.any_cons,h a (by simp),fG fun x hx=>h x (by simp[hx])]
theorem lY:∀ (its:List It) (L:Array Bool) (k:Nat),(kw L its)[k]?=if k<L.size then some (L.getD k true||its.any fun t=>t.i == k) else none
 | [],L,k=>by
  show L[k]?=_
  split
  ·rename_i h;simp[h]
  ·rename_i h;simp[Array.getElem?_eq_none (Nat.not_lt.1 h)]
 | t::r,L,k=>by
  show (kw (L.setIfInBounds t.i true) r)[k]?=_
  rw[lY r,Array.size_setIfInBounds]
  split
  ·rename_i h
   by_cases e:t.i=k
   ·subst e;simp[h]
   ·have e2:(t.i == k)=false:=by simp[e]
    simp[h,e,e2]
  ·rfl
theorem gc{G:Chs}{x:Nat×Value}:∀ {its:List It},x∈gq G its → ∃ t∈its,t.d=some x.1∧x.2=t.val G
 | [],h=>by cases h
 | t::r,h=>by
  rw[gq]at h
  rcases List.mem_append.1 h with h | h
  ·cases hd:t.d with
   | none=>rw[hd]at h;cases h
   | some d =>
    rw[hd]at h
    obtain rfl:x=(d,t.val G):=by simpa[tU] using h
    exact ⟨t,by simp,hd,rfl⟩
  ·obtain ⟨s,hs,h1⟩:=gc h
   exact ⟨s,by simp[hs],h1⟩
structure Pg(n:Sz)(w0:World)(R:List Nat)(Hs:List Hl)(L:Array Bool)(l:aS)(its:List It)(dn:Nat→Bool)(G:Chs)(L':Array Bool)(a:Act)(w:World):Prop where
 list:∀ k,L'[k]?=if k<L.size then some (L.getD k true||its.any fun t=>t.i == k&&dn k) else none
 fr:Fr n l a
 done:∀ t∈its,dn t.i=true → ∀ d,t.d=some d→a.tmps.getD d undef=t.val G
 pst:∀ t∈its,dn t.i=true→t.post (onD t.ds G) (G t.i)
 dsd:∀ t∈its,dn t.i=true → ∀ k∈t.ds,dn k=true
 hh:HH w0 R (stE (bP its dn) (dJ Hs its G)) w
theorem qw{dn:Nat→Bool}{G:Chs}{i:Nat}{x:Ch}{ds:List Nat}(hi:dn i=false)(h:∀ k∈ds,dn k=true):onD ds (fun k=>if k=i then x else G k)=onD ds G:=by
 funext k
 unfold onD
 cases hc:ds.contains k
 ·rfl
 ·have h1:=h k (List.contains_iff_mem.1 hc)
  have:k≠i:=fun e=>by rw[e,hi]at h1;cases h1
  show (if k=i then x else G k)=G k
  rw[if_neg this]
theorem zg(hok0:jw .any ops=true)(hi:wj ops L n l Hs.length its=true)(hsp:∀ t∈its,Sp P ops n w0 R Hs l its t)
  (h:∀ (G:Chs) w',(∀ t∈its,t.post (onD t.ds G) (G t.i))→HH w0 R (stE (bP its fun _=>true) (dJ Hs its G)) w'→RX P ops Q m [] (kw L its) n (gq G its++l) w') :
  ∀ (c:Nat) (dn:Nat→Bool) (G:Chs) (L':Array Bool) (a:Act) (w:World),(its.filter fun t => !dn t.i).length=c→Closed .any ops L'→Pg n w0 R Hs L l its dn G L' a w→wpX P .any ops Q (c+m) [] L' a w:=by
 unfold wj at hi
 simp only[Bool.and_eq_true]at hi
 obtain ⟨⟨⟨hi0,hd⟩,hi1⟩,hi2⟩:=hi
 have hsize:ops.size≤1000:=Nat.le_of_ble_eq_true hi0
 have hnd:=jB hd
 intro c
 induction c with
 | zero =>
  intro dn G L' a w hc hcl hp
  have hall:∀ t∈its,dn t.i=true:=fun t ht=>by
   have:=List.filter_eq_nil_iff.1 (List.length_eq_zero_iff.1 hc) t ht
   simpa using this
  have hL:L'=kw L its:=by
   apply Array.ext_getElem?
   intro k
   rw[hp.list,lY]
   congr 3
   exact fG fun t ht=>by
    by_cases e:t.i=k
    ·subst e;simp[hall t ht]
    ·simp[e]
  subst hL
  rw[Nat.zero_add]
  have hg:∀ id,goneG its dn id=goneG its (fun _=>true) id:=fun id=>fG fun u hu=>by rw[hall u hu]
  have hst:stE (bP its dn) (dJ Hs its G)=stE (bP its fun _=>true) (dJ Hs its G):=by
   refine List.map_congr_left fun x hx => ?_
   have:bP its dn x.1=bP its (fun _=>true) x.1:=by
    unfold bP
    rw[hg]
    congr 1
    rcases List.mem_append.1 hx with hx | hx
    ·have:=((dV 1000 Hs x.1).1 (List.mem_map_of_mem hx)).1
     rw[Nat.ble_eq_true_of_le this];rfl
    ·obtain ⟨t,ht,rfl⟩:=List.mem_map.1 hx
     rw[show dn t.i=true from hall t ht]
   rw[this]
  refine h G w (fun t ht=>hp.pst t ht (hall t ht)) (hst▸hp.hh) hok0 hcl (fun _ h=>by cases h) a ⟨hp.fr.size,hp.fr.defers,fun x hx => ?_⟩
  rcases List.mem_append.1 hx with hx | hx
  ·obtain ⟨t,ht,h1,h2⟩:=gc hx
   rw[h2]
   exact hp.done t ht (hall t ht) _ h1
  ·exact hp.fr.get x hx
 | succ c ih =>
  intro dn G L' a w hc hcl hp
  have hex:∃ t∈its,dn t.i=false:=by
   have:(its.filter fun t => !dn t.i)≠[]:=fun e=>by rw[e]at hc;cases hc
   obtain ⟨t,ht⟩:=List.exists_mem_of_ne_nil _ this
   obtain ⟨h1,h2⟩:=List.mem_filter.1 ht
   exact ⟨t,h1,by simpa using h2⟩
  have hit:∀ t∈its,t.i<ops.size∧(cP ops t.i).dst=t.d∧(cP ops t.i).guard=none∧x9 n l t.d=true∧t.i<L.size∧L.getD t.i true=false ∧
    (∀ k∈t.ns,gR ops its t.i k=true)∧(∀ k∈t.ds,gR ops its t.i k=true)∧(∀ id∈t.s++t.r,(1000≤id∧id<1000+Hs.length)∨gR ops its t.i id=true)∧(t.s++t.r).Nodup ∧
    (∀ u∈its,u.i≠t.i→(∀ id∈u.s,id ∉ t.s)∧((∃ id∈u.s,id∈t.r)→wfG ops u.i t.i=true)) ∧
    ∀ e∈(cP ops t.i).after,Region.binds .any e=true→L.getD e.on false=true∨((∃ s∈its,s.i=e.on)∧e.on<t.i):=fun t ht=>by
   have:=List.all_eq_true.1 hi1 t ht
   unfold zf at this
   simp only[Bool.and_eq_true,beq_iff_eq,Option.isNone_iff_eq_none,Bool.not_eq_true']at this
   obtain ⟨⟨⟨⟨⟨⟨⟨⟨⟨⟨⟨a1,a2⟩,a3⟩,a4⟩,a5⟩,a6⟩,a7⟩,a8⟩,a9⟩,a10⟩,a11⟩,a12⟩:=this
   refine ⟨ltb a1,a2,a3,a4,ltb a5,a6,List.all_eq_true.1 a7,List.all_eq_true.1 a8,fun id hid => ?_,jA a10,fun u hu hne => ?_,fun e he hb => ?_⟩
   ·have:=List.all_eq_true.1 a9 id hid
    rcases Bool.or_eq_true_iff.1 this with h1 | h1
    ·obtain ⟨h2,h3⟩:=Bool.and_eq_true_iff.1 h1
     exact .inl ⟨Nat.le_of_ble_eq_true h2,ltb h3⟩
    ·exact .inr h1
   ·have:=List.all_eq_true.1 a11 u hu
    rw[CI hne,Bool.false_or]at this
    obtain ⟨h1,h2⟩:=Bool.and_eq_true_iff.1 this
    refine ⟨fun id h3 h4 => ?_,fun ⟨id,h3,h4⟩ => ?_⟩
    ·have:u.s.any t.s.contains=true:=List.any_eq_true.2 ⟨id,h3,List.contains_iff_mem.2 h4⟩
     rw[this]at h1;cases h1
    ·have:u.s.any t.r.contains=true:=List.any_eq_true.2 ⟨id,h3,List.contains_iff_mem.2 h4⟩
     rw[this]at h2
     simpa using h2
   ·have:=Array.all_eq_true'.1 a12 e he
    rw[hb,Bool.not_true,Bool.false_or]at this
    rcases Bool.or_eq_true_iff.1 this with h1 | h1
    ·exact .inl h1
    ·obtain ⟨h2,h3⟩:=Bool.and_eq_true_iff.1 h1
     obtain ⟨s,hs,h4⟩:=List.any_eq_true.1 h2
     exact .inr ⟨⟨s,hs,wk h4⟩,ltb h3⟩
  have hLat:∀ k b,k<L.size→L'.getD k b=(L.getD k true||its.any fun t=>t.i == k&&dn k):=fun k b hk=>by
   rw[Array.getD_eq_getD_getElem?,hp.list,if_pos hk];rfl
  have hnot:∀ t∈its,dn t.i=false→L'.getD t.i false=false:=fun t ht hdn=>by
   obtain ⟨_,_,_,_,a5,a6,_⟩:=hit t ht
   rw[hLat _ _ a5,a6,hdn]
   simp
  have hisdn:∀ t∈its,L'.getD t.i false=true→dn t.i=true:=fun t ht hL=>by
   cases hdn:dn t.i
   ·rw[hnot t ht hdn]at hL;cases hL
   ·rfl
  have hyes:∀ t∈its,dn t.i=true→L'.getD t.i true=true:=fun t ht hdn=>by
   obtain ⟨_,_,_,_,a5,_,_⟩:=hit t ht
   rw[hLat _ _ a5,hdn]
   have:(its.any fun s=>s.i == t.i&&true)=true:=List.any_eq_true.2 ⟨t,ht,by simp⟩
   rw[this,Bool.or_true]
  rw[show c+1+m=(c+m)+1 by omega]
  refine ⟨fun h0 => ?_,fun j hj => ?_⟩
  ·exfalso
   have key:∀ N,∀ t∈its,t.i=N→dn t.i=false → ∃ k,k∈Region.ready .any ops L':=by
    intro N
    induction N using Nat.strongRecOn with
    | ind N ihN =>
     intro t ht e hdn
     obtain ⟨a1,_,_,_,a5,a6,_,_,_,_,_,a12⟩:=hit t ht
     by_cases hall:∀ e∈(cP ops t.i).after,Region.binds .any e=true→L'.getD e.on false=true
     ·refine ⟨t.i,mem_ready.2 ⟨?_,cP ops t.i,by simp[cP,Array.getElem?_eq_getElem a1],hall⟩⟩
      rw[hLat _ _ a5,a6,hdn];simp
     ·obtain ⟨e1,h1⟩:=Classical.not_forall.1 hall
      obtain ⟨h2,h3⟩:=Classical.not_imp.1 h1
      obtain ⟨hb1,h4⟩:=Classical.not_imp.1 h3
      rcases a12 e1 h2 hb1 with h5 | ⟨⟨s,hs,h8⟩,h7⟩
      ·exfalso
       have hk:e1.on<L.size:=by
        rcases Nat.lt_or_ge e1.on L.size with h | h
        ·exact h
        ·simp[Array.getD,Nat.not_lt.2 h]at h5
       refine h4 ?_
       rw[hLat _ _ hk]
       have:L.getD e1.on true=true:=by rw[Array.getD_eq_getD_getElem?,Array.getElem?_eq_getElem hk]at h5 ⊢;exact h5
       rw[this,Bool.true_or]
      ·refine ihN s.i (by rw[h8,← e];exact h7) s hs rfl ?_
       cases hds:dn s.i
       ·rfl
       ·exfalso
        have hb:=hyes s hs hds
        rw[hLat _ _ (hit s hs).2.2.2.2.1]at hb
        refine h4 ?_
        rw[← h8,hLat _ _ (hit s hs).2.2.2.2.1]
        exact hb
   obtain ⟨t,ht,hdn⟩:=hex
   obtain ⟨k,hk⟩:=key t.i t ht rfl hdn
   rw[h0]at hk;cases hk
  ·have hwf:∀ k,wfG ops j k=true→L'.getD k false=true:=fun k hk=>by
    obtain ⟨_,o,ho,hall⟩:=mem_ready.1 hj
    exact eW hcl k 6 j hk fun o' ho'=>by rw[ho]at ho';obtain rfl:=Option.some.inj ho';exact hall
   obtain ⟨hjun,o,ho,_⟩:=mem_ready.1 hj
   have hjs:j<ops.size:=(Array.getElem?_eq_some_iff.1 ho).1
   have hji:∃ t∈its,t.i=j∧dn t.i=false:=by
    have:=List.all_eq_true.1 hi2 j (List.mem_range.2 hjs)
    simp only[Bool.or_eq_true,List.any_eq_true,List.all_eq_true]at this
    rcases this with (h1 | ⟨t,ht,h1⟩) | h1
    ·exfalso
     by_cases hk:j<L.size
     ·rw[hLat _ _ hk,h1]at hjun;cases hjun
     ·rw[Array.getD_eq_getD_getElem?,hp.list,if_neg hk]at hjun;cases hjun
    ·have h1:=wk h1
     refine ⟨t,ht,h1,?_⟩
     cases hdn:dn t.i
     ·rfl
     ·rw[← h1,hyes t ht hdn]at hjun;cases hjun
    ·exfalso
     obtain ⟨t,ht,hdn⟩:=hex
     have:=hwf t.i (h1 t ht)
     rw[hnot t ht hdn]at this;cases this
   obtain ⟨t,ht,rfl,hdn⟩:=hji
   obtain ⟨a1,a2,a3,a4,a5,a6,a7,a8,a9,a10,a11,_⟩:=hit t ht
   have hdd:∀ k,gR ops its t.i k=true→dn k=true ∧ ∃ s∈its,s.i=k:=fun k hk=>by
    obtain ⟨h1,h2⟩:=Bool.and_eq_true_iff.1 hk
    obtain ⟨s,hs,h3⟩:=List.any_eq_true.1 h1
    obtain rfl:=wk h3
    exact ⟨hisdn s hs (hwf _ h2),s,hs,rfl⟩
   have hneed:Fr n (fe l its t.ns G) a:=⟨hp.fr.size,hp.fr.defers,fun x hx=>by
    rcases List.mem_append.1 hx with hx | hx
    ·obtain ⟨s,hs,h1,h2⟩:=gc hx
     obtain ⟨hs1,hs2⟩:=List.mem_filter.1 hs
     rw[h2]
     exact hp.done s hs1 (hdd s.i (a7 _ (List.contains_iff_mem.1 hs2))).1 _ h1
    ·exact hp.fr.get x hx⟩
   have hkeys:∀ G,(dJ Hs its G).map (·.1)=(dS 1000 Hs).map (·.1)++its.map (·.i):=fun G=>by
    unfold dJ
    rw[List.map_append,List.map_map]
    rfl
   have hsmall:∀ s∈its,s.i<1000:=fun s hs=>Nat.lt_of_lt_of_le (hit s hs).1 hsize
   have hnodup:∀ G,((dJ Hs its G).map (·.1)).Nodup:=fun G=>by
    rw[hkeys]
    refine List.nodup_append.2 ⟨jC _ _,hnd,fun x hx y hy => ?_⟩
    obtain ⟨s,hs,rfl⟩:=List.mem_map.1 hy
    have h1:=((dV 1000 Hs x).1 hx).1
    have h2:=hsmall s hs
    show x≠s.i
    omega
   have hin:∀ id∈t.s++t.r,bP its dn id=true∧(id∈t.r → ∀ u∈its,dn u.i=true→id ∉ u.s)∧id≠t.i ∧ ∀ G,id∈(dJ Hs its G).map (·.1):=fun id hid=>by
    have hcons:∀ u∈its,dn u.i=true→id ∉ u.s:=fun u hu hdu hm=>by
     have hne:u.i≠t.i:=fun e=>by rw[e,hdn]at hdu;cases hdu
     obtain ⟨h1,h2⟩:=a11 u hu hne
     rcases List.mem_append.1 hid with h3 | h3
     ·exact h1 id hm h3
     ·have h4:=h2 ⟨id,hm,h3⟩
      have hLu:=hyes u hu hdu
      have h5:=eW hcl t.i 6 u.i h4 fun o ho e he hb=>hcl u.i o ho hLu e he hb
      rw[hnot t ht hdn]at h5;cases h5
    have hg:goneG its dn id=false:=by
     cases hgg:goneG its dn id
     ·rfl
     ·obtain ⟨u,hu,h1⟩:=List.any_eq_true.1 hgg
      obtain ⟨h2,h3⟩:=Bool.and_eq_true_iff.1 h1
      exact absurd (List.contains_iff_mem.1 h3) (hcons u hu h2)
    refine ⟨?_,fun _=>hcons,?_,fun G => ?_⟩
    ·unfold bP
     rw[hg]
     rcases a9 id hid with ⟨h1,_⟩ | h1
     ·rw[Nat.ble_eq_true_of_le h1];rfl
     ·rw[(hdd id h1).1];simp
    ·rcases a9 id hid with ⟨h1,_⟩ | h1
     ·have:=hsmall t ht;omega
     ·intro e
      have:=(hdd id h1).1
      rw[e,hdn]at this;cases this
    ·rw[hkeys]
     rcases a9 id hid with ⟨h1,h2⟩ | h1
     ·exact List.mem_append_left _ ((dV 1000 Hs id).2 ⟨h1,h2⟩)
     ·obtain ⟨_,s,hs,rfl⟩:=hdd id h1
      exact List.mem_append_right _ (List.mem_map_of_mem hs)
   obtain ⟨hns,hnr,hnsr⟩:=List.nodup_append.1 a10
   have hrest:((stE (fun k=>bP its dn k&&!t.s.contains k) (dJ Hs its G)).flatten).Perm
     ((t.r.map fun id=>dL id (dJ Hs its G)).flatten++(stE (fun k=>(bP its dn k&&!t.s.contains k)&&!t.r.contains k) (dJ Hs its G)).flatten) :=
    kv t.r (hnodup G) hnr fun id hid=>by
     obtain ⟨h1,_,_,h4⟩:=hin id (List.mem_append_right _ hid)
     have h5:t.s.contains id=false:=by
      cases hcc:t.s.contains id
      ·rfl
      ·exact absurd rfl (hnsr id (List.contains_iff_mem.1 hcc) id hid)
     exact ⟨by rw[h1,h5];rfl,h4 G⟩
   have hbefore:HH w0 R ((t.s.map fun id=>dL id (dJ Hs its G))++((t.r.map fun id=>dL id (dJ Hs its G))++[(stE (fun k=>(bP its dn k&&!t.s.contains k)&&!t.r.contains k) (dJ Hs its G)).flatten])) w:=by
    refine hp.hh.perm ?_
    rw[List.flatten_append,List.flatten_append,List.flatten_cons,List.flatten_nil,List.append_nil]
    refine (kv t.s (hnodup G) hns fun id hid => ?_).trans (List.Perm.append_left _ hrest)
    obtain ⟨h1,_,_,h4⟩:=hin id (List.mem_append_left _ hid)
    exact ⟨h1,h4 G⟩
   have hs:=hsp t ht G a w _ hneed hbefore
   unfold opO
   have hops:ops[t.i]?=some (cP ops t.i):=by simp[cP,Array.getElem?_eq_getElem a1]
   simp only[hops,cU a3,if_true]
   refine hs.mono fun v w' ⟨x,hpo,hv,hH'⟩=>⟨[],fun _ h=>by simp at h,fun _ h=>by simp at h,?_⟩
   have hdst:∀ k∈t.ds,dn k=true:=fun k hk=>(hdd k (a8 k hk)).1
   have hG:∀ s∈its,dn s.i=true→onD s.ds (fun k=>if k=t.i then x else G k)=onD s.ds G∧(if s.i=t.i then x else G s.i)=G s.i:=fun s hs hds =>
    ⟨qw hdn (hp.dsd s hs hds),if_neg fun e=>by rw[e,hdn]at hds;cases hds⟩
   have hGt:onD t.ds (fun k=>if k=t.i then x else G k)=onD t.ds G:=qw hdn hdst
   have hc':=nU dn t hdn its hnd ht
   have hups:∀ s,(fun k=>k == t.i||dn k) s=true→s≠t.i→dn s=true:=fun s h1 h2=>by
    have e2:(s == t.i)=false:=by simp[h2]
    simp only[e2,Bool.false_or]at h1
    exact h1
   refine ih (fun k=>k == t.i||dn k) (fun k=>if k=t.i then x else G k) _ _ w' (by omega) (hcl.set hj) ⟨fun k => ?_,?_,fun s hs hds d hsd => ?_,fun s hs hds => ?_,fun s hs hds k hk => ?_,?_⟩
   ·have hsz:L'.size=L.size:=by
     rcases Nat.lt_trichotomy L'.size L.size with h | h | h
     ·have:=hp.list L'.size
      rw[if_pos h,Array.getElem?_eq_none (Nat.le_refl _)]at this;cases this
     ·exact h
     ·have:=hp.list L.size
      rw[if_neg (Nat.lt_irrefl _),Array.getElem?_eq_getElem h]at this;cases this
    rw[Array.getElem?_setIfInBounds,hsz]
    by_cases hk:t.i=k
    ·subst hk
     rw[if_pos rfl,if_pos a5,if_pos a5,a6]
     have:(its.any fun s=>s.i == t.i&&(t.i == t.i||dn t.i))=true:=List.any_eq_true.2 ⟨t,ht,by simp⟩
     rw[this];rfl
    ·rw[if_neg hk,hp.list]
     have e2:(k == t.i)=false:=by simp[Ne.symm hk]
     simp only[e2,Bool.false_or]
   ·rw[a2]
    cases hd':t.d with
    | none=>exact hp.fr
    | some d =>
     rw[hd']at a4
     obtain ⟨b1,b2⟩:=Bool.and_eq_true_iff.1 a4
     refine (hp.fr.put _ ⟨List.Sublist.refl _,List.all_eq_true.2 fun y hy => ?_⟩ (ltb b1)).sub (List.sublist_cons_self _ _)
     have:=List.all_eq_true.1 b2 y hy
     simp only[Bool.not_eq_true']at this
     have hne:y.1≠d:=fun e=>by rw[e,Nat.beq_refl]at this;cases this
     simp[hne]
   ·by_cases hst:s.i=t.i
    ·obtain rfl:s=t:=iB hd hs ht hst
     rw[a2,hsd]
     have b1:d<n.n:=by
      rw[hsd]at a4
      exact ltb (Bool.and_eq_true_iff.1 a4).1
     have hz:d<a.tmps.size:=by rw[hp.fr.size];exact b1
     have hv':=hv (by rw[hsd];rfl)
     show _=s.v (onD s.ds fun k=>if k=s.i then x else G k) (if s.i=s.i then x else G s.i)
     rw[hGt,if_pos rfl,← hv']
     simp[Act.put,hz]
    ·have hds':=hups s.i hds hst
     have h1:=hp.done s hs hds' d hsd
     obtain ⟨g1,g2⟩:=hG s hs hds'
     show _=s.v (onD s.ds fun k=>if k=t.i then x else G k) (if s.i=t.i then x else G s.i)
     unfold It.val at h1
     rw[g1,g2]
     cases htd:t.d with
     | none=>rw[a2,htd];exact h1
     | some d' =>
      have hne:d'≠d:=fun e=>qv hd hs ht hst d hsd (e▸htd)
      rw[a2,htd]
      simp only[Act.put,Array.getD_eq_getD_getElem?]at h1 ⊢
      rw[Array.getElem?_setIfInBounds_ne hne]
      exact h1
   ·by_cases hst:s.i=t.i
    ·obtain rfl:s=t:=iB hd hs ht hst
     show s.post (onD s.ds fun k=>if k=s.i then x else G k) (if s.i=s.i then x else G s.i)
     rw[hGt,if_pos rfl]
     exact hpo
    ·have hds':=hups s.i hds hst
     obtain ⟨g1,g2⟩:=hG s hs hds'
     show s.post (onD s.ds fun k=>if k=t.i then x else G k) (if s.i=t.i then x else G s.i)
     rw[g1,g2]
     exact hp.pst s hs hds'
   ·have:dn k=true:=by
     by_cases hst:s.i=t.i
     ·obtain rfl:s=t:=iB hd hs ht hst
      exact hdst k hk
     ·exact hp.dsd s hs (hups s.i hds hst) k hk
    show (k == t.i||dn k)=true
    rw[this,Bool.or_true]
   ·refine hH'.perm ?_
    rw[List.flatten_cons,List.flatten_append,List.flatten_cons,List.flatten_nil,List.append_nil]
    have hgone:∀ id,goneG its (fun k=>k == t.i||dn k) id=(goneG its dn id||t.s.contains id):=fun id=>by
     unfold goneG
     cases hts:t.s.contains id
     ·rw[Bool.or_false]
      refine fG fun u hu => ?_
      by_cases e:u.i=t.i
      ·obtain rfl:u=t:=iB hd hu ht e
       rw[hts,Bool.and_false,Bool.and_false]
      ·have e2:(u.i == t.i)=false:=by simp[e]
       show ((u.i == t.i||dn u.i)&&_)=_
       rw[e2,Bool.false_or]
     ·rw[Bool.or_true]
      exact List.any_eq_true.2 ⟨t,ht,by simp only[hts];simp⟩
    have hti:bP its (fun k=>k == t.i||dn k) t.i=true:=by
     unfold bP
     rw[hgone]
     have h1:goneG its dn t.i=false:=by
      cases hgg:goneG its dn t.i
      ·rfl
      ·obtain ⟨u,hu,h1⟩:=List.any_eq_true.1 hgg
       obtain ⟨h2,h3⟩:=Bool.and_eq_true_iff.1 h1
       exfalso
       obtain ⟨_,_,_,_,_,_,_,_,b9,_⟩:=hit u hu
       rcases b9 t.i (List.mem_append_left _ (List.contains_iff_mem.1 h3)) with ⟨h4,_⟩ | h4
       ·have:=hsmall t ht;omega
       ·have hLu:=hyes u hu h2
        have h5:=eW hcl t.i 6 u.i (Bool.and_eq_true_iff.1 h4).2 fun o ho e he hb=>hcl u.i o ho hLu e he hb
        rw[hnot t ht hdn]at h5;cases h5
     have h2:t.s.contains t.i=false:=by
      cases hcc:t.s.contains t.i
      ·rfl
      ·exact absurd rfl (hin t.i (List.mem_append_left _ (List.contains_iff_mem.1 hcc))).2.2.1
     rw[h1,h2]
     simp
    have hkt:t.i∈(dJ Hs its (fun k=>if k=t.i then x else G k)).map (·.1):=by
     rw[hkeys]
     exact List.mem_append_right _ (List.mem_map_of_mem ht)
    refine List.Perm.symm ((jb hti (hnodup _) hkt).trans ?_)
    have hlk:dL t.i (dJ Hs its (fun k=>if k=t.i then x else G k))=t.E (onD t.ds G) x:=by
     rw[nT (hnodup _) (List.mem_append_right _ (List.mem_map_of_mem ht))]
     show t.E (onD t.ds fun k=>if k=t.i then x else G k) (if t.i=t.i then x else G t.i)=_
     rw[hGt,if_pos rfl]
    rw[hlk]
    refine List.Perm.append_left _ ?_
    have hsame:stE (fun k=>bP its (fun k=>k == t.i||dn k) k&&!(k == t.i)) (dJ Hs its (fun k=>if k=t.i then x else G k))=stE (fun k=>bP its dn k&&!t.s.contains k) (dJ Hs its G):=by
     unfold dJ stE
     rw[List.map_append,List.map_append,List.map_map,List.map_map]
     congr 1
     ·refine List.map_congr_left fun y hy => ?_
      have h1:=((dV 1000 Hs y.1).1 (List.mem_map_of_mem hy)).1
      have hne:(y.1 == t.i)=false:=by have:=hsmall t ht;simp;omega
      have e4:(bP its (fun k=>k == t.i||dn k) y.1&&!(y.1 == t.i))=(bP its dn y.1&&!t.s.contains y.1):=by
       unfold bP
       rw[hgone,hne,Nat.ble_eq_true_of_le h1]
       cases goneG its dn y.1<;>cases t.s.contains y.1<;>rfl
      show cond (bP its (fun k=>k == t.i||dn k) y.1&&!(y.1 == t.i)) _ _=cond (bP its dn y.1&&!t.s.contains y.1) _ _
      rw[e4]
     ·refine List.map_congr_left fun u hu => ?_
      show cond (bP its (fun k=>k == t.i||dn k) u.i&&!(u.i == t.i)) (u.hl fun k=>if k=t.i then x else G k) []=cond (bP its dn u.i&&!t.s.contains u.i) (u.hl G) []
      by_cases e:u.i=t.i
      ·rw[e]
       have e1:(t.i == t.i)=true:=by simp
       have e3:Nat.ble 1000 t.i=false:=by
        cases hb:Nat.ble 1000 t.i
        ·rfl
        ·have:=Nat.le_of_ble_eq_true hb
         have:=hsmall t ht
         omega
       have e2:bP its dn t.i=false:=by
        unfold bP
        rw[hdn,e3]
        rfl
       rw[e1,e2,Bool.not_true,Bool.and_false,Bool.false_and]
       rfl
      ·have e2:(u.i == t.i)=false:=by simp[e]
       have e4:bP its (fun k=>k == t.i||dn k) u.i=(bP its dn u.i&&!t.s.contains u.i):=by
        unfold bP
        rw[hgone]
        simp only[e2,Bool.false_or]
        cases (Nat.ble 1000 u.i||dn u.i)<;>cases goneG its dn u.i<;>cases t.s.contains u.i<;>rfl
       rw[e4,e2,Bool.not_false,Bool.and_true]
       cases hlv:bP its dn u.i&&!t.s.contains u.i
       ·rfl
       ·have h1:bP its dn u.i=true:=(Bool.and_eq_true_iff.1 hlv).1
        have hdu:dn u.i=true:=by
         unfold bP at h1
         obtain ⟨h2,_⟩:=Bool.and_eq_true_iff.1 h1
         rcases Bool.or_eq_true_iff.1 h2 with h3 | h3
         ·have:=Nat.le_of_ble_eq_true h3
          have:=hsmall u hu
          omega
         ·exact h3
        obtain ⟨g1,g2⟩:=hG u hu hdu
        show cond true (u.E (onD u.ds fun k=>if k=t.i then x else G k) (if u.i=t.i then x else G u.i)) []=cond true (u.E (onD u.ds G) (G u.i)) []
        rw[g1,g2]
    rw[hsame]
    exact hrest
theorem nV{G:Chs}:∀ {its:List It},(∀ t∈its,t.post (onD t.ds G) (G t.i))→o9 G its
 | [],_=>trivial
 | t::_,h=>⟨h t (by simp),nV fun s hs=>h s (by simp[hs])⟩
inductive Its(P:Program)(ops:Array Oper)(n:Sz)(w0:World)(R:List Nat)(Hs:List Hl)(l:aS)(its:List It):List It→Prop
 | nil:Its P ops n w0 R Hs l its []
 | c {t:It} {r:List It} (hs:Sp P ops n w0 R Hs l its t) (h:Its P ops n w0 R Hs l its r):Its P ops n w0 R Hs l its (t::r)
theorem Its.ok:∀ {r:List It},Its P ops n w0 R Hs l its r → ∀ t∈r,Sp P ops n w0 R Hs l its t
 | _,.nil=>fun _ h=>by cases h
 | _,.c hs h=>fun y hy=>by
  rcases List.mem_cons.1 hy with rfl | hy
  ·exact hs
  ·exact h.ok y hy
theorem de{fu:Nat}(m:Nat)(its:List It)(fr:Chs→aS)(Hs2:Chs→List Hl)(hH:HH w0 R Hs w)(hsp:Its P ops n w0 R Hs l its its)
  (h:∀ (G:Chs) w',o9 G its→HH w0 R (Hs2 G) w'→RX P ops Q m [] (kw L its) n (fr G) w')
  (hfu:fu=its.length+m:=by exact rfl) (hi:wj ops L n l Hs.length its=true:=by kernel_rfl)
  (hf:∀ G,(stE (bP its fun _=>true) (dJ Hs its G)).flatten=(Hs2 G).flatten:=by exact fun _=>rfl) (hfr:∀ G,Al (gq G its++l) (fr G):=by (intro G;repeat (first | exact Al.nil | refine Al.cons rfl ?_))):RX P ops Q fu [] L n l w:=fun hok hc _ a hF=>by
 subst hfu
 refine zg hok hi hsp.ok (fun G w' hp hH' hok hc hS a hF=>h G w' (nV hp) (hH'.cast (hf G)) hok hc hS a (hF.of (hfr G).all)) its.length (fun _=>false) (fun _=>ch0) L a w (by simp) hc ⟨fun k => ?_,hF,(fun _ _ h=>(by cases h)),(fun _ _ h=>(by cases h)),(fun _ _ h=>(by cases h)),hH.cast ?_⟩
 ·split
  ·rename_i hk;simp[hk]
  ·rename_i hk;simp[Array.getElem?_eq_none (Nat.not_lt.1 hk)]
 ·have hg:∀ id,goneG its (fun _=>false) id=false:=fun id=>by
   unfold goneG
   simp
  have h1:stE (bP its fun _=>false) (dS 1000 Hs)=Hs:=lX 1000 Hs fun x hx=>by
   unfold bP
   rw[hg,Nat.ble_eq_true_of_le hx]
   rfl
  have hsm:∀ t∈its,t.i<1000:=fun t ht=>by
   unfold wj at hi
   simp only[Bool.and_eq_true]at hi
   have h2:=List.all_eq_true.1 hi.1.2 t ht
   unfold zf at h2
   simp only[Bool.and_eq_true]at h2
   have h3:=ltb h2.1.1.1.1.1.1.1.1.1.1.1
   have h4:=Nat.le_of_ble_eq_true hi.1.1.1
   omega
  have h2:(stE (bP its fun _=>false) (its.map fun t=>(t.i,t.hl fun _=>ch0))).flatten=[]:=by
   rw[List.flatten_eq_nil_iff]
   intro x hx
   obtain ⟨y,hy,rfl⟩:=List.mem_map.1 hx
   obtain ⟨t,ht,rfl⟩:=List.mem_map.1 hy
   have:Nat.ble 1000 t.i=false:=by
    cases hb:Nat.ble 1000 t.i
    ·rfl
    ·have:=Nat.le_of_ble_eq_true hb
     have:=hsm t ht
     omega
   show cond (bP its (fun _=>false) t.i) _ _=_
   unfold bP
   rw[this]
   rfl
  unfold dJ
  have h3:stE (bP its fun _=>false) (dS 1000 Hs++its.map fun t=>(t.i,t.hl fun _=>ch0))=stE (bP its fun _=>false) (dS 1000 Hs)++stE (bP its fun _=>false) (its.map fun t=>(t.i,t.hl fun _=>ch0)):=List.map_append
  rw[h3,List.flatten_append,h1,h2,List.append_nil]
def pv(i d:Nat)(ns ds:List Nat)(V:Chs→Value):It:=⟨i,some d,ns,ds,[],[],fun G _=>V G,fun _ _=>[],fun _ _=>True⟩
def ldv(i d:Nat)(ns ds r:List Nat)(V:Chs→Value):It:=⟨i,some d,ns,ds,[],r,fun G _=>V G,fun _ _=>[],fun _ _=>True⟩
def mkv(i d:Nat)(ns ds:List Nat)(V:Chs→Nat→Value)(E:Chs→Nat→Hl):It:=⟨i,some d,ns,ds,[],[],fun G x=>V G x.g,fun G x=>E G x.g,fun _ _=>True⟩
abbrev alv(i d:Nat)(ns ds:List Nat)(E:Chs→Nat→Hl):It:=mkv i d ns ds (fun _ g=>.pointer (some ⟨g,0,none⟩)) E
def stv(i:Nat)(ns ds:List Nat)(s:Nat)(E:Chs→Hl):It:=⟨i,none,ns,ds,[s],[],fun _ _=>undef,fun G _=>E G,fun _ _=>True⟩
def owv{α:Type}(i d:Nat)(ns ds:List Nat)(C:Cod α)(e:TypeId)(q:Chs→List α):It:=⟨i,some d,ns,ds,[],[],fun G x=>.slice x.A (q G).length x.c,fun _ x=>x.E,fun G x=>OwnT C e (.slice x.A (q G).length x.c) (q G) x.E⟩
theorem Sp.o{α:Type}{i d:Nat}{ns ds:List Nat}{C:Cod α}{e:TypeId}{q:Chs→List α}{Rd:Chs→World→Prop}{po:Chs→Value→Hl→Prop}(hR:∀ G w Xs,HH w0 R Xs w→Rd G w)(h:∀ G,Sm P n (fe l its ns G) (cP ops i) [] (Rd G) (po G))(hp:∀ G v E',po G v E'→OwnT C e v (q (onD ds G)) E'):Sp P ops n w0 R Hs l its (owv i d ns ds C e q):=fun G a w Xs hF hH =>
 (h G a hF w (Has.nil w) (hR G w Xs hH)).mono fun v w' ⟨E',h1,h2⟩=>by
  have h3:=hp G v E' h1
  obtain ⟨A,c,rfl⟩:=h3.slice
  refine ⟨⟨0,c,A,undef,E'⟩,h3,fun _=>rfl,(hH.add h2).perm ?_⟩
  show (Xs++[_]).flatten.Perm (_::Xs).flatten
  simp only[List.flatten_append,List.flatten_cons,List.flatten_nil,List.append_nil]
  exact List.perm_append_comm
theorem Sp.v{i d:Nat}{ns ds:List Nat}{V:Chs→Value}(h:∀ G,Vl P n (fe l its ns G) (cP ops i) (V (onD ds G))):Sp P ops n w0 R Hs l its (pv i d ns ds V):=fun G a w Xs hF hH=>by
 show Out P _ ((execOp a.eval (cP ops i)).run P w)
 rw[h G a w hF]
 exact ⟨ch0,trivial,fun _=>rfl,hH.cast (by simp[pv])⟩
theorem Sp.ld{i d:Nat}{ns ds r:List Nat}{V:Chs→Value}{S:Chs→World→Prop}(hS:∀ G w Xs,HH w0 R ((r.map fun id=>dL id (dJ Hs its G))++Xs) w→S G w)(h:∀ G,Vs P n (fe l its ns G) (S G) (cP ops i) (V (onD ds G))):Sp P ops n w0 R Hs l its (ldv i d ns ds r V):=fun G a w Xs hF hH=>by
 show Out P _ ((execOp a.eval (cP ops i)).run P w)
 rw[h G a w hF (hS G w Xs hH)]
 exact ⟨ch0,trivial,fun _=>rfl,hH.cast (by simp[ldv])⟩
theorem Sp.a{i d:Nat}{ns ds:List Nat}{V:Chs→Nat→Value}{E:Chs→Nat→Hl}{Rd:Chs→World→Prop}{po:Chs→Value→Hl→Prop}(hR:∀ G w Xs,HH w0 R Xs w→Rd G w)(h:∀ G,Sm P n (fe l its ns G) (cP ops i) [] (Rd G) (po G))(hp:∀ G v E',po G v E' → ∃ g,v=V (onD ds G) g∧E'=E (onD ds G) g):Sp P ops n w0 R Hs l its (mkv i d ns ds V E):=fun G a w Xs hF hH =>
 (h G a hF w (Has.nil w) (hR G w Xs hH)).mono fun v w' ⟨E',h1,h2⟩=>by
  obtain ⟨g,rfl,rfl⟩:=hp G v E' h1
  refine ⟨⟨g,0,none,undef,[]⟩,trivial,fun _=>rfl,(hH.add h2).perm ?_⟩
  show (Xs++[_]).flatten.Perm (_::Xs).flatten
  simp only[List.flatten_append,List.flatten_cons,List.flatten_nil,List.append_nil]
  exact List.perm_append_comm
theorem Sp.tn{i s:Nat}{ns ds:List Nat}{E:Chs→Hl}{E0:Chs→Hl}{Rd:Chs→World→Prop}{po:Chs→Value→Hl→Prop}(h:∀ G,Sm P n (fe l its ns G) (cP ops i) (E0 G) (Rd G) (po G))(hR:∀ G w Xs,HH w0 R (E0 G::Xs) w→Rd G w)(hp:∀ G v E',po G v E'→E'=E (onD ds G))(he:∀ G,dL s (dJ Hs its G)=E0 G:=by exact fun _=>rfl):Sp P ops n w0 R Hs l its (stv i ns ds s E):=fun G a w Xs hF hH=>by
 have hH2:HH w0 R (E0 G::Xs) w:=he G▸hH
 refine (h G a hF w (hH2.has 0 rfl) (hR G w Xs hH2)).mono fun v w' ⟨E',h1,h2⟩ => ?_
 obtain rfl:=hp G v E' h1
 refine ⟨ch0,trivial,fun h=>(by cases h),hH2.turn 0 rfl h2⟩
theorem Sp.c{f:FuncId}{fn:Func}{i d:Nat}{ns ds:List Nat}{V:Chs→Value}{xs:List Operand}{vs:Chs→List Value}{ts:Array TypeId}{Rd:World→Prop}(F:P.funcs[f]?=some fn)(hq:∀ G,Pure P f (vs G).toArray Rd (V (onD ds G)))(hR:∀ w,Rd w)
  (ho:(cP ops i).op=.call { callee:=.value (.func f),args:=xs.toArray,argTypes:=ts }:=by exact rfl) (hx:∀ G,vos (fe l its ns G) xs=some (vs G):=by exact fun _=>rfl) (h1:(fn.name == "runtime.NumGoroutine")=false:=by exact rfl) (h2:fn.body.isNone=false:=by exact rfl):Sp P ops n w0 R Hs l its (pv i d ns ds V):=fun G a w Xs hF hH =>
 (Sm.call (n:=n) F (hq G).does ho (hx G) h1 h2 a hF w (Has.nil w) (hR w)).mono fun v w' ⟨E',h3,h4⟩=>by
  obtain ⟨rfl,rfl⟩:=h3
  refine ⟨ch0,trivial,fun _=>rfl,(hH.add h4).cast ?_⟩
  simp[pv]
end
end
theorem fg(x:UInt32)(n:Nat)(h0:0<n)(h32:n<32):Pure Tryz.prog 89 #[(.int .u32 x.toNat),(.int .u64 n)] (fun _=>True) (.int .u32 ((((cI x n).toNat):Nat):Int)):=by
 refine pU Tryz.func89 Tryz.ntmps89 ?_
 intro w0 hH hR
 refine zr (zv .mv 0 ?_)
 refine zn (zr (zv .mv 1 ?_))
 refine zv .mv 0 ?_
 refine zv (.rw n) 3 ?_
 refine zv .mv 2 ?_
 refine zv .mv 4 ?_
 refine zv (v:=(.int .u64 (((32-n):Nat):Int))) (fun _ _ hF=>f8 (m:=32) (j:=n) (z:=(32-n)) rfl rfl rfl (hF.ev 0 rfl) (by show n≤18446744073709551616;omega) (by show (32+(18446744073709551616-n))%18446744073709551616=_;omega)) 1 ?_
 refine zv (.lw (32-n)) 3 ?_
 refine zv (.ow (cI x n)) 3 ?_
 refine zv .mv 1 ?_
 refine zn (ar (aW 0 rfl rfl ?_))
 exact zE hH
theorem CJ  : Pure Tryz.prog 87 #[] (fun _=>True) ((cWs 64).val K32):=by
 refine pU Tryz.func87 Tryz.ntmps87 ?_
 intro w0 hH hR
 refine zr (zA hH (cWs 64) (fun _=>0) 0 ?_)
 clear hH
 intro g1 w hH
 refine zn (zr (zv (v:=((cWs 64).val K32)) (fun _ _ hF=>aE (cells:=(cWs 64).enc K32) (vals:=[(0,(.int .u32 1116352408)),(1,(.int .u32 1899447441)),(2,(.int .u32 3049323471)),(3,(.int .u32 3921009573)),(4,(.int .u32 961987163)),(5,(.int .u32 1508970993)),(6,(.int .u32 2453635748)),(7,(.int .u32 2870763221)),(8,(.int .u32 3624381080)),(9,(.int .u32 310598401)),(10,(.int .u32 607225278)),(11,(.int .u32 1426881987)),(12,(.int .u32 1925078388)),(13,(.int .u32 2162078206)),(14,(.int .u32 2614888103)),(15,(.int .u32 3248222580)),(16,(.int .u32 3835390401)),(17,(.int .u32 4022224774)),(18,(.int .u32 264347078)),(19,(.int .u32 604807628)),(20,(.int .u32 770255983)),(21,(.int .u32 1249150122)),(22,(.int .u32 1555081692)),(23,(.int .u32 1996064986)),(24,(.int .u32 2554220882)),(25,(.int .u32 2821834349)),(26,(.int .u32 2952996808)),(27,(.int .u32 3210313671)),(28,(.int .u32 3336571891)),(29,(.int .u32 3584528711)),(30,(.int .u32 113926993)),(31,(.int .u32 338241895)),(32,(.int .u32 666307205)),(33,(.int .u32 773529912)),(34,(.int .u32 1294757372)),(35,(.int .u32 1396182291)),(36,(.int .u32 1695183700)),(37,(.int .u32 1986661051)),(38,(.int .u32 2177026350)),(39,(.int .u32 2456956037)),(40,(.int .u32 2730485921)),(41,(.int .u32 2820302411)),(42,(.int .u32 3259730800)),(43,(.int .u32 3345764771)),(44,(.int .u32 3516065817)),(45,(.int .u32 3600352804)),(46,(.int .u32 4094571909)),(47,(.int .u32 275423344)),(48,(.int .u32 430227734)),(49,(.int .u32 506948616)),(50,(.int .u32 659060556)),(51,(.int .u32 883997877)),(52,(.int .u32 958139571)),(53,(.int .u32 1322822218)),(54,(.int .u32 1537002063)),(55,(.int .u32 1747873779)),(56,(.int .u32 1955562222)),(57,(.int .u32 2024104815)),(58,(.int .u32 2227730452)),(59,(.int .u32 2361852424)),(60,(.int .u32 2428436474)),(61,(.int .u32 2756734187)),(62,(.int .u32 3204031479)),(63,(.int .u32 3329325298))]) rfl (EvP.cons (v:=(.int .u32 1116352408)) rfl (EvP.cons (v:=(.int .u32 1899447441)) rfl (EvP.cons (v:=(.int .u32 3049323471)) rfl (EvP.cons (v:=(.int .u32 3921009573)) rfl (EvP.cons (v:=(.int .u32 961987163)) rfl (EvP.cons (v:=(.int .u32 1508970993)) rfl (EvP.cons (v:=(.int .u32 2453635748)) rfl (EvP.cons (v:=(.int .u32 2870763221)) rfl (EvP.cons (v:=(.int .u32 3624381080)) rfl (EvP.cons (v:=(.int .u32 310598401)) rfl (EvP.cons (v:=(.int .u32 607225278)) rfl (EvP.cons (v:=(.int .u32 1426881987)) rfl (EvP.cons (v:=(.int .u32 1925078388)) rfl (EvP.cons (v:=(.int .u32 2162078206)) rfl (EvP.cons (v:=(.int .u32 2614888103)) rfl (EvP.cons (v:=(.int .u32 3248222580)) rfl (EvP.cons (v:=(.int .u32 3835390401)) rfl (EvP.cons (v:=(.int .u32 4022224774)) rfl (EvP.cons (v:=(.int .u32 264347078)) rfl (EvP.cons (v:=(.int .u32 604807628)) rfl (EvP.cons (v:=(.int .u32 770255983)) rfl (EvP.cons (v:=(.int .u32 1249150122)) rfl (EvP.cons (v:=(.int .u32 1555081692)) rfl (EvP.cons (v:=(.int .u32 1996064986)) rfl (EvP.cons (v:=(.int .u32 2554220882)) rfl (EvP.cons (v:=(.int .u32 2821834349)) rfl (EvP.cons (v:=(.int .u32 2952996808)) rfl (EvP.cons (v:=(.int .u32 3210313671)) rfl (EvP.cons (v:=(.int .u32 3336571891)) rfl (EvP.cons (v:=(.int .u32 3584528711)) rfl (EvP.cons (v:=(.int .u32 113926993)) rfl (EvP.cons (v:=(.int .u32 338241895)) rfl (EvP.cons (v:=(.int .u32 666307205)) rfl (EvP.cons (v:=(.int .u32 773529912)) rfl (EvP.cons (v:=(.int .u32 1294757372)) rfl (EvP.cons (v:=(.int .u32 1396182291)) rfl (EvP.cons (v:=(.int .u32 1695183700)) rfl (EvP.cons (v:=(.int .u32 1986661051)) rfl (EvP.cons (v:=(.int .u32 2177026350)) rfl (EvP.cons (v:=(.int .u32 2456956037)) rfl (EvP.cons (v:=(.int .u32 2730485921)) rfl (EvP.cons (v:=(.int .u32 2820302411)) rfl (EvP.cons (v:=(.int .u32 3259730800)) rfl (EvP.cons (v:=(.int .u32 3345764771)) rfl (EvP.cons (v:=(.int .u32 3516065817)) rfl (EvP.cons (v:=(.int .u32 3600352804)) rfl (EvP.cons (v:=(.int .u32 4094571909)) rfl (EvP.cons (v:=(.int .u32 275423344)) rfl (EvP.cons (v:=(.int .u32 430227734)) rfl (EvP.cons (v:=(.int .u32 506948616)) rfl (EvP.cons (v:=(.int .u32 659060556)) rfl (EvP.cons (v:=(.int .u32 883997877)) rfl (EvP.cons (v:=(.int .u32 958139571)) rfl (EvP.cons (v:=(.int .u32 1322822218)) rfl (EvP.cons (v:=(.int .u32 1537002063)) rfl (EvP.cons (v:=(.int .u32 1747873779)) rfl (EvP.cons (v:=(.int .u32 1955562222)) rfl (EvP.cons (v:=(.int .u32 2024104815)) rfl (EvP.cons (v:=(.int .u32 2227730452)) rfl (EvP.cons (v:=(.int .u32 2361852424)) rfl (EvP.cons (v:=(.int .u32 2428436474)) rfl (EvP.cons (v:=(.int .u32 2756734187)) rfl (EvP.cons (v:=(.int .u32 3204031479)) rfl (EvP.cons (v:=(.int .u32 3329325298)) rfl EvP.nil)))))))))))))))))))))))))))))))))))))))))))))))))))))))))))))))) (by kernel_rfl) _) 0 ?_))
 refine zW 0 hH rfl K32 ?_
 clear hH
 intro w hH
 refine zn (ar (aI 1 (hH.blk 0 rfl) rfl rfl (by kernel_rfl) (Cod.size _ _) (by kernel_rfl) ?_))
 exact zE hH
theorem zh(A:Option Addr)(n c:Nat)(l:List UInt8)(hb:n≤140737488351232):Does Tryz.prog 88 #[(.slice A n c),(.int .i64 64),(.int .i64 8)] [] (fun w=>Vu af w A n c l) (fun v E'=>OwnT af 5 v (pdM l) E'):=by
 refine dU Tryz.func88 Tryz.ntmps88 ?_
 intro w0 hH hR
 replace hH:HH w0 [] [] w0:=hH.only [false]
 have hn:=hR.len
 have hnb:=jT n
 refine zr (zv .mv 0 ?_)
 refine zn (zr (zm hH (fun _ hF=>j8 (e:=5) rfl (by kernel_rfl) (by kernel_rfl)) trivial 1 ?_))
 clear hH
 rintro _ _ w ⟨g1,rfl,rfl⟩ hH
 refine zv .mv 0 ?_
 refine ze 0 hH rfl (fun _ hF=>cf (C:=af) (l:=[]) (m:=l) (e:=5) (z:=(.int .u8 0)) (by_:=1) rfl (by kernel_rfl) (by kernel_rfl) rfl (ltb rfl) (hF.ev 1 rfl) ((Bk.lit0 (C:=af)).own 5 g1 rfl) (hF.ev 0 rfl) hn (fun h=>⟨by have:=hR.nil h;have:=hR.cap;omega,hR.nil h⟩) (by rw[List.length_nil];unfold maxLen;omega) (by rw[List.length_nil];omega)) (hH.vu hR (by decide) (Off.nil _ _)) 3 ?_
 clear hH
 rintro v4 E5 w ⟨hO6,_⟩ hH
 replace hO6:OwnT af 5 v4 l E5:=hO6
 obtain ⟨A2,c3,rfl⟩:=hO6.slice
 refine zv .mv 1 ?_
 refine zn (zr (zv .mv 1 ?_))
 refine zm hH (fun _ hF=>cx (e:=5) (sz:=1) (z:=(.int .u8 0)) (by_:=1) (cs:=af.enc 128) rfl (by kernel_rfl) (by kernel_rfl) rfl (af.len 128) (ltb rfl) (leb rfl) rfl) trivial 0 ?_
 clear hH
 rintro _ _ w ⟨g7,rfl,rfl⟩ hH
 refine ze 0 hH rfl (fun _ hF=>cf (C:=af) (l:=l) (m:=[128]) (e:=5) (z:=(.int .u8 0)) (by_:=1) rfl (by kernel_rfl) (by kernel_rfl) rfl (ltb rfl) (hF.ev 1 rfl) hO6 (hF.ev 0 rfl) rfl (fun h=>by cases h) (by unfold maxLen;omega) (by omega)) ((Bk.lit1 (C:=af) 128).vu (n:=1) (hH.blk 1 rfl) rfl) 3 ?_
 clear hH
 rintro v10 E11 w ⟨hO12,_⟩ hH
 replace hO12:OwnT af 5 v10 (l++[128]) E11:=hO12
 obtain ⟨A8,c9,rfl⟩:=hO12.slice
 refine zv .mv 1 ?_
 refine zn (aj (ai ?_))
 replace hH:HH w0 [] [E11] w:=hH.only [true]
 refine zL5 (fun (_:Nat) (A1:Option Addr) (c1:Nat) (L:List UInt8) (_:Hl)=>[(7,(.slice A1 L.length c1)),(2,(.int .i64 8)),(1,(.int .i64 64)),(0,(.slice A n c))]) (fun z A1 c1 L E1 w=>HH w0 [] [E1] w∧(OwnT af 5 (.slice A1 L.length c1) L E1)∧(L=mzL l z)∧(L.length=n+1+z)∧(n+1+z+8≤64*bY n)) (fun z _ _ _ _=>64*bY n-(n+1+z)) 0 A8 c9 (l++[128]) E11 ⟨hH,hO12,(by simp[mzL]),(by rw[List.length_append,hn];rfl),(by omega)⟩ ?_
 clear hH
 rintro z A1 c1 L E1 w ⟨hH,hO,hL,hlen,hz⟩
 refine aj (zr (zv .mv 0 ?_))
 refine zv .len 1 ?_
 refine zv .mv 0 ?_
 refine zv (.add (((L.length+8):Nat):Int)) 3 ?_
 refine zv .mv 0 ?_
 refine zv (v:=(.int .i64 ((((L.length+8)%64):Nat):Int))) (fun _ _ hF=>bm (z:=(((L.length+8)%64:Nat):Int)) rfl (hF.ev 1 rfl) (hF.ev 0 rfl) (by omega) bW) 3 ?_
 refine zv (.ne ((L.length+8)%64≠0)) 1 ?_
 refine zn ?_
 refine zP (fun hc13 => ?_) (fun hc13 => ?_)
 refine aA (ag (ai (aC (zv .mv 3 ?_))))
 refine zm hH (fun _ hF=>cx (e:=5) (sz:=1) (z:=(.int .u8 0)) (by_:=1) (cs:=af.enc 0) rfl (by kernel_rfl) (by kernel_rfl) rfl (af.len 0) (ltb rfl) (leb rfl) rfl) trivial 0 ?_
 clear hH
 rintro _ _ w ⟨g14,rfl,rfl⟩ hH
 refine ze 0 hH rfl (fun _ hF=>cf (C:=af) (l:=L) (m:=[0]) (e:=5) (z:=(.int .u8 0)) (by_:=1) rfl (by kernel_rfl) (by kernel_rfl) rfl (ltb rfl) (hF.ev 1 rfl) hO (hF.ev 0 rfl) rfl (fun h=>by cases h) (by unfold maxLen;omega) (by omega)) ((Bk.lit1 (C:=af) 0).vu (n:=1) (hH.blk 1 rfl) rfl) 3 ?_
 clear hH
 rintro v17 E18 w ⟨hO19,_⟩ hH
 replace hO19:OwnT af 5 v17 (L++[0]) E18:=hO19
 obtain ⟨A15,c16,rfl⟩:=hO19.slice
 refine zv .mv 1 ?_
 refine aD (aN ?_)
 replace hH:HH w0 [] [E18] w:=hH.only [true,false]
 exact zR5 (z+1) A15 c16 (L++[0]) E18 ⟨hH,hO19,(by rw[hL,kp]),(by rw[List.length_append,hlen];show n+1+z+1=_;omega),(show n+1+(z+1)+8≤64*bY n from by omega)⟩ (by omega)
 refine aJ (ak (ak (aR (ag ?_))))
 have hze:n+1+z+8=64*bY n:=by omega
 refine zr (zv .mv 25 ?_)
 refine zv .len 1 ?_
 refine zv (.cu .u64) 1 ?_
 refine zv (v:=(.int .u64 (((n*8):Nat):Int))) (fun _ _ hF=>i9 (m:=n) (j:=8) (z:=(n*8)) rfl rfl (hF.ev 0 rfl) rfl (Nat.mod_eq_of_lt (by show _<18446744073709551616;omega))) 1 ?_
 refine zv .mv 1 ?_
 refine zn (aj (zr (zv .mv 4 ?_)))
 refine zv (v:=(.int .i64 7)) (fun _ _ hF=>ju rfl (hF.ev 0 rfl) rfl (by decide)) 1 ?_
 refine zv .mv 1 ?_
 refine zn (ai (zL5 (fun (k:Nat) (A1:Option Addr) (c1:Nat) (L:List UInt8) (_:Hl)=>[(9,(.int .i64 (7-((k:Nat):Int)))),(8,(.int .u64 (((n*8):Nat):Int))),(7,(.slice A1 L.length c1))]) (fun k A1 c1 L E1 w=>HH w0 [] [E1] w∧(OwnT af 5 (.slice A1 L.length c1) L E1)∧(L=mzL l z++be8 (n*8) k)∧(L.length=n+1+z+k)∧(k≤8)) (fun k _ _ _ _=>8-k) 0 A1 c1 L E1 ⟨hH,hO,(by rw[hL];simp[be8,lst]),hlen,(Nat.zero_le _)⟩ ?_))
 clear hH
 rintro k A1 c1 L E1 w ⟨hH,hO,hL2,hlen2,hk⟩
 refine aj (zr (zv .mv 0 ?_))
 refine zv (v:=(.bool (decide ((7-((k:Nat):Int)) ≥ 0)))) (fun _ _ hF=>fL rfl (hF.ev 0 rfl) rfl rfl) 1 ?_
 refine zn ?_
 refine zP (fun hc20 => ?_) (fun hc20 => ?_)
 refine aA (ag (aj (ai (zr (zv .mv 1 ?_)))))
 refine zv (v:=(.bool false)) (fun _ _ hF=>fL rfl (hF.ev 0 rfl) rfl (decide_eq_false (by omega))) 1 ?_
 refine zn (zF ?_)
 refine aC (zv .mv 9 ?_)
 refine zv .mv 0 ?_
 refine zv .mv 0 ?_
 refine zv (.mul (((8*(7-k)):Nat):Int)) 1 ?_
 refine zv (.cu .u64) 1 ?_
 refine zv (v:=(.int .u64 ((((n*8)/2^(8*(7-k))):Nat):Int))) (fun _ _ hF=>du (n:=8*(7-k)) (z:=((n*8)/2^(8*(7-k)))) rfl (hF.ev 1 rfl) (hF.ev 0 rfl) (by show _≤64;omega) (rfl)) 3 ?_
 refine zv .cb 1 ?_
 refine zm hH (fun _ hF=>cx (e:=5) (sz:=1) (z:=(.int .u8 0)) (by_:=1) (cs:=af.enc (UInt8.ofNat ((n*8)/2^(8*(7-k))))) rfl (by kernel_rfl) (by kernel_rfl) (hF.ev 0 rfl) (af.len (UInt8.ofNat ((n*8)/2^(8*(7-k))))) (ltb rfl) (leb rfl) rfl) trivial 1 ?_
 clear hH
 rintro _ _ w ⟨g21,rfl,rfl⟩ hH
 refine ze 0 hH rfl (fun _ hF=>cf (C:=af) (l:=L) (m:=[(UInt8.ofNat ((n*8)/2^(8*(7-k))))]) (e:=5) (z:=(.int .u8 0)) (by_:=1) rfl (by kernel_rfl) (by kernel_rfl) rfl (ltb rfl) (hF.ev 1 rfl) hO (hF.ev 0 rfl) rfl (fun h=>by cases h) (by unfold maxLen;omega) (by omega)) ((Bk.lit1 (C:=af) (UInt8.ofNat ((n*8)/2^(8*(7-k))))).vu (n:=1) (hH.blk 1 rfl) rfl) 3 ?_
 clear hH
 rintro v24 E25 w ⟨hO26,_⟩ hH
 replace hO26:OwnT af 5 v24 (L++[(UInt8.ofNat ((n*8)/2^(8*(7-k))))]) E25:=hO26
 obtain ⟨A22,c23,rfl⟩:=hO26.slice
 refine zv .mv 1 ?_
 refine aD (aN (ag (aC (zv .mv 2 ?_))))
 refine zv (.sub (7-((k+1:Nat):Int))) 1 ?_
 refine zv .mv 1 ?_
 refine aD ?_
 replace hH:HH w0 [] [E25] w:=hH.only [true,false]
 exact zR5 (k+1) A22 c23 (L++[(UInt8.ofNat ((n*8)/2^(8*(7-k))))]) E25 ⟨hH,hO26,(by rw[hL2,List.append_assoc];unfold be8;rw[iu]),(by rw[List.length_append,hlen2];show n+1+z+k+1=_;omega),(by omega)⟩ (by omega)
 refine aJ (ak (ak (aR (ag (zr (zv .mv 15 ?_))))))
 refine zv .mv 1 ?_
 refine zn (ar (aW 0 rfl rfl ?_))
 obtain rfl:k=8:=by omega
 subst hn
 rw[vW hze]at hL2
 subst hL2
 exact ⟨_,_,rfl,hO,hH.out1 [true] rfl⟩
theorem pa(A:Option Addr)(n c:Nat)(l:List UInt8)(hb:n≤140737488351232):Pure Tryz.prog 45 #[(.slice A n c)] (fun w=>Vu af w A n c l) ((ac 32).val (sha l)):=by
 refine pU Tryz.func45 Tryz.ntmps45 ?_
 intro w0 hH hR
 have hn:=hR.len
 have hnb:=jT n
 obtain ⟨F,hF⟩:∃ F,F=ga n fun j=>l.getD j 0:=⟨_,rfl⟩
 have hM:∀ j,j<64*bY n→(pdM l)[j]?=some (F j):=fun j hj=>by rw[hF];subst hn;exact bB hj
 refine zr (zA hH (ac 32) (fun _=>0) 0 ?_)
 clear hH
 intro g1 w hH
 refine zn (zr (zv (v:=((cWs 8).val H32)) (fun _ _ hF=>aE (cells:=(cWs 8).enc H32) (vals:=[(0,(.int .u32 1779033703)),(1,(.int .u32 3144134277)),(2,(.int .u32 1013904242)),(3,(.int .u32 2773480762)),(4,(.int .u32 1359893119)),(5,(.int .u32 2600822924)),(6,(.int .u32 528734635)),(7,(.int .u32 1541459225))]) rfl (EvP.cons (v:=(.int .u32 1779033703)) rfl (EvP.cons (v:=(.int .u32 3144134277)) rfl (EvP.cons (v:=(.int .u32 1013904242)) rfl (EvP.cons (v:=(.int .u32 2773480762)) rfl (EvP.cons (v:=(.int .u32 1359893119)) rfl (EvP.cons (v:=(.int .u32 2600822924)) rfl (EvP.cons (v:=(.int .u32 528734635)) rfl (EvP.cons (v:=(.int .u32 1541459225)) rfl EvP.nil)))))))) (by kernel_rfl) _) 0 ?_))
 refine zA hH (cWs 8) (fun _=>0) 0 ?_
 clear hH
 intro g2 w hH
 refine zW 1 hH rfl H32 ?_
 clear hH
 intro w hH
 refine zn (zr (zc Tryz.func87 (CJ ) trivial hH 2 ?_))
 clear hH
 intro w hH
 refine zA hH (cWs 64) (fun _=>0) 0 ?_
 clear hH
 intro g3 w hH
 refine zW 2 hH rfl K32 ?_
 clear hH
 intro w hH
 refine zn (zr (zv .mv 18 ?_))
 refine zm hH (.call Tryz.func88 ((zh A n c l hb))) (hH.vu hR (by decide) (Off.nil _ _)) 1 ?_
 clear hH
 rintro v8 E4 w hO5 hH
 obtain ⟨A6,c7,rfl⟩:=hO5.slice
 refine zv .mv 1 ?_
 refine zn (aj ?_)
 have hlM:=qp l
 rw[hn]at hlM
 obtain ⟨g10,cap11,cur12,hv14,rfl,hB13⟩:=hO5.open (by omega)
 obtain ⟨rfl,rfl⟩:A6=some ⟨g10,0,none⟩∧c7=cap11:=by injection hv14 with h1 h2 h3;exact ⟨h1,h3⟩
 have:=hB13.le
 have he15:(cWs 8).enc (aO F 0)=(cWs 8).enc H32:=aP (fun _ _=>rfl)
 replace hH:HH w0 [] [[bl g1 22 ((ac 32).enc (fun _=>0))],[bl g2 118 ((cWs 8).enc (aO F 0))],[bl g3 119 ((cWs 64).enc K32)],[bl g10 5 cur12]] w:=by rw[he15];exact hH
 refine zr (zv .mv 0 ?_)
 refine zn (ai (zL1 (fun (i:Nat)=>[(6,(.int .i64 (((64*i):Nat):Int))),(5,(.slice (some ⟨g10,0,none⟩) ((pdM l).length) c7)),(4,(.pointer (some ⟨g3,0,none⟩))),(3,(.pointer (some ⟨g2,0,none⟩))),(2,(.pointer (some ⟨g1,0,none⟩)))]) (fun i w=>HH w0 [] [[bl g1 22 ((ac 32).enc (fun _=>0))],[bl g2 118 ((cWs 8).enc (aO F i))],[bl g3 119 ((cWs 64).enc K32)],[bl g10 5 cur12]] w∧(i≤bY n)) (fun i=>bY n-i) 0 ⟨hH,(Nat.zero_le _)⟩ ?_))
 clear hH
 rintro i w ⟨hH,hi⟩
 refine aj (zr (zv .mv 0 ?_))
 refine zv .mv 0 ?_
 refine zv .len 1 ?_
 refine zv (.lt (64*i<(pdM l).length)) 3 ?_
 refine zn ?_
 refine zP (fun hc16 => ?_) (fun hc16 => ?_)
 refine aA (ag (aj (ai (zr (zA hH (cWs 64) (fun _=>0) 1 ?_)))))
 clear hH
 intro g17 w hH
 refine zn (aj ?_)
 have he18:(cWs 64).enc (upF 0 (W32 (aG F i)) (fun _=>0))=(cWs 64).enc (fun _=>0):=aP (fun _ _=>by rw[bw])
 replace hH:HH w0 [] [[bl g1 22 ((ac 32).enc (fun _=>0))],[bl g2 118 ((cWs 8).enc (aO F i))],[bl g3 119 ((cWs 64).enc K32)],[bl g10 5 cur12],[bl g17 119 ((cWs 64).enc (upF 0 (W32 (aG F i)) (fun _=>0)))]] w:=by rw[he18];exact hH
 refine zr (zv .mv 0 ?_)
 refine zn (ai (zL1 (fun (q:Nat)=>[(31,(.int .i64 q)),(7,(.pointer (some ⟨g17,0,none⟩))),(6,(.int .i64 (((64*i):Nat):Int))),(5,(.slice (some ⟨g10,0,none⟩) ((pdM l).length) c7)),(4,(.pointer (some ⟨g3,0,none⟩))),(3,(.pointer (some ⟨g2,0,none⟩))),(2,(.pointer (some ⟨g1,0,none⟩)))]) (fun q w=>HH w0 [] [[bl g1 22 ((ac 32).enc (fun _=>0))],[bl g2 118 ((cWs 8).enc (aO F i))],[bl g3 119 ((cWs 64).enc K32)],[bl g10 5 cur12],[bl g17 119 ((cWs 64).enc (upF q (W32 (aG F i)) (fun _=>0)))]] w∧(q≤16)) (fun q=>16-q) 0 ⟨hH,(Nat.zero_le _)⟩ ?_))
 clear hH
 rintro q w ⟨hH,hq⟩
 refine zr (zv (.lt (q<16)) 0 ?_)
 refine zn (aj ?_)
 refine zP (fun hc19 => ?_) (fun hc19 => ?_)
 refine aA (ag (aj (ai (zr (zv .mv 1 ?_)))))
 refine zv .mv 1 ?_
 refine zn ?_
 have hx00:(pdM l)[64*i+4*q]?=some ((aG F i) (4*q)):=hM _ (by omega)
 have hb00:=UInt8.toNat_lt ((aG F i) (4*q))
 have hx01:(pdM l)[64*i+(4*q+1)]?=some ((aG F i) (4*q+1)):=hM _ (by omega)
 have hb01:=UInt8.toNat_lt ((aG F i) (4*q+1))
 have hx02:(pdM l)[64*i+(4*q+2)]?=some ((aG F i) (4*q+2)):=hM _ (by omega)
 have hb02:=UInt8.toNat_lt ((aG F i) (4*q+2))
 have hx03:(pdM l)[64*i+(4*q+3)]?=some ((aG F i) (4*q+3)):=hM _ (by omega)
 have hb03:=UInt8.toNat_lt ((aG F i) (4*q+3))
 refine br mixedOrders (by kernel_rfl) ?_
 replace hH:=hH.drew
 refine rv 0 .mv 0 ?_
 refine rv 1 .mv 0 ?_
 refine rv 2 .mv 0 ?_
 refine rv 3 .mv 0 ?_
 refine rv 4 (.mul ((4*q:Nat):Int)) 1 ?_
 refine rv 5 (.add (((64*i+4*q):Nat):Int)) 3 ?_
 have hi20:64*i+4*q<(pdM l).length:=by omega
 have hj23:64*i+4*q<(pdM l).length:=by omega
 refine rv 6 (.ix 1 (64*i+4*q) (hi:=hi20)) 3 ?_
 refine rld 7 (hH.q 3 rfl) (.ld af ((aG F i) (4*q)) (fun _ hS=>((hB13.holdsL hS) (64*i+4*q) _ hx00))) 1 ?_
 refine rv 8 (.cu .u32) 1 ?_
 refine rv 9 (v:=(.int .u32 (((((aG F i) (4*q)).toNat*16777216):Nat):Int))) (fun _ _ hF=>f9 (n:=24) (z:=(((aG F i) (4*q)).toNat*16777216)) rfl rfl (hF.ev 0 rfl) rfl (leb rfl) (by show (((aG F i) (4*q)).toNat*2^24)%4294967296=_;omega)) 1 ?_
 refine rv 10 .mv 0 ?_
 refine rv 11 .mv 0 ?_
 refine rv 12 .mv 0 ?_
 refine rv 13 (.mul ((4*q:Nat):Int)) 1 ?_
 refine rv 14 (.add (((64*i)+(4*q):Nat):Int)) 3 ?_
 refine rv 15 (.add (((64*i+(4*q+1)):Nat):Int)) 1 ?_
 have hi24:64*i+(4*q+1)<(pdM l).length:=by omega
 have hj27:64*i+(4*q+1)<(pdM l).length:=by omega
 refine rv 16 (.ix 1 (64*i+(4*q+1)) (hi:=hi24)) 3 ?_
 refine rld 17 (hH.q 3 rfl) (.ld af ((aG F i) (4*q+1)) (fun _ hS=>((hB13.holdsL hS) (64*i+(4*q+1)) _ hx01))) 1 ?_
 refine rv 18 (.cu .u32) 1 ?_
 refine rv 19 (v:=(.int .u32 (((((aG F i) (4*q+1)).toNat*65536):Nat):Int))) (fun _ _ hF=>f9 (n:=16) (z:=(((aG F i) (4*q+1)).toNat*65536)) rfl rfl (hF.ev 0 rfl) rfl (leb rfl) (by show (((aG F i) (4*q+1)).toNat*2^16)%4294967296=_;omega)) 1 ?_
 refine rv 20 (v:=(.int .u32 (((((aG F i) (4*q)).toNat*16777216+((aG F i) (4*q+1)).toNat*65536):Nat):Int))) (fun _ _ hF=>kf (m:=((aG F i) (4*q)).toNat*16777216) (j:=((aG F i) (4*q+1)).toNat*65536) (z:=(((aG F i) (4*q)).toNat*16777216+((aG F i) (4*q+1)).toNat*65536)) rfl rfl (hF.ev 1 rfl) (hF.ev 0 rfl) (by show _<4294967296;omega) (by show _<4294967296;omega) (by rw[show ((aG F i) (4*q)).toNat*16777216=((aG F i) (4*q)).toNat*2^24 by omega,mD (show ((aG F i) (4*q+1)).toNat*65536<2^24 by omega)])) 3 ?_
 refine rv 21 .mv 0 ?_
 refine rv 22 .mv 0 ?_
 refine rv 23 .mv 0 ?_
 refine rv 24 (.mul ((4*q:Nat):Int)) 1 ?_
 refine rv 25 (.add (((64*i)+(4*q):Nat):Int)) 3 ?_
 refine rv 26 (.add (((64*i+(4*q+2)):Nat):Int)) 1 ?_
 have hi28:64*i+(4*q+2)<(pdM l).length:=by omega
 have hj31:64*i+(4*q+2)<(pdM l).length:=by omega
 refine rv 27 (.ix 1 (64*i+(4*q+2)) (hi:=hi28)) 3 ?_
 refine rld 28 (hH.q 3 rfl) (.ld af ((aG F i) (4*q+2)) (fun _ hS=>((hB13.holdsL hS) (64*i+(4*q+2)) _ hx02))) 1 ?_
 refine rv 29 (.cu .u32) 1 ?_
 refine rv 30 (v:=(.int .u32 (((((aG F i) (4*q+2)).toNat*256):Nat):Int))) (fun _ _ hF=>f9 (n:=8) (z:=(((aG F i) (4*q+2)).toNat*256)) rfl rfl (hF.ev 0 rfl) rfl (leb rfl) (by show (((aG F i) (4*q+2)).toNat*2^8)%4294967296=_;omega)) 1 ?_
 refine rv 31 (v:=(.int .u32 (((((aG F i) (4*q)).toNat*16777216+((aG F i) (4*q+1)).toNat*65536+((aG F i) (4*q+2)).toNat*256):Nat):Int))) (fun _ _ hF=>kf (m:=((aG F i) (4*q)).toNat*16777216+((aG F i) (4*q+1)).toNat*65536) (j:=((aG F i) (4*q+2)).toNat*256) (z:=(((aG F i) (4*q)).toNat*16777216+((aG F i) (4*q+1)).toNat*65536+((aG F i) (4*q+2)).toNat*256)) rfl rfl (hF.ev 1 rfl) (hF.ev 0 rfl) (by show _<4294967296;omega) (by show _<4294967296;omega) (by rw[show ((aG F i) (4*q)).toNat*16777216+((aG F i) (4*q+1)).toNat*65536=(((aG F i) (4*q)).toNat*256+((aG F i) (4*q+1)).toNat)*2^16 by omega,mD (show ((aG F i) (4*q+2)).toNat*256<2^16 by omega)])) 3 ?_
 refine rv 32 .mv 0 ?_
 refine rv 33 .mv 0 ?_
 refine rv 34 .mv 16 ?_
 refine rv 35 (.mul ((4*q:Nat):Int)) 1 ?_
 refine rv 36 (.add (((64*i)+(4*q):Nat):Int)) 3 ?_
 refine rv 37 (.add (((64*i+(4*q+3)):Nat):Int)) 1 ?_
 have hi32:64*i+(4*q+3)<(pdM l).length:=by omega
 have hj35:64*i+(4*q+3)<(pdM l).length:=by omega
 refine rv 38 (.ix 1 (64*i+(4*q+3)) (hi:=hi32)) 3 ?_
 refine rld 39 (hH.q 3 rfl) (.ld af ((aG F i) (4*q+3)) (fun _ hS=>((hB13.holdsL hS) (64*i+(4*q+3)) _ hx03))) 1 ?_
 refine rv 40 (.cu .u32) 1 ?_
 refine rv 41 (v:=(.int .u32 (((((aG F i) (4*q)).toNat*16777216+((aG F i) (4*q+1)).toNat*65536+((aG F i) (4*q+2)).toNat*256+((aG F i) (4*q+3)).toNat):Nat):Int))) (fun _ _ hF=>kf (m:=((aG F i) (4*q)).toNat*16777216+((aG F i) (4*q+1)).toNat*65536+((aG F i) (4*q+2)).toNat*256) (j:=((aG F i) (4*q+3)).toNat) (z:=(((aG F i) (4*q)).toNat*16777216+((aG F i) (4*q+1)).toNat*65536+((aG F i) (4*q+2)).toNat*256+((aG F i) (4*q+3)).toNat)) rfl rfl (hF.ev 1 rfl) (hF.ev 0 rfl) (by show _<4294967296;omega) (by show _<4294967296;omega) (by rw[show ((aG F i) (4*q)).toNat*16777216+((aG F i) (4*q+1)).toNat*65536+((aG F i) (4*q+2)).toNat*256=(((aG F i) (4*q)).toNat*65536+((aG F i) (4*q+1)).toNat*256+((aG F i) (4*q+2)).toNat)*2^8 by omega,mD (show ((aG F i) (4*q+3)).toNat<2^8 by omega)])) 3 ?_
 have hi36:q<64:=by omega
 refine rv 42 (.ia 1 64 q (hi:=hi36)) 2 ?_
 refine ao 43 ?_
 refine re0 43 4 hH rfl (.st cWd (UInt32.ofNat (((aG F i) (4*q)).toNat*16777216+((aG F i) (4*q+1)).toNat*65536+((aG F i) (4*q+2)).toNat*256+((aG F i) (4*q+3)).toNat)) (aU (S:=sWd) (C:=(cWs 64)) rfl hi36) (bE (upF q (W32 (aG F i)) (fun _=>0)) (UInt32.ofNat (((aG F i) (4*q)).toNat*16777216+((aG F i) (4*q+1)).toNat*65536+((aG F i) (4*q+2)).toNat*256+((aG F i) (4*q+3)).toNat)) hi36) (hv:=yV (by omega))) trivial (pgo [] (pgo [] (pgo [] (pgo [] (.nil _ []))))) ?_
 clear hH
 rintro _ _ w rfl hH
 refine ⟨an,bQ (by kernel_rfl) ?_⟩
 refine aN (ag (aC (zv (.add ((q+1:Nat):Int)) 7 ?_)))
 refine zv .mv 1 ?_
 refine aD ?_
 have he37:(cWs 64).enc (upF (q+1) (W32 (aG F i)) (fun _=>0))=(cWs 64).enc (stF (upF q (W32 (aG F i)) (fun _=>0)) q (UInt32.ofNat (((aG F i) (4*q)).toNat*16777216+((aG F i) (4*q+1)).toNat*65536+((aG F i) (4*q+2)).toNat*256+((aG F i) (4*q+3)).toNat))):=aP (fun j _=>(congrFun (bi q (W32 (aG F i)) (fun _=>0) (yW (show q<16 by omega))) j).symm)
 replace hH:HH w0 [] [[bl g1 22 ((ac 32).enc (fun _=>0))],[bl g2 118 ((cWs 8).enc (aO F i))],[bl g3 119 ((cWs 64).enc K32)],[bl g10 5 cur12],[bl g17 119 ((cWs 64).enc (upF (q+1) (W32 (aG F i)) (fun _=>0)))]] w:=by rw[he37];exact hH
 exact zR1 (q+1) ⟨hH,(by omega)⟩ (by omega)
 refine aJ (ak (ak (aR (ag (aj ?_)))))
 obtain rfl:q=16:=by omega
 refine zr (zv .mv 3 ?_)
 refine zn (ai (zL1 (fun (q:Nat)=>[(9,(.int .i64 q)),(7,(.pointer (some ⟨g17,0,none⟩))),(6,(.int .i64 (((64*i):Nat):Int))),(5,(.slice (some ⟨g10,0,none⟩) ((pdM l).length) c7)),(4,(.pointer (some ⟨g3,0,none⟩))),(3,(.pointer (some ⟨g2,0,none⟩))),(2,(.pointer (some ⟨g1,0,none⟩)))]) (fun q w=>HH w0 [] [[bl g1 22 ((ac 32).enc (fun _=>0))],[bl g2 118 ((cWs 8).enc (aO F i))],[bl g3 119 ((cWs 64).enc K32)],[bl g10 5 cur12],[bl g17 119 ((cWs 64).enc (upF q (W32 (aG F i)) (fun _=>0)))]] w∧(16≤q)∧(q≤64)) (fun q=>64-q) 16 ⟨hH,(Nat.le_refl _),(by decide)⟩ ?_))
 clear hH
 rintro q w ⟨hH,hq,hq2⟩
 refine aj (zr (zv .mv 0 ?_))
 refine zv (.lt (q<64)) 1 ?_
 refine zn ?_
 refine zP (fun hc38 => ?_) (fun hc38 => ?_)
 refine aA (ag (aj (ai (zx ?_))))
 replace hH:=hH.drew
 refine rv 0 .mv 1 ?_
 refine rv 1 (.sub (((q-2):Nat):Int)) 1 ?_
 have hi39:q-2<64:=by omega
 refine rv 2 (.ia 1 64 (q-2) (hi:=hi39)) 1 ?_
 refine rld 3 (hH.q 4 rfl) (.ld cWd ((upF q (W32 (aG F i)) (fun _=>0)) (q-2)) (fun _ hS=>((ae hS).eltV hi39))) 1 ?_
 refine rv 5 .mv 0 ?_
 refine rv 6 (.sub (((q-2):Nat):Int)) 1 ?_
 have hi40:q-2<64:=by omega
 refine rv 7 (.ia 1 64 (q-2) (hi:=hi40)) 1 ?_
 refine rld 8 (hH.q 4 rfl) (.ld cWd ((upF q (W32 (aG F i)) (fun _=>0)) (q-2)) (fun _ hS=>((ae hS).eltV hi40))) 1 ?_
 refine rv 11 .mv 0 ?_
 refine rv 12 (.sub (((q-2):Nat):Int)) 1 ?_
 have hi41:q-2<64:=by omega
 refine rv 13 (.ia 1 64 (q-2) (hi:=hi41)) 1 ?_
 refine rld 14 (hH.q 4 rfl) (.ld cWd ((upF q (W32 (aG F i)) (fun _=>0)) (q-2)) (fun _ hS=>((ae hS).eltV hi41))) 1 ?_
 refine rv 15 (.rw 10) 1 ?_
 refine ao 4 (rpc 4 Tryz.func89 (fg ((upF q (W32 (aG F i)) (fun _=>0)) (q-2)) 17 (ltb rfl) (ltb rfl)) trivial hH 4 (.keep (.keep (pgo [] (.nil _ [])))) ?_)
 clear hH
 intro w hH
 refine ⟨am (hH.blk 4 rfl) (am (hH.blk 4 rfl) an),?_⟩
 refine ao 9 (rpc 9 Tryz.func89 (fg ((upF q (W32 (aG F i)) (fun _=>0)) (q-2)) 19 (ltb rfl) (ltb rfl)) trivial hH 4 (.keep (pgo [] (.nil _ []))) ?_)
 clear hH
 intro w hH
 refine ⟨am (hH.blk 4 rfl) an,?_⟩
 refine rv 10 (.xw (cH (cI ((upF q (W32 (aG F i)) (fun _=>0)) (q-2)) 17) (cI ((upF q (W32 (aG F i)) (fun _=>0)) (q-2)) 19))) 3 ?_
 refine rv 16 (.xw (cC (upF q (W32 (aG F i)) (fun _=>0) (q-2)))) 3 ?_
 refine rv 17 .mv 1 ?_
 refine rn ?_
 refine zx ?_
 replace hH:=hH.drew
 refine rv 0 .mv 0 ?_
 refine rv 1 (.sub (((q-15):Nat):Int)) 1 ?_
 have hi42:q-15<64:=by omega
 refine rv 2 (.ia 1 64 (q-15) (hi:=hi42)) 1 ?_
 refine rld 3 (hH.q 4 rfl) (.ld cWd ((upF q (W32 (aG F i)) (fun _=>0)) (q-15)) (fun _ hS=>((ae hS).eltV hi42))) 1 ?_
 refine rv 5 .mv 0 ?_
 refine rv 6 (.sub (((q-15):Nat):Int)) 1 ?_
 have hi43:q-15<64:=by omega
 refine rv 7 (.ia 1 64 (q-15) (hi:=hi43)) 1 ?_
 refine rld 8 (hH.q 4 rfl) (.ld cWd ((upF q (W32 (aG F i)) (fun _=>0)) (q-15)) (fun _ hS=>((ae hS).eltV hi43))) 1 ?_
 refine rv 11 .mv 0 ?_
 refine rv 12 (.sub (((q-15):Nat):Int)) 1 ?_
 have hi44:q-15<64:=by omega
 refine rv 13 (.ia 1 64 (q-15) (hi:=hi44)) 1 ?_
 refine rld 14 (hH.q 4 rfl) (.ld cWd ((upF q (W32 (aG F i)) (fun _=>0)) (q-15)) (fun _ hS=>((ae hS).eltV hi44))) 1 ?_
 refine rv 15 (.rw 3) 1 ?_
 refine ao 4 (rpc 4 Tryz.func89 (fg ((upF q (W32 (aG F i)) (fun _=>0)) (q-15)) 7 (ltb rfl) (ltb rfl)) trivial hH 4 (.keep (.keep (pgo [] (.nil _ [])))) ?_)
 clear hH
 intro w hH
 refine ⟨am (hH.blk 4 rfl) (am (hH.blk 4 rfl) an),?_⟩
 refine ao 9 (rpc 9 Tryz.func89 (fg ((upF q (W32 (aG F i)) (fun _=>0)) (q-15)) 18 (ltb rfl) (ltb rfl)) trivial hH 4 (.keep (pgo [] (.nil _ []))) ?_)
 clear hH
 intro w hH
 refine ⟨am (hH.blk 4 rfl) an,?_⟩
 refine rv 10 (.xw (cH (cI ((upF q (W32 (aG F i)) (fun _=>0)) (q-15)) 7) (cI ((upF q (W32 (aG F i)) (fun _=>0)) (q-15)) 18))) 3 ?_
 refine rv 16 (.xw (cZ (upF q (W32 (aG F i)) (fun _=>0) (q-15)))) 3 ?_
 refine rv 17 .mv 1 ?_
 refine rn ?_
 refine br mixedOrders (by kernel_rfl) ?_
 replace hH:=hH.drew
 refine rv 0 .mv 0 ?_
 refine rv 1 .mv 4 ?_
 refine rv 2 .mv 0 ?_
 refine rv 3 (.sub (((q-7):Nat):Int)) 1 ?_
 have hi45:q-7<64:=by omega
 refine rv 4 (.ia 1 64 (q-7) (hi:=hi45)) 1 ?_
 refine rld 5 (hH.q 4 rfl) (.ld cWd ((upF q (W32 (aG F i)) (fun _=>0)) (q-7)) (fun _ hS=>((ae hS).eltV hi45))) 1 ?_
 refine rv 6 (.aw (bf (cC (upF q (W32 (aG F i)) (fun _=>0) (q-2))) ((upF q (W32 (aG F i)) (fun _=>0)) (q-7)))) 3 ?_
 refine rv 7 .mv 4 ?_
 refine rv 8 (.aw (bf (bf (cC (upF q (W32 (aG F i)) (fun _=>0) (q-2))) (upF q (W32 (aG F i)) (fun _=>0) (q-7))) (cZ (upF q (W32 (aG F i)) (fun _=>0) (q-15))))) 3 ?_
 refine rv 9 .mv 0 ?_
 refine rv 10 (.sub (((q-16):Nat):Int)) 1 ?_
 have hi46:q-16<64:=by omega
 refine rv 11 (.ia 1 64 (q-16) (hi:=hi46)) 1 ?_
 refine rld 12 (hH.q 4 rfl) (.ld cWd ((upF q (W32 (aG F i)) (fun _=>0)) (q-16)) (fun _ hS=>((ae hS).eltV hi46))) 1 ?_
 refine rv 13 (.aw (bf (bf (bf (cC (upF q (W32 (aG F i)) (fun _=>0) (q-2))) (upF q (W32 (aG F i)) (fun _=>0) (q-7))) (cZ (upF q (W32 (aG F i)) (fun _=>0) (q-15)))) ((upF q (W32 (aG F i)) (fun _=>0)) (q-16)))) 3 ?_
 have hi47:q<64:=by omega
 refine rv 14 (.ia 1 64 q (hi:=hi47)) 2 ?_
 refine ao 15 ?_
 refine re0 15 4 hH rfl (.st cWd (bf (bf (bf (cC (upF q (W32 (aG F i)) (fun _=>0) (q-2))) (upF q (W32 (aG F i)) (fun _=>0) (q-7))) (cZ (upF q (W32 (aG F i)) (fun _=>0) (q-15)))) ((upF q (W32 (aG F i)) (fun _=>0)) (q-16))) (aU (S:=sWd) (C:=(cWs 64)) rfl hi47) (bE (upF q (W32 (aG F i)) (fun _=>0)) (bf (bf (bf (cC (upF q (W32 (aG F i)) (fun _=>0) (q-2))) (upF q (W32 (aG F i)) (fun _=>0) (q-7))) (cZ (upF q (W32 (aG F i)) (fun _=>0) (q-15)))) ((upF q (W32 (aG F i)) (fun _=>0)) (q-16))) hi47)) trivial (pgo [] (pgo [] (.nil _ []))) ?_
 clear hH
 rintro _ _ w rfl hH
 refine ⟨an,bQ (by kernel_rfl) ?_⟩
 refine aN (ag (aC (zv .mv 7 ?_)))
 refine zv (.add ((q+1:Nat):Int)) 1 ?_
 refine zv .mv 1 ?_
 refine aD ?_
 have he48:(cWs 64).enc (upF (q+1) (W32 (aG F i)) (fun _=>0))=(cWs 64).enc (stF (upF q (W32 (aG F i)) (fun _=>0)) q (bf (bf (bf (cC (upF q (W32 (aG F i)) (fun _=>0) (q-2))) (upF q (W32 (aG F i)) (fun _=>0) (q-7))) (cZ (upF q (W32 (aG F i)) (fun _=>0) (q-15)))) ((upF q (W32 (aG F i)) (fun _=>0)) (q-16)))):=aP (fun j _=>(congrFun (bi q (W32 (aG F i)) (fun _=>0) (ql hq)) j).symm)
 replace hH:HH w0 [] [[bl g1 22 ((ac 32).enc (fun _=>0))],[bl g2 118 ((cWs 8).enc (aO F i))],[bl g3 119 ((cWs 64).enc K32)],[bl g10 5 cur12],[bl g17 119 ((cWs 64).enc (upF (q+1) (W32 (aG F i)) (fun _=>0)))]] w:=by rw[he48];exact hH
 exact zR1 (q+1) ⟨hH,(by omega),(by omega)⟩ (by omega)
 refine aJ (ak (ak (aR (ag ?_))))
 obtain rfl:q=64:=by omega
 have he49:(cWs 64).enc (W32 (aG F i))=(cWs 64).enc (upF 64 (W32 (aG F i)) (fun _=>0)):=aP (fun j hj=>(bz _ _ hj).symm)
 replace hH:HH w0 [] [[bl g1 22 ((ac 32).enc (fun _=>0))],[bl g2 118 ((cWs 8).enc (aO F i))],[bl g3 119 ((cWs 64).enc K32)],[bl g10 5 cur12],[bl g17 119 ((cWs 64).enc (W32 (aG F i)))]] w:=by rw[he49];exact hH
 refine zr (zs (hH.q 1 rfl) (.l0 (cWs 8) (aO F i)) 3 ?_)
 refine zA hH (cWs 8) (fun _=>0) 0 ?_
 clear hH
 intro g50 w hH
 refine zW 5 hH rfl (aO F i) ?_
 clear hH
 intro w hH
 refine zn (aj ?_)
 have he51:(cWs 8).enc (au (aG F i) (aO F i) 0)=(cWs 8).enc (aO F i):=aP (fun _ _=>rfl)
 replace hH:HH w0 [] [[bl g1 22 ((ac 32).enc (fun _=>0))],[bl g2 118 ((cWs 8).enc (aO F i))],[bl g3 119 ((cWs 64).enc K32)],[bl g10 5 cur12],[bl g17 119 ((cWs 64).enc (W32 (aG F i)))],[bl g50 118 ((cWs 8).enc (au (aG F i) (aO F i) 0))]] w:=by rw[he51];exact hH
 refine zr (zv .mv 2 ?_)
 refine zn (ai (zL1 (fun (q:Nat)=>[(132,(.int .i64 q)),(12,(.pointer (some ⟨g50,0,none⟩))),(7,(.pointer (some ⟨g17,0,none⟩))),(6,(.int .i64 (((64*i):Nat):Int))),(5,(.slice (some ⟨g10,0,none⟩) ((pdM l).length) c7)),(4,(.pointer (some ⟨g3,0,none⟩))),(3,(.pointer (some ⟨g2,0,none⟩))),(2,(.pointer (some ⟨g1,0,none⟩)))]) (fun q w=>HH w0 [] [[bl g1 22 ((ac 32).enc (fun _=>0))],[bl g2 118 ((cWs 8).enc (aO F i))],[bl g3 119 ((cWs 64).enc K32)],[bl g10 5 cur12],[bl g17 119 ((cWs 64).enc (W32 (aG F i)))],[bl g50 118 ((cWs 8).enc (au (aG F i) (aO F i) q))]] w∧(q≤64)) (fun q=>64-q) 0 ⟨hH,(Nat.zero_le _)⟩ ?_))
 clear hH
 rintro q w ⟨hH,hq⟩
 refine zr (zv (.lt (q<64)) 0 ?_)
 refine zn (aj ?_)
 refine zP (fun hc52 => ?_) (fun hc52 => ?_)
 refine aA (ag (aj (ai (zr (zv .mv 1 ?_)))))
 refine zv .mv 1 ?_
 refine zn (zx ?_)
 replace hH:=hH.drew
 have hi53:4<8:=by omega
 refine rv 0 (.ia 1 8 4 (hi:=hi53)) 0 ?_
 refine rld 1 (hH.q 5 rfl) (.ld cWd ((au (aG F i) (aO F i) q) 4) (fun _ hS=>((ae hS).eltV hi53))) 1 ?_
 have hi54:0<8:=by omega
 refine rv 2 (.ia 1 8 0 (hi:=hi54)) 0 ?_
 refine rld 3 (hH.q 5 rfl) (.ld cWd ((au (aG F i) (aO F i) q) 0) (fun _ hS=>((ae hS).eltV hi54))) 1 ?_
 refine rv 4 .mv 2 ?_
 refine rv 5 .mv 2 ?_
 refine rn ?_
 refine zx ?_
 replace hH:=hH.drew
 have hi55:7<8:=by omega
 refine rv 0 (.ia 1 8 7 (hi:=hi55)) 0 ?_
 refine rld 1 (hH.q 5 rfl) (.ld cWd ((au (aG F i) (aO F i) q) 7) (fun _ hS=>((ae hS).eltV hi55))) 1 ?_
 refine rv 2 .mv 0 ?_
 refine rv 4 .mv 0 ?_
 refine rv 7 .mv 0 ?_
 refine rv 11 .mv 0 ?_
 have hi56:5<8:=by omega
 refine rv 12 (.ia 1 8 5 (hi:=hi56)) 0 ?_
 refine rld 13 (hH.q 5 rfl) (.ld cWd ((au (aG F i) (aO F i) q) 5) (fun _ hS=>((ae hS).eltV hi56))) 1 ?_
 refine rv 14 (.nw (bK ((au (aG F i) (aO F i) q) 4) ((au (aG F i) (aO F i) q) 5))) 3 ?_
 refine rv 15 .mv 64 ?_
 refine rv 16 .cw 1 ?_
 have hi57:6<8:=by omega
 refine rv 17 (.ia 1 8 6 (hi:=hi57)) 0 ?_
 refine rld 18 (hH.q 5 rfl) (.ld cWd ((au (aG F i) (aO F i) q) 6) (fun _ hS=>((ae hS).eltV hi57))) 1 ?_
 refine rv 19 (.nw (bK (ey ((au (aG F i) (aO F i) q) 4)) ((au (aG F i) (aO F i) q) 6))) 3 ?_
 refine rv 20 (.xw (vR (au (aG F i) (aO F i) q 4) (au (aG F i) (aO F i) q 5) (au (aG F i) (aO F i) q 6))) 3 ?_
 refine rv 22 .mv 0 ?_
 have hi58:q<64:=by omega
 refine rv 23 (.ia 1 64 q (hi:=hi58)) 1 ?_
 refine rld 24 (hH.q 2 rfl) (.ld cWd (K32 q) (fun _ hS=>((ae hS).eltV hi58))) 1 ?_
 refine rv 26 .mv 128 ?_
 have hi59:q<64:=by omega
 refine rv 27 (.ia 1 64 q (hi:=hi59)) 1 ?_
 refine rld 28 (hH.q 4 rfl) (.ld cWd ((W32 (aG F i)) q) (fun _ hS=>((ae hS).eltV hi59))) 1 ?_
 refine ao 3 (rpc 3 Tryz.func89 (fg ((au (aG F i) (aO F i) q) 4) 6 (ltb rfl) (ltb rfl)) trivial hH 32 (.keep (.keep (.keep (.keep (.keep (.nil _ [])))))) ?_)
 clear hH
 intro w hH
 refine ⟨am (hH.blk 4 rfl) (am (hH.blk 2 rfl) (am (hH.blk 5 rfl) (am (hH.blk 5 rfl) (am (hH.blk 5 rfl) an)))),?_⟩
 refine ao 5 (rpc 5 Tryz.func89 (fg ((au (aG F i) (aO F i) q) 4) 11 (ltb rfl) (ltb rfl)) trivial hH 32 (.keep (.keep (.keep (.keep (.keep (.nil _ [])))))) ?_)
 clear hH
 intro w hH
 refine ⟨am (hH.blk 4 rfl) (am (hH.blk 2 rfl) (am (hH.blk 5 rfl) (am (hH.blk 5 rfl) (am (hH.blk 5 rfl) an)))),?_⟩
 refine rv 6 (.xw (cH (cI ((au (aG F i) (aO F i) q) 4) 6) (cI ((au (aG F i) (aO F i) q) 4) 11))) 3 ?_
 refine ao 8 (rpc 8 Tryz.func89 (fg ((au (aG F i) (aO F i) q) 4) 25 (ltb rfl) (ltb rfl)) trivial hH 16 (.keep (.keep (.keep (.keep (.keep (.nil _ [])))))) ?_)
 clear hH
 intro w hH
 refine ⟨am (hH.blk 4 rfl) (am (hH.blk 2 rfl) (am (hH.blk 5 rfl) (am (hH.blk 5 rfl) (am (hH.blk 5 rfl) an)))),?_⟩
 refine rv 9 (.xw (dz (au (aG F i) (aO F i) q 4))) 3 ?_
 refine rv 10 (.aw (bf ((au (aG F i) (aO F i) q) 7) (dz (au (aG F i) (aO F i) q 4)))) 17 ?_
 refine rv 21 (.aw (bf (bf ((au (aG F i) (aO F i) q) 7) (dz (au (aG F i) (aO F i) q 4))) (vR (au (aG F i) (aO F i) q 4) (au (aG F i) (aO F i) q 5) (au (aG F i) (aO F i) q 6)))) 9 ?_
 refine rv 25 (.aw (bf (bf (bf ((au (aG F i) (aO F i) q) 7) (dz (au (aG F i) (aO F i) q 4))) (vR (au (aG F i) (aO F i) q 4) (au (aG F i) (aO F i) q 5) (au (aG F i) (aO F i) q 6))) (K32 q))) 5 ?_
 refine rv 29 (.aw (gG (W32 (aG F i) q) q (au (aG F i) (aO F i) q))) 3 ?_
 refine rv 30 .mv 1 ?_
 refine rn ?_
 refine zx ?_
 replace hH:=hH.drew
 refine rv 0 .mv 0 ?_
 refine rv 2 .mv 0 ?_
 refine rv 5 .mv 0 ?_
 refine rv 8 .mv 0 ?_
 have hi60:1<8:=by omega
 refine rv 9 (.ia 1 8 1 (hi:=hi60)) 0 ?_
 refine rld 10 (hH.q 5 rfl) (.ld cWd ((au (aG F i) (aO F i) q) 1) (fun _ hS=>((ae hS).eltV hi60))) 1 ?_
 refine rv 11 (.nw (bK ((au (aG F i) (aO F i) q) 0) ((au (aG F i) (aO F i) q) 1))) 3 ?_
 refine rv 12 .mv 32 ?_
 have hi61:2<8:=by omega
 refine rv 13 (.ia 1 8 2 (hi:=hi61)) 0 ?_
 refine rld 14 (hH.q 5 rfl) (.ld cWd ((au (aG F i) (aO F i) q) 2) (fun _ hS=>((ae hS).eltV hi61))) 1 ?_
 refine rv 15 (.nw (bK ((au (aG F i) (aO F i) q) 0) ((au (aG F i) (aO F i) q) 2))) 3 ?_
 refine rv 16 (.xw (cH (bK ((au (aG F i) (aO F i) q) 0) ((au (aG F i) (aO F i) q) 1)) (bK ((au (aG F i) (aO F i) q) 0) ((au (aG F i) (aO F i) q) 2)))) 3 ?_
 have hi62:1<8:=by omega
 refine rv 17 (.ia 1 8 1 (hi:=hi62)) 0 ?_
 refine rld 18 (hH.q 5 rfl) (.ld cWd ((au (aG F i) (aO F i) q) 1) (fun _ hS=>((ae hS).eltV hi62))) 1 ?_
 have hi63:2<8:=by omega
 refine rv 19 (.ia 1 8 2 (hi:=hi63)) 0 ?_
 refine rld 20 (hH.q 5 rfl) (.ld cWd ((au (aG F i) (aO F i) q) 2) (fun _ hS=>((ae hS).eltV hi63))) 1 ?_
 refine rv 21 (.nw (bK ((au (aG F i) (aO F i) q) 1) ((au (aG F i) (aO F i) q) 2))) 3 ?_
 refine rv 22 (.xw (xZ (au (aG F i) (aO F i) q 0) (au (aG F i) (aO F i) q 1) (au (aG F i) (aO F i) q 2))) 3 ?_
 refine ao 1 (rpc 1 Tryz.func89 (fg ((au (aG F i) (aO F i) q) 0) 2 (ltb rfl) (ltb rfl)) trivial hH 8 (.keep (.keep (.keep (.keep (.nil _ []))))) ?_)
 clear hH
 intro w hH
 refine ⟨am (hH.blk 5 rfl) (am (hH.blk 5 rfl) (am (hH.blk 5 rfl) (am (hH.blk 5 rfl) an))),?_⟩
 refine ao 3 (rpc 3 Tryz.func89 (fg ((au (aG F i) (aO F i) q) 0) 13 (ltb rfl) (ltb rfl)) trivial hH 8 (.keep (.keep (.keep (.keep (.nil _ []))))) ?_)
 clear hH
 intro w hH
 refine ⟨am (hH.blk 5 rfl) (am (hH.blk 5 rfl) (am (hH.blk 5 rfl) (am (hH.blk 5 rfl) an))),?_⟩
 refine rv 4 (.xw (cH (cI ((au (aG F i) (aO F i) q) 0) 2) (cI ((au (aG F i) (aO F i) q) 0) 13))) 3 ?_
 refine ao 6 (rpc 6 Tryz.func89 (fg ((au (aG F i) (aO F i) q) 0) 22 (ltb rfl) (ltb rfl)) trivial hH 4 (.keep (.keep (.keep (.keep (.nil _ []))))) ?_)
 clear hH
 intro w hH
 refine ⟨am (hH.blk 5 rfl) (am (hH.blk 5 rfl) (am (hH.blk 5 rfl) (am (hH.blk 5 rfl) an))),?_⟩
 refine rv 7 (.xw (io (au (aG F i) (aO F i) q 0))) 3 ?_
 refine rv 23 (.aw (lP (au (aG F i) (aO F i) q))) 3 ?_
 refine rv 24 .mv 1 ?_
 refine rn ?_
 refine aC (zv .mv 0 ?_)
 refine zv .mv 2 ?_
 refine zv (.aw (bf (gG (W32 (aG F i) q) q (au (aG F i) (aO F i) q)) (lP (au (aG F i) (aO F i) q)))) 3 ?_
 have hi64:0<8:=by omega
 refine zv (.ia 1 8 0 (hi:=hi64)) 0 ?_
 refine zs (hH.q 5 rfl) (.ld cWd ((au (aG F i) (aO F i) q) 0) (fun _ hS=>((ae hS).eltV hi64))) 1 ?_
 have hi65:1<8:=by omega
 refine zv (.ia 1 8 1 (hi:=hi65)) 0 ?_
 refine zs (hH.q 5 rfl) (.ld cWd ((au (aG F i) (aO F i) q) 1) (fun _ hS=>((ae hS).eltV hi65))) 1 ?_
 have hi66:2<8:=by omega
 refine zv (.ia 1 8 2 (hi:=hi66)) 0 ?_
 refine zs (hH.q 5 rfl) (.ld cWd ((au (aG F i) (aO F i) q) 2) (fun _ hS=>((ae hS).eltV hi66))) 1 ?_
 have hi67:3<8:=by omega
 refine zv (.ia 1 8 3 (hi:=hi67)) 0 ?_
 refine zs (hH.q 5 rfl) (.ld cWd ((au (aG F i) (aO F i) q) 3) (fun _ hS=>((ae hS).eltV hi67))) 1 ?_
 refine zv .mv 32 ?_
 refine zv (.aw (bf ((au (aG F i) (aO F i) q) 3) (gG (W32 (aG F i) q) q (au (aG F i) (aO F i) q)))) 3 ?_
 have hi68:4<8:=by omega
 refine zv (.ia 1 8 4 (hi:=hi68)) 0 ?_
 refine zs (hH.q 5 rfl) (.ld cWd ((au (aG F i) (aO F i) q) 4) (fun _ hS=>((ae hS).eltV hi68))) 1 ?_
 have hi69:5<8:=by omega
 refine zv (.ia 1 8 5 (hi:=hi69)) 0 ?_
 refine zs (hH.q 5 rfl) (.ld cWd ((au (aG F i) (aO F i) q) 5) (fun _ hS=>((ae hS).eltV hi69))) 1 ?_
 have hi70:6<8:=by omega
 refine zv (.ia 1 8 6 (hi:=hi70)) 0 ?_
 refine zs (hH.q 5 rfl) (.ld cWd ((au (aG F i) (aO F i) q) 6) (fun _ hS=>((ae hS).eltV hi70))) 1 ?_
 refine zv (v:=((cWs 8).val (au (aG F i) (aO F i) (q+1)))) (fun _ _ hF=>aE (cells:=(cWs 8).enc (au (aG F i) (aO F i) (q+1))) (vals:=[(0,(.int .u32 ((((bf (gG (W32 (aG F i) q) q (au (aG F i) (aO F i) q)) (lP (au (aG F i) (aO F i) q))).toNat):Nat):Int))),(1,(.int .u32 (((((au (aG F i) (aO F i) q) 0).toNat):Nat):Int))),(2,(.int .u32 (((((au (aG F i) (aO F i) q) 1).toNat):Nat):Int))),(3,(.int .u32 (((((au (aG F i) (aO F i) q) 2).toNat):Nat):Int))),(4,(.int .u32 ((((bf ((au (aG F i) (aO F i) q) 3) (gG (W32 (aG F i) q) q (au (aG F i) (aO F i) q))).toNat):Nat):Int))),(5,(.int .u32 (((((au (aG F i) (aO F i) q) 4).toNat):Nat):Int))),(6,(.int .u32 (((((au (aG F i) (aO F i) q) 5).toNat):Nat):Int))),(7,(.int .u32 (((((au (aG F i) (aO F i) q) 6).toNat):Nat):Int)))]) rfl (EvP.cons (v:=(.int .u32 ((((bf (gG (W32 (aG F i) q) q (au (aG F i) (aO F i) q)) (lP (au (aG F i) (aO F i) q))).toNat):Nat):Int))) (hF.ev 7 rfl) (EvP.cons (v:=(.int .u32 (((((au (aG F i) (aO F i) q) 0).toNat):Nat):Int))) (hF.ev 6 rfl) (EvP.cons (v:=(.int .u32 (((((au (aG F i) (aO F i) q) 1).toNat):Nat):Int))) (hF.ev 5 rfl) (EvP.cons (v:=(.int .u32 (((((au (aG F i) (aO F i) q) 2).toNat):Nat):Int))) (hF.ev 4 rfl) (EvP.cons (v:=(.int .u32 ((((bf ((au (aG F i) (aO F i) q) 3) (gG (W32 (aG F i) q) q (au (aG F i) (aO F i) q))).toNat):Nat):Int))) (hF.ev 3 rfl) (EvP.cons (v:=(.int .u32 (((((au (aG F i) (aO F i) q) 4).toNat):Nat):Int))) (hF.ev 2 rfl) (EvP.cons (v:=(.int .u32 (((((au (aG F i) (aO F i) q) 5).toNat):Nat):Int))) (hF.ev 1 rfl) (EvP.cons (v:=(.int .u32 (((((au (aG F i) (aO F i) q) 6).toNat):Nat):Int))) (hF.ev 0 rfl) EvP.nil)))))))) (by kernel_rfl) _) 255 ?_
 refine zW 5 hH rfl (au (aG F i) (aO F i) (q+1)) ?_
 clear hH
 intro w hH
 refine aD (aN (ag (aC (zv (.add ((q+1:Nat):Int)) 3 ?_))))
 refine zv .mv 1 ?_
 refine aD ?_
 exact zR1 (q+1) ⟨hH,(by omega)⟩ (by omega)
 refine aJ (ak (ak (aR (ag ?_))))
 obtain rfl:q=64:=by omega
 have he71:(cWs 8).enc (upF 0 (bq (aG F i) (aO F i)) (aO F i))=(cWs 8).enc (aO F i):=aP (fun _ _=>by rw[bw])
 replace hH:HH w0 [] [[bl g1 22 ((ac 32).enc (fun _=>0))],[bl g2 118 ((cWs 8).enc (upF 0 (bq (aG F i) (aO F i)) (aO F i)))],[bl g3 119 ((cWs 64).enc K32)],[bl g10 5 cur12],[bl g17 119 ((cWs 64).enc (W32 (aG F i)))],[bl g50 118 ((cWs 8).enc (au (aG F i) (aO F i) 64))]] w:=by rw[he71];exact hH
 refine zr (zv .mv 11 ?_)
 refine zn (ai (zL1 (fun (q:Nat)=>[(214,(.int .i64 q)),(12,(.pointer (some ⟨g50,0,none⟩))),(6,(.int .i64 (((64*i):Nat):Int))),(5,(.slice (some ⟨g10,0,none⟩) ((pdM l).length) c7)),(4,(.pointer (some ⟨g3,0,none⟩))),(3,(.pointer (some ⟨g2,0,none⟩))),(2,(.pointer (some ⟨g1,0,none⟩)))]) (fun q w=>HH w0 [] [[bl g1 22 ((ac 32).enc (fun _=>0))],[bl g2 118 ((cWs 8).enc (upF q (bq (aG F i) (aO F i)) (aO F i)))],[bl g3 119 ((cWs 64).enc K32)],[bl g10 5 cur12],[bl g17 119 ((cWs 64).enc (W32 (aG F i)))],[bl g50 118 ((cWs 8).enc (au (aG F i) (aO F i) 64))]] w∧(q≤8)) (fun q=>8-q) 0 ⟨hH,(Nat.zero_le _)⟩ ?_))
 clear hH
 rintro q w ⟨hH,hq⟩
 refine zr (zv (.lt (q<8)) 0 ?_)
 refine zn (aj ?_)
 refine zP (fun hc72 => ?_) (fun hc72 => ?_)
 refine aA (ag (aj (ai (zr (zv .mv 1 ?_)))))
 refine zv .mv 1 ?_
 refine zn (br mixedOrders (by kernel_rfl) ?_)
 replace hH:=hH.drew
 refine rv 0 .mv 0 ?_
 refine rv 1 .mv 0 ?_
 have hi73:q<8:=by omega
 refine rv 2 (.ia 1 8 q (hi:=hi73)) 1 ?_
 refine rld 3 (hH.q 1 rfl) (.ld cWd ((upF q (bq (aG F i) (aO F i)) (aO F i)) q) (fun _ hS=>((ae hS).eltV hi73))) 1 ?_
 refine rv 4 .mv 4 ?_
 have hi74:q<8:=by omega
 refine rv 5 (.ia 1 8 q (hi:=hi74)) 1 ?_
 refine rld 6 (hH.q 5 rfl) (.ld cWd ((au (aG F i) (aO F i) 64) q) (fun _ hS=>((ae hS).eltV hi74))) 1 ?_
 refine rv 7 (.aw (bf ((upF q (bq (aG F i) (aO F i)) (aO F i)) q) ((au (aG F i) (aO F i) 64) q))) 3 ?_
 have hi75:q<8:=by omega
 refine rv 8 (.ia 1 8 q (hi:=hi75)) 2 ?_
 refine ao 9 ?_
 refine re0 9 1 hH rfl (.st cWd (bf ((upF q (bq (aG F i) (aO F i)) (aO F i)) q) ((au (aG F i) (aO F i) 64) q)) (aU (S:=sWd) (C:=(cWs 8)) rfl hi75) (bE (upF q (bq (aG F i) (aO F i)) (aO F i)) (bf ((upF q (bq (aG F i) (aO F i)) (aO F i)) q) ((au (aG F i) (aO F i) 64) q)) hi75)) trivial (pgo [] (pgo [] (.nil _ []))) ?_
 clear hH
 rintro _ _ w rfl hH
 refine ⟨an,bQ (by kernel_rfl) ?_⟩
 refine aN (ag (aC (zv (.add ((q+1:Nat):Int)) 7 ?_)))
 refine zv .mv 1 ?_
 refine aD ?_
 have he76:(cWs 8).enc (upF (q+1) (bq (aG F i) (aO F i)) (aO F i))=(cWs 8).enc (stF (upF q (bq (aG F i) (aO F i)) (aO F i)) q (bf ((upF q (bq (aG F i) (aO F i)) (aO F i)) q) ((au (aG F i) (aO F i) 64) q))):=aP (fun j _=>(congrFun (bi q (bq (aG F i) (aO F i)) (aO F i) (by rw[gP];rfl)) j).symm)
 replace hH:HH w0 [] [[bl g1 22 ((ac 32).enc (fun _=>0))],[bl g2 118 ((cWs 8).enc (upF (q+1) (bq (aG F i) (aO F i)) (aO F i)))],[bl g3 119 ((cWs 64).enc K32)],[bl g10 5 cur12],[bl g17 119 ((cWs 64).enc (W32 (aG F i)))],[bl g50 118 ((cWs 8).enc (au (aG F i) (aO F i) 64))]] w:=by rw[he76];exact hH
 exact zR1 (q+1) ⟨hH,(by omega)⟩ (by omega)
 refine aJ (ak (ak (aR (aN (ag ?_)))))
 obtain rfl:q=8:=by omega
 have he77:(cWs 8).enc (aO F (i+1))=(cWs 8).enc (upF 8 (bq (aG F i) (aO F i)) (aO F i)):=aP (fun j hj=>(bz _ _ hj).symm)
 replace hH:HH w0 [] [[bl g1 22 ((ac 32).enc (fun _=>0))],[bl g2 118 ((cWs 8).enc (aO F (i+1)))],[bl g3 119 ((cWs 64).enc K32)],[bl g10 5 cur12],[bl g17 119 ((cWs 64).enc (W32 (aG F i)))],[bl g50 118 ((cWs 8).enc (au (aG F i) (aO F i) 64))]] w:=by rw[he77];exact hH
 refine aC (zv .mv 15 ?_)
 refine zv (.add (((64*(i+1)):Nat):Int)) 1 ?_
 refine zv .mv 1 ?_
 refine aD ?_
 replace hH:HH w0 [] [[bl g1 22 ((ac 32).enc (fun _=>0))],[bl g2 118 ((cWs 8).enc (aO F (i+1)))],[bl g3 119 ((cWs 64).enc K32)],[bl g10 5 cur12]] w:=hH.only [true,true,true,true,false,false]
 exact zR1 (i+1) ⟨hH,(by omega)⟩ (by omega)
 refine aJ (ak (ak (aR (ag ?_))))
 obtain rfl:i=bY n:=by omega
 refine zr (zA hH (ac 32) (fun _=>0) 15 ?_)
 clear hH
 intro g78 w hH
 refine zn (aj ?_)
 have he79:(ac 32).enc (upF 0 (bX (aO F (bY n))) (fun _=>0))=(ac 32).enc (fun _=>0):=aB (fun _ _=>by rw[bw])
 replace hH:HH w0 [] [[bl g1 22 ((ac 32).enc (fun _=>0))],[bl g2 118 ((cWs 8).enc (aO F (bY n)))],[bl g3 119 ((cWs 64).enc K32)],[bl g10 5 cur12],[bl g78 22 ((ac 32).enc (upF 0 (bX (aO F (bY n))) (fun _=>0)))]] w:=by rw[he79];exact hH
 refine zr (zv .mv 0 ?_)
 refine zn (ai (zL1 (fun (m:Nat)=>[(227,(.int .i64 m)),(19,(.pointer (some ⟨g78,0,none⟩))),(3,(.pointer (some ⟨g2,0,none⟩))),(2,(.pointer (some ⟨g1,0,none⟩)))]) (fun m w=>HH w0 [] [[bl g1 22 ((ac 32).enc (fun _=>0))],[bl g2 118 ((cWs 8).enc (aO F (bY n)))],[bl g3 119 ((cWs 64).enc K32)],[bl g10 5 cur12],[bl g78 22 ((ac 32).enc (upF m (bX (aO F (bY n))) (fun _=>0)))]] w∧(m≤32)) (fun m=>32-m) 0 ⟨hH,(Nat.zero_le _)⟩ ?_))
 clear hH
 rintro m w ⟨hH,hm⟩
 refine zr (zv (.lt (m<32)) 0 ?_)
 refine zn (aj ?_)
 refine zP (fun hc80 => ?_) (fun hc80 => ?_)
 refine aA (ag (aj (ai (zr (zv .mv 1 ?_)))))
 refine zv .mv 1 ?_
 refine zn (aC (zv .mv 0 ?_))
 refine zv .mv 0 ?_
 refine zv (v:=(.int .i64 (((m/4):Nat):Int))) (fun _ _ hF=>cM (z:=((m/4:Nat):Int)) rfl (hF.ev 0 rfl) rfl (by omega) (wI dO (by omega) (by omega))) 1 ?_
 have hi81:m/4<8:=by omega
 refine zv (.ia 1 8 (m/4) (hi:=hi81)) 1 ?_
 refine zs (hH.q 1 rfl) (.ld cWd ((aO F (bY n)) (m/4)) (fun _ hS=>((ae hS).eltV hi81))) 1 ?_
 refine zv .mv 4 ?_
 refine zv (v:=(.int .i64 (((m%4):Nat):Int))) (fun _ _ hF=>bm (z:=((m%4:Nat):Int)) rfl (hF.ev 0 rfl) rfl (by omega) bW) 1 ?_
 refine zv (.mul ((8*(m%4):Nat):Int)) 1 ?_
 refine zv (.sub (((24-8*(m%4)):Nat):Int)) 1 ?_
 refine zv (.cu .u64) 1 ?_
 refine zv (.rw (24-8*(m%4))) 3 ?_
 refine zv .cb 1 ?_
 have hi82:m<32:=by omega
 refine zv (.ia 1 32 m (hi:=hi82)) 2 ?_
 refine ze0 4 hH rfl (.st af (UInt8.ofNat ((fU ((aO F (bY n)) (m/4)) (24-8*(m%4))).toNat)) (aU (S:=sBy) (C:=(ac 32)) rfl hi82) (aQ (upF m (bX (aO F (bY n))) (fun _=>0)) (UInt8.ofNat ((fU ((aO F (bY n)) (m/4)) (24-8*(m%4))).toNat)) hi82)) trivial ?_
 clear hH
 rintro _ _ w rfl hH
 refine aD (aN (ag (aC (zv (.add ((m+1:Nat):Int)) 7 ?_))))
 refine zv .mv 1 ?_
 refine aD ?_
 have he83:(ac 32).enc (upF (m+1) (bX (aO F (bY n))) (fun _=>0))=(ac 32).enc (stF (upF m (bX (aO F (bY n))) (fun _=>0)) m (UInt8.ofNat ((fU ((aO F (bY n)) (m/4)) (24-8*(m%4))).toNat))):=aB (fun j _=>(congrFun (bi m (bX (aO F (bY n))) (fun _=>0) (sg _ m)) j).symm)
 replace hH:HH w0 [] [[bl g1 22 ((ac 32).enc (fun _=>0))],[bl g2 118 ((cWs 8).enc (aO F (bY n)))],[bl g3 119 ((cWs 64).enc K32)],[bl g10 5 cur12],[bl g78 22 ((ac 32).enc (upF (m+1) (bX (aO F (bY n))) (fun _=>0)))]] w:=by rw[he83];exact hH
 exact zR1 (m+1) ⟨hH,(by omega)⟩ (by omega)
 refine aJ (ak (ak (aR (ag ?_))))
 obtain rfl:m=32:=by omega
 have he84:(ac 32).enc (bX (aO F (bY n)))=(ac 32).enc (upF 32 (bX (aO F (bY n))) (fun _=>0)):=aB (fun j hj=>(bz _ _ hj).symm)
 replace hH:HH w0 [] [[bl g1 22 ((ac 32).enc (fun _=>0))],[bl g2 118 ((cWs 8).enc (aO F (bY n)))],[bl g3 119 ((cWs 64).enc K32)],[bl g10 5 cur12],[bl g78 22 ((ac 32).enc (bX (aO F (bY n))))]] w:=by rw[he84];exact hH
 refine zr (zs (hH.q 4 rfl) (.l0 (ac 32) (bX (aO F (bY n)))) 15 ?_)
 refine zW 0 hH rfl (bX (aO F (bY n))) ?_
 clear hH
 intro w hH
 refine zn (ar (aI 1 (hH.blk 0 rfl) rfl rfl (by kernel_rfl) (Cod.size _ _) (by kernel_rfl) ?_))
 have he:bX (aO F (bY n))=sha l:=by rw[hF];subst hn;rfl
 rw[he]
 exact zE hH
def cyc(t:List UInt8)(n:Nat):List UInt8:=lst n fun j=>t.getD (j%t.length) 0
def hsh(t:List UInt8)(n i:Nat):List UInt8:=lst 32 (sha (List.replicate i 0++cyc t n))
section
variable{α:Type}{C:Cod α}{e:TypeId}{l:List α}{E:Hl}{cap:Nat}{cur:Array Value}
theorem Bk.head(h:Bk C cap cur l)(m:Nat):Bk C cap cur (l.take m):=by
 refine ⟨by rw[List.length_take];have:=h.le;omega,h.max,h.size,?_⟩
 apply List.ext_getElem?
 intro k
 rw[List.getElem?_take]
 by_cases hk:k<(l.take m).length*C.sz
 ·rw[if_pos hk]
  have hsz:0<C.sz:=by
   rcases Nat.eq_zero_or_pos C.sz with h0 | h0
   ·rw[h0,Nat.mul_zero]at hk;omega
   ·exact h0
  have hlt:k/C.sz<(l.take m).length:=(Nat.div_lt_iff_lt_mul hsz).2 hk
  have hmod:k%C.sz<C.sz:=Nat.mod_lt _ hsz
  obtain ⟨x,hx⟩:=ck _ _ hlt
  have hu:(C.enc x)[k%C.sz]?=some ((C.enc x)[k%C.sz]'(by rw[C.size];exact hmod)):=Array.getElem?_eq_getElem (by rw[C.size];exact hmod)
  have h1:=dk _ _ _ _ _ hx hu
  have hx':l[k/C.sz]?=some x:=by
   rw[List.getElem?_take]at hx
   split at hx
   ·exact hx
   ·cases hx
  have h2:=h.cell _ _ hx' hu
  rw[Nat.div_add_mod' k C.sz]at h1 h2
  rw[h1,Array.getElem?_toList,h2]
 ·rw[if_neg hk,List.getElem?_eq_none (by rw[bD];omega)]
theorem OwnT.head{A:Option Addr}{n c m:Nat}(h:OwnT C e (.slice A n c) l E)(hm:m≤l.length):OwnT C e (.slice A m c) (l.take m) E:=by
 rcases h.cases with ⟨h1,rfl,rfl⟩ | ⟨g,cap,cur,h1,rfl,hB⟩
 ·injection h1 with e1 e2 e3
  subst e1 e3
  obtain rfl:m=0:=by simpa using hm
  exact OwnT.nil _ _
 ·injection h1 with e1 e2 e3
  subst e1 e3
  exact (hB.head m).own e g (by rw[List.length_take];omega)
end
section
variable{α:Type}{C:Cod α}{P:Program}{a:Act}{o:Oper}{w:World}{x y:Operand}{ty tn e:TypeId}
theorem zi{n by_:Nat}{z:α}{kn kq:IntKind}(ho:o.op=.call { callee:=.builtin .append,args := #[x,y],argTypes := #[ty,tn] })
  (hu:P.underlying ty=some (.slice e)) (hn:P.underlying tn=some (.int kn)) (hi:(P.info? e).map (fun i=>(i.zero,i.size,i.bytes))=some (some (C.val z),C.sz,by_)) (hsz:0<C.sz)
  (hx:a.eval x=.slice none 0 0) (hy:a.eval y=.int kq (n:Int)) (h0:0<n) (hb:n*by_≤140737488355328) (h63:n≤maxLen) :
  cA P a o [] (fun _=>True) (fun v' E' => ∃ g cap cur,v'=.slice (some ⟨g,0,none⟩) n cap∧E'=[bl g e cur]∧Bk C cap cur []):=fun w _ _=>by
 obtain ⟨i,hi',h2⟩:=Option.map_eq_some_iff.1 hi
 simp only[Prod.mk.injEq]at h2
 obtain ⟨hz,hisz,rfl⟩:=h2
 have hr:=Lib.run_append_grow_zeros w ty tn o.type e i (C.val z) kq kn hu hn hi' hz none 0 0 [] (run_firstCells_none w.drew i.size 0 0 0) n h0 (by omega) (by omega) (by unfold maxLen at h63;omega) (by omega) (by rw[Nat.zero_add];exact growslice_fits (by omega) hb)
 rw[Nat.zero_add]at hr
 unfold execOp
 simp only[ho,resolve,invoke,builtin,Sem.run_bind,Sem.run_pure,Result.andThen_ok,List.map_toArray,List.map_cons,List.map_nil,hx,hy,hr]
 have hge:=grownCap_ge w n 0 e
 have hcm:=grownCap_le_maxLen w n 0 e h63
 have hcz:(C.val z).cells.size=C.sz:=C.len z
 have hold:Hold w [] [bl w.heap.size e (#[]++Builtin.zeroCells (C.val z).cells n++Builtin.zeroCells (C.val z).cells (grownCap w n 0 e-n))] (w.drew.alloc (.cells (#[]++Builtin.zeroCells (C.val z).cells n++Builtin.zeroCells (C.val z).cells (grownCap w n 0 e-n)) e)):=by
  have:=Has.new w.drew (.cells (#[]++Builtin.zeroCells (C.val z).cells n++Builtin.zeroCells (C.val z).cells (grownCap w n 0 e-n)) e)
  exact ⟨this.os,this.tape,this.output,this.size,this.blk,this.ne,fun x hx=>(this.own x hx).imp id (fun h=>(by cases h)),fun k hk _=>this.frame k hk (by simp)⟩
 refine ⟨_,⟨_,grownCap w n 0 e,_,rfl,rfl,⟨Nat.zero_le _,hcm,?_,by simp[be]⟩⟩,hold⟩
 simp only[Array.size_append,size_zeroCells,hcz,List.size_toArray,List.length_nil,Nat.zero_add]
 rw[← Nat.add_mul]
 congr 1
 omega
theorem dW{b off m h sz:Nat}{kh:IntKind}{jh:Int}{xh:Operand}(ho:o.op=.slice ty x none (some xh) none)(hu:P.underlying ty=some (.array m e))(hs:(P.info? e).map (·.size)=some sz)(hx:a.eval x=.pointer (some ⟨b,off,none⟩))(hh:a.eval xh=.int kh jh)(hjh:jh=(h:Int))(h2:h≤m):
  (execOp a.eval o).run P w=.ok (.value (.slice (some ⟨b,off,none⟩) h m)) w:=by
 subst hjh
 have he:=fZ hu
 have hn:=ii hu
 have hu':P.underlying ty=some (.array (P.arrayLen ty) (P.elem ty)):=by rw[he,hn];exact hu
 have hadd:(⟨b,off,none⟩:Addr).add (0*sz)=⟨b,off,none⟩:=by rw[Addr.add_mid];simp
 unfold execOp
 simp only[ho,Option.map_some,Option.map_none,hx,hh,Sem.run_bind,Sem.run_pure,run_sliceAt_array_h w ty ⟨b,off,none⟩ hu' kh (h:Int) (by omega) (by rw[hn];omega),he,hn,dE hs,Result.andThen_ok,slicedAt,Int.toNat_natCast,hadd,ite_self,Nat.sub_zero]
end
theorem df{ds:List (List UInt8)}{i:Nat}{l:List UInt8}(h:ds[i]?=some l):(ds.take i).flatten++l=(ds.take (i+1)).flatten:=by
 rw[List.take_add_one,h];simp
theorem eK{ds:List (List UInt8)}(i:Nat):(ds.take i).flatten.length≤ds.flatten.length:=by
 have:ds=ds.take i++ds.drop i:=(List.take_append_drop i ds).symm
 rw[congrArg List.flatten this,List.flatten_append,List.length_append];omega
section
variable{P:Program}{a:Act}{o:Oper}{w w0:World}{R:List Nat}{Hs:List Hl}{v:Value}{x y:Operand}{t t2 ty ty2 e:TypeId}{l m r:List UInt8}{g off:Nat}
theorem Bm{p:Prop}[Decidable p](ho:o.op=.binOp .eql t x y t2)(hx:a.eval x=.string (i5 l))(hy:a.eval y=.string (i5 m))(hp:l=m↔p):(execOp a.eval o).run P w=.ok (.value (.bool (decide p))) w :=
 AY ho hx hy (dc (nK.trans hp))
theorem ya{p:Prop}[Decidable p](ho:o.op=.binOp .neq t x y t2)(hx:a.eval x=.string (i5 l))(hy:a.eval y=.string (i5 m))(hp:l≠m↔p):(execOp a.eval o).run P w=.ok (.value (.bool (decide p))) w :=
 AZ ho hx hy (dc (Iff.trans (not_congr nK) hp))
theorem yb{n c:Nat}{A:Option Addr}(ho:o.op=.call { callee:=.builtin .cap,args := #[x],argTypes := #[ty] })(hu:P.underlying ty=some (.slice e))(hx:a.eval x=.slice A n c):(execOp a.eval o).run P w=.ok (.value (.int .i64 (c:Int))) w:=by
 unfold execOp;simp[ho,hx,resolve,invoke,builtin,Builtin.cap_,run_underlying hu,goInt]
theorem wl{n sz by_:Nat}{z:Value}{k k2:IntKind}{j:Int}{cs:Array Value}(ho:o.op=.makeSlice ty x y)(hu:P.underlying ty=some (.slice e))(hi:(P.info? e).map (fun i=>(i.zero,i.size,i.bytes))=some (some z,sz,by_))(hx:a.eval x=.int k 0)(hy:a.eval y=.int k2 j)(hj:j=(n:Int))(hb:by_*n≤281474976710656)(hn:n≤9223372036854775807)(hcs:madeCells z.cells (n*sz)=cs):
  cA P a o [] (fun _=>True) (fun v E' => ∃ g,v=.slice (some ⟨g,0,none⟩) 0 n∧E'=[bl g e cs]):=fun w _ _=>by
 subst hcs hj
 obtain ⟨i,hi',h2⟩:=Option.map_eq_some_iff.1 hi
 simp only[Prod.mk.injEq]at h2
 obtain ⟨hz,rfl,rfl⟩:=h2
 have hr:=run_make (P:=P) w ty e i z hu hi' hz k k2 0 n (by omega) (by omega) (by rw[← Int.natCast_mul];omega) (by omega)
 rw[Int.toNat_natCast]at hr
 unfold execOp
 simp only[ho,hx,hy,Sem.run_bind,Sem.run_pure,Result.andThen_ok,hr]
 exact ⟨_,⟨_,rfl,rfl⟩,Has.new w _⟩
theorem Bk.make0{α:Type}{C:Cod α}(z:α)(n:Nat)(hn:n≤maxLen):Bk C n (madeCells (C.enc z) (n*C.sz)) []:=⟨Nat.zero_le _,hn,by simp[madeCells],by simp[be]⟩
end
def ViewsL(w:World)(hs:List (Option Addr×Nat×Nat))(ds:List (List UInt8)):Prop := ∀ (i:Nat) (z:Option Addr×Nat×Nat),hs[i]?=some z → ∃ l:List UInt8,ds[i]?=some l∧Vu af w z.1 z.2.1 z.2.2 l
theorem ViewsL.nil{w:World}:ViewsL w [] []:=fun _ _ h=>by simp at h
theorem ViewsL.cons{w:World}{A:Option Addr}{n c:Nat}{l:List UInt8}{hs:List (Option Addr×Nat×Nat)}{ds:List (List UInt8)}(h:Vu af w A n c l)(t:ViewsL w hs ds):ViewsL w ((A,n,c)::hs) (l::ds)
 | 0,z,hz=>by
  obtain rfl:(A,n,c)=z:=by simpa using hz
  exact ⟨l,rfl,h⟩
 | i+1,z,hz=>t i z (by simpa using hz)
theorem zj(n:Nat)(hn:n≤140737488355328):Does Tryz.prog 63 #[(.slice none 0 0),(.int .i64 n)] [] (fun _=>True) (fun v E'=>OwnT af 5 v [] E'):=by
 refine dU Tryz.func63 Tryz.ntmps63 ?_
 intro w0 hH hR
 replace hH:HH w0 [] [] w0:=hH.only [false]
 refine zr (zv .mv 0 ?_)
 refine zn (aj (zr (zv .mv 1 ?_)))
 refine zv (v:=(.bool false)) (fun _ _ hF=>jv rfl (hF.ev 0 rfl) rfl (decide_eq_false (by omega))) 1 ?_
 refine zn (zF ?_)
 refine aA (ag (aj (zr (zv .mv 5 ?_))))
 refine zv .mv 0 ?_
 refine zv (v:=(.int .i64 0)) (fun _ _ hF=>yb (e:=5) rfl (by kernel_rfl) (hF.ev 0 rfl)) 1 ?_
 refine zv .mv 0 ?_
 refine zv .len 1 ?_
 refine zv (v:=(.int .i64 0)) (fun _ _ hF=>ju rfl (hF.ev 1 rfl) (hF.ev 0 rfl) (by decide)) 3 ?_
 refine zv (.sub ((n:Nat):Int)) 3 ?_
 refine zv .mv 1 ?_
 refine zn (zr (zv .mv 0 ?_))
 refine zv (.gt (n > 0)) 1 ?_
 refine zn ?_
 refine zP (fun hc1 => ?_) (fun hc1 => ?_)
 have hc0:0<n:=by omega
 refine aC (zv .mv 1 ?_)
 refine zv .mv 0 ?_
 refine zv (v:=(.int .i64 0)) (fun _ _ hF=>yb (e:=5) rfl (by kernel_rfl) (hF.ev 0 rfl)) 1 ?_
 refine zv (v:=(.slice none 0 0)) (fun _ _ hF=>eY (h:=0) (e:=5) (sz:=1) rfl (by kernel_rfl) (by kernel_rfl) (hF.ev 1 rfl) (hF.ev 0 rfl) rfl (by omega)) 3 ?_
 refine zv .mv 2 ?_
 refine zm hH (fun _ hF=>zi (kn:=.i64) (C:=af) (z:=0) (e:=5) (by_:=1) rfl (by kernel_rfl) (by kernel_rfl) (by kernel_rfl) (ltb rfl) (hF.ev 1 rfl) (hF.ev 0 rfl) hc0 (by omega) (by unfold maxLen;omega)) trivial 3 ?_
 clear hH
 rintro _ _ w ⟨g2,cap3,cur4,rfl,rfl,hB5⟩ hH
 refine zv .mv 2 ?_
 refine zv .len 1 ?_
 refine zv (v:=(.slice (some ⟨g2,0,none⟩) 0 cap3)) (fun _ _ hF=>eY (h:=0) (e:=5) (sz:=1) rfl (by kernel_rfl) (by kernel_rfl) (hF.ev 1 rfl) (hF.ev 0 rfl) rfl (by omega)) 3 ?_
 refine zv .mv 1 ?_
 refine zn (zr (zv .mv 1 ?_))
 refine zv .mv 1 ?_
 refine zn (ar (aW 0 rfl rfl ?_))
 exact ⟨_,_,rfl,hB5.own 5 g2 rfl,hH.out1 [true] rfl⟩
 refine aA (ag (zr (zv .mv 7 ?_)))
 refine zv .mv 1 ?_
 refine zn (ar (aW 0 rfl rfl ?_))
 exact ⟨_,_,rfl,OwnT.nil _ _,HH.out (HH.pad hH 1) [true]⟩
theorem iC(A:Option Addr)(n c:Nat)(hs:List (Option Addr×Nat×Nat))(ds:List (List UInt8))(hd:ds.length=n)(hn2:n≤1000)(hb:ds.flatten.length≤70368744177664):Does Tryz.prog 33 #[(.slice A n c)] [] (fun w=>Vu cSl w A n c hs∧ViewsL w hs ds) (fun v E'=>OwnT af 5 v ds.flatten E'):=by
 refine dU Tryz.func33 Tryz.ntmps33 ?_
 intro w0 hH hR
 replace hH:HH w0 [] [] w0:=hH.only [false]
 have hn:=hR.1.len;have hcap:=hR.1.cap
 refine zr (zv .mv 0 ?_)
 refine zn (zr (zv .mv 1 ?_))
 refine zn (aj (zr (zv .mv 0 ?_)))
 refine zv .len 0 ?_
 refine zv .mv 0 ?_
 refine zn (ai (zL1 (fun (i:Nat)=>[(11,(.int .i64 i)),(10,(.int .i64 n)),(9,(.slice A n c)),(3,(.int .i64 ((((ds.take i).flatten.length):Nat):Int))),(0,(.slice A n c))]) (fun i w=>HH w0 [] [] w∧(i≤n)) (fun i=>n-i) 0 ⟨hH,(Nat.zero_le _)⟩ ?_))
 clear hH
 rintro i w ⟨hH,hi⟩
 refine zr (zv (.lt (i<n)) 0 ?_)
 refine zn (aj ?_)
 refine zP (fun hc1 => ?_) (fun hc1 => ?_)
 refine aA (ag (aj (ai ?_)))
 obtain ⟨⟨A1,n1,c1⟩,hx1⟩:=ck hs i (by omega)
 obtain ⟨l1,hl1,hV1⟩:=hR.2 _ _ hx1
 obtain rfl:l1.length=n1:=hV1.len
 replace hV1:Vu af w0 A1 l1.length c1 l1:=hV1
 have hcap1:=hV1.cap
 have hfl1:=congrArg List.length (df hl1)
 rw[List.length_append]at hfl1
 have hle1:=eK (ds:=ds) (i+1)
 refine zr ?_
 have hi2:i<n:=by omega
 obtain ⟨b3,off4,rfl,hL5,hb6,hR7⟩:=hR.1.blk (by decide) (Off.nil _ _) (by omega)
 have:=hR.1.cap
 have hj10:i<hs.length:=by first | exact hi2 | (simp only[List.length_drop];omega) | (simp only[List.length_drop,List.length_take];omega) | omega
 refine zv (.ix 1 i (hi:=hi2)) 1 ?_
 refine zs (S:=fun w=>HoldsL cSl w b3 off4 hs) (hH.holdsL hL5 hb6 hR7) (.ld cSl (A1,l1.length,c1) (fun _ hS=>(hS i _ hx1)) (v:=(.slice A1 l1.length c1))) 1 ?_
 refine zv .mv 1 ?_
 refine zn (zr (zv .mv 16 ?_))
 refine zv .mv 2 ?_
 refine zv .len 1 ?_
 refine zv (.add ((((ds.take (i+1)).flatten.length):Nat):Int)) 3 ?_
 refine zv .mv 1 ?_
 refine zn (zr (zv .mv 0 ?_))
 refine zv (v:=(.bool false)) (fun _ _ hF=>jv rfl (hF.ev 0 rfl) rfl (decide_eq_false (by omega))) 1 ?_
 refine zn (zF ?_)
 refine aA (aN (ag (aC (zv (.add ((i+1:Nat):Int)) 5 ?_))))
 refine zv .mv 1 ?_
 refine aD ?_
 exact zR1 (i+1) ⟨hH,(by omega)⟩ (by omega)
 refine aJ (ak (ak (aR (ag ?_))))
 have hle0:=eK (ds:=ds) i
 refine zr (zv .mv 31 ?_)
 refine zm hH (.call Tryz.func63 ((zj ((ds.take i).flatten.length) (by omega)))) trivial 1 ?_
 clear hH
 rintro v15 E11 w hO12 hH
 obtain ⟨A13,c14,rfl⟩:=hO12.slice
 refine zv .mv 1 ?_
 refine zn (aj (zr (zv .mv 2 ?_)))
 refine zv .len 0 ?_
 refine zv .mv 0 ?_
 refine zn (ai (zL5 (fun (j:Nat) (A2:Option Addr) (c2:Nat) (L:List UInt8) (_:Hl)=>[(27,(.int .i64 j)),(26,(.int .i64 n)),(25,(.slice A n c)),(6,(.slice A2 L.length c2))]) (fun j A2 c2 L E2 w=>HH w0 [] [E2] w∧(j≤n)∧(OwnT af 5 (.slice A2 L.length c2) L E2)∧(L=(ds.take j).flatten)) (fun j _ _ _ _=>n-j) 0 A13 c14 ([]) E11 ⟨hH,(Nat.zero_le _),hO12,(by simp)⟩ ?_))
 clear hH
 rintro j A2 c2 L E2 w ⟨hH,hj,hO,hL⟩
 refine zr (zv (.lt (j<n)) 0 ?_)
 refine zn (aj ?_)
 refine zP (fun hc17 => ?_) (fun hc17 => ?_)
 refine aA (ag (aj (ai ?_)))
 have hLl:=congrArg List.length hL
 obtain ⟨⟨A1,n1,c1⟩,hx1⟩:=ck hs j (by omega)
 obtain ⟨l1,hl1,hV1⟩:=hR.2 _ _ hx1
 obtain rfl:l1.length=n1:=hV1.len
 replace hV1:Vu af w0 A1 l1.length c1 l1:=hV1
 have hcap1:=hV1.cap
 have hfl1:=congrArg List.length (df hl1)
 rw[List.length_append]at hfl1
 have hle1:=eK (ds:=ds) (j+1)
 refine zr ?_
 have hi18:j<n:=by omega
 obtain ⟨b19,off20,rfl,hL21,hb22,hR23⟩:=hR.1.blk (by decide) (Off.nil _ _) (by omega)
 have:=hR.1.cap
 have hj26:j<hs.length:=by first | exact hi18 | (simp only[List.length_drop];omega) | (simp only[List.length_drop,List.length_take];omega) | omega
 refine zv (.ix 1 j (hi:=hi18)) 1 ?_
 refine zs (S:=fun w=>HoldsL cSl w b19 off20 hs) (hH.holdsL hL21 hb22 hR23) (.ld cSl (A1,l1.length,c1) (fun _ hS=>(hS j _ hx1)) (v:=(.slice A1 l1.length c1))) 1 ?_
 refine zv .mv 1 ?_
 refine zn (aC (zv .mv 16 ?_))
 refine zv .mv 2 ?_
 refine ze 0 hH rfl (fun _ hF=>cf (C:=af) (l:=L) (m:=l1) (e:=5) (z:=(.int .u8 0)) (by_:=1) rfl (by kernel_rfl) (by kernel_rfl) rfl (ltb rfl) (hF.ev 1 rfl) hO (hF.ev 0 rfl) rfl (fun h=>⟨by have:=hV1.nil h;have:=hV1.cap;omega,hV1.nil h⟩) (by unfold maxLen;omega) (by omega)) (hH.vu hV1 (by decide) (Off.nil _ _)) 3 ?_
 clear hH
 rintro v29 E30 w ⟨hO31,_⟩ hH
 replace hO31:OwnT af 5 v29 (L++l1) E30:=hO31
 obtain ⟨A27,c28,rfl⟩:=hO31.slice
 refine zv .mv 1 ?_
 refine aD (aN (ag (aC (zv (.add ((j+1:Nat):Int)) 2 ?_))))
 refine zv .mv 1 ?_
 refine aD ?_
 exact zR5 (j+1) A27 c28 (L++l1) E30 ⟨hH,(by omega),hO31,(by rw[hL];exact df hl1)⟩ (by omega)
 refine aJ (ak (ak (aR (ag (zr (zv .mv 31 ?_))))))
 refine zv .mv 1 ?_
 refine zn (ar (aW 0 rfl rfl ?_))
 have hjn:j=n:=by omega
 rw[hjn,List.take_of_length_le (by omega)]at hL
 exact ⟨_,_,rfl,hL▸hO,hH.out1 [true] rfl⟩
theorem qx(A:Option Addr)(n c:Nat)(l:List UInt8)(h64:n≤64)(y:UInt8):Does Tryz.prog 103 #[(.slice A n c),(.int .u8 y.toNat)] [] (fun w=>w.heap[3]?=some (.cells ((cWs 64).enc K32) 119 (0,0))∧w.heap[2]?=some (.cells ((cWs 8).enc H32) 118 (0,0))∧Vu af w A n c l) (fun v E' => ∃ g,v=jI g∧HaAt g (dv l y) E'):=by
 refine dU Tryz.func103 Tryz.ntmps103 ?_
 intro w0 hH hR
 replace hH:HH w0 [] [] w0:=hH.only [false]
 have hn:=hR.2.2.len
 refine zr (zv .mv 0 ?_)
 refine zn (zr (zA hH (ac 64) (fun _=>0) 1 ?_))
 clear hH
 intro g1 w hH
 refine zn (zr (zv (v:=(.slice (some ⟨g1,0,none⟩) 64 64)) (fun _ _ hF=>aV (n:=64) (e:=5) (sz:=1) rfl (by kernel_rfl) (by kernel_rfl) (hF.ev 0 rfl)) 0 ?_))
 refine zv .mv 4 ?_
 refine ze 0 hH rfl (fun _ hF=>eg (C:=af) (m:=l) (e:=5) n (Nat.min_eq_left h64) rfl (by kernel_rfl) (by kernel_rfl) (ltb rfl) (hF.ev 1 rfl) (hF.ev 0 rfl) hn (by rw[Cod.size];show 0+n*1≤64;omega) (gn _ _)) (hH.vu hR.2.2 (by decide) (Off.nil _ _)) 3 ?_
 clear hH
 rintro _ _ w ⟨rfl,rfl⟩ hH
 refine zn (aj ?_)
 replace hH:HH w0 [] [[bl g1 93 ((ac 64).enc (mkx y 0 (ovr (l.take n) fun _=>0)))]] w:=by rw[← Bj y (ovr (l.take n) fun _=>0)]at hH;exact hH
 refine zr (zv .mv 1 ?_)
 refine zn (ai (zL1 (fun (i:Nat)=>[(11,(.int .i64 i)),(5,(.pointer (some ⟨g1,0,none⟩))),(1,(.int .u8 y.toNat))]) (fun i w=>HH w0 [] [[bl g1 93 ((ac 64).enc (mkx y i (ovr (l.take n) fun _=>0)))]] w∧(i≤64)) (fun i=>64-i) 0 ⟨hH,(Nat.zero_le _)⟩ ?_))
 clear hH
 rintro i w ⟨hH,hi⟩
 refine zr (zv (.lt (i<64)) 0 ?_)
 refine zn (aj ?_)
 refine zP (fun hc2 => ?_) (fun hc2 => ?_)
 refine aA (ag (aj (ai (zr (zv .mv 1 ?_)))))
 refine zv .mv 1 ?_
 refine zn (aC (zv .mv 1 ?_))
 have hi3:i<64:=by omega
 refine zv (.ia 1 64 i (hi:=hi3)) 0 ?_
 refine zs (hH.q 0 rfl) (.ld af ((mkx y i (ovr (l.take n) fun _=>0)) i) (fun _ hS=>((ae hS).elt hi3))) 1 ?_
 refine zv .mv 0 ?_
 refine zv (.xb (((mkx y i (ovr (l.take n) fun _=>0)) i)^^^y) (u:=((mkx y i (ovr (l.take n) fun _=>0)) i)) (v:=y)) 3 ?_
 have hi4:i<64:=by omega
 refine zv (.ia 1 64 i (hi:=hi4)) 2 ?_
 refine ze0 0 hH rfl (.st af (((mkx y i (ovr (l.take n) fun _=>0)) i)^^^y) (aU (S:=sBy) (C:=(ac 64)) rfl hi4) (aQ (mkx y i (ovr (l.take n) fun _=>0)) (((mkx y i (ovr (l.take n) fun _=>0)) i)^^^y) hi4)) trivial ?_
 clear hH
 rintro _ _ w rfl hH
 refine aD (aN (ag ?_))
 replace hH:HH w0 [] [[bl g1 93 ((ac 64).enc (mkx y (i+1) (ovr (l.take n) fun _=>0)))]] w:=by rw[tS]at hH;exact hH
 refine aC (zv (.add ((i+1:Nat):Int)) 7 ?_)
 refine zv .mv 1 ?_
 refine aD ?_
 exact zR1 (i+1) ⟨hH,(by omega)⟩ (by omega)
 refine aJ (ak (ak (aR (ag ?_))))
 obtain rfl:i=64:=by omega
 refine zr (zm hH (.call Tryz.func107 (x6)) (hH.oldBlk hR.2.1 (by simp)) 11 ?_)
 clear hH
 rintro _ E6 w ⟨g5,rfl,hHa7⟩ hH
 refine zv .mv 1 ?_
 refine zn (zr (zv .mv 0 ?_))
 refine zv (v:=(.slice (some ⟨g1,0,none⟩) 64 64)) (fun _ _ hF=>aV (n:=64) (e:=5) (sz:=1) rfl (by kernel_rfl) (by kernel_rfl) (hF.ev 2 rfl)) 4 ?_
 refine ze 1 hH rfl (.call Tryz.func104 (jU g5 ([]) (lst 64 (mkx y 64 (ovr (l.take n) fun _=>0))) E6 hHa7 (some ⟨g1,0,none⟩) 64 64 (by simp[ap]))) (⟨(hH.oldBlk hR.1 (by simp)),(bp (hH.blk 0 rfl)),hHa7.bks▸(hH.off2 1 0 rfl rfl rfl)⟩) 3 ?_
 clear hH
 rintro _ E8 w ⟨rfl,hHa9⟩ hH
 refine zn (zr (zv .mv 3 ?_))
 refine zv .mv 1 ?_
 refine zn (ar (aW 0 rfl rfl ?_))
 exact ⟨_,_,rfl,⟨_,rfl,qu hn y▸hHa9⟩,hH.out1 [false,true] rfl⟩
theorem yc(A:Option Addr)(n c:Nat)(l:List UInt8)(h64:n≤64)(B:Option Addr)(k d:Nat)(hs:List (Option Addr×Nat×Nat))(ds:List (List UInt8))(hd:ds.length=k)(hk:k≤1000)(hb:ds.flatten.length≤70368744177664):Pure Tryz.prog 64 #[(.slice A n c),(.slice B k d)] (fun w=>w.heap[3]?=some (.cells ((cWs 64).enc K32) 119 (0,0))∧w.heap[2]?=some (.cells ((cWs 8).enc H32) 118 (0,0))∧Vu af w A n c l∧Vu cSl w B k d hs∧ViewsL w hs ds) ((ac 32).val (aM l ds.flatten)):=by
 refine pU Tryz.func64 Tryz.ntmps64 ?_
 intro w0 hH hR
 have hn:=hR.2.2.1.len;have hkl:=hR.2.2.2.1.len
 refine zr (zA hH (ac 32) (fun _=>0) 0 ?_)
 clear hH
 intro g1 w hH
 refine zn (aj (zr (zv .mv 0 ?_)))
 refine zv .len 1 ?_
 refine zv (.gt (n > 64)) 1 ?_
 refine zn ?_
 refine zP (fun hc2 => ?_) (fun hc2 => ?_)
 exact absurd h64 (by omega)
 refine aA (ag (zr (zv .mv 1 ?_)))
 refine zm hH (.call Tryz.func103 (qx A n c l h64 54)) (⟨(hH.oldBlk hR.1 (by simp)),(hH.oldBlk hR.2.1 (by simp)),(hH.vu hR.2.2.1 (by decide) (Off.nil _ _))⟩) 1 ?_
 clear hH
 rintro _ E4 w ⟨g3,rfl,hHa5⟩ hH
 refine zv .mv 1 ?_
 refine zn (aj (zr (zv .mv 8 ?_)))
 refine zv .len 0 ?_
 refine zv .mv 0 ?_
 refine zn (ai (zL2 (fun (i:Nat) (_:Hl)=>[(21,(.int .i64 i)),(20,(.int .i64 k)),(19,(.slice B k d)),(6,(.pointer (some ⟨g3,0,none⟩))),(4,(.pointer (some ⟨g1,0,none⟩))),(0,(.slice A n c))]) (fun i E1 w=>HH w0 [] [[bl g1 22 ((ac 32).enc (fun _=>0))],E1] w∧(i≤k)∧(HaAt g3 (dv l 54++(ds.take i).flatten) E1)) (fun i _=>k-i) 0 E4 ⟨hH,(Nat.zero_le _),(by rw[List.take_zero,List.flatten_nil,List.append_nil];exact hHa5)⟩ ?_))
 clear hH
 rintro i E1 w ⟨hH,hi,hHa⟩
 refine zr (zv (.lt (i<k)) 0 ?_)
 refine zn (aj ?_)
 refine zP (fun hc6 => ?_) (fun hc6 => ?_)
 refine aA (ag (aj (ai ?_)))
 obtain ⟨⟨A1,n1,c1⟩,hx1⟩:=ck hs i (by omega)
 obtain ⟨l1,hl1,hV1⟩:=hR.2.2.2.2 _ _ hx1
 obtain rfl:l1.length=n1:=hV1.len
 replace hV1:Vu af w0 A1 l1.length c1 l1:=hV1
 have hfl1:=congrArg List.length (df hl1)
 rw[List.length_append]at hfl1
 have hle1:=eK (ds:=ds) (i+1)
 refine zr ?_
 have hi7:i<k:=by omega
 obtain ⟨b8,off9,rfl,hL10,hb11,hR12⟩:=hR.2.2.2.1.blk (by decide) (Off.nil _ _) (by omega)
 have:=hR.2.2.2.1.cap
 have hj15:i<hs.length:=by first | exact hi7 | (simp only[List.length_drop];omega) | (simp only[List.length_drop,List.length_take];omega) | omega
 refine zv (.ix 1 i (hi:=hi7)) 1 ?_
 refine zs (S:=fun w=>HoldsL cSl w b8 off9 hs) (hH.holdsL hL10 hb11 hR12) (.ld cSl (A1,l1.length,c1) (fun _ hS=>(hS i _ hx1)) (v:=(.slice A1 l1.length c1))) 1 ?_
 refine zv .mv 1 ?_
 refine zn (aC (zv .mv 0 ?_))
 refine zv .mv 2 ?_
 refine ze 1 hH rfl (.call Tryz.func104 (jU g3 (dv l 54++(ds.take i).flatten) l1 E1 hHa A1 l1.length c1 (by rw[List.length_append,en];omega))) (⟨(hH.oldBlk hR.1 (by simp)),(hH.vu hV1 (by decide) (Off.nil _ _)),hHa.bks▸(hH.off 1 rfl hV1 (by decide) (Off.nil _ _))⟩) 3 ?_
 clear hH
 rintro _ E16 w ⟨rfl,hHa17⟩ hH
 refine aD (aN (ag (aC (zv (.add ((i+1:Nat):Int)) 3 ?_))))
 refine zv .mv 1 ?_
 refine aD ?_
 exact zR2 (i+1) E16 ⟨hH,(by omega),(by rw[← df hl1,← List.append_assoc];exact hHa17)⟩ (by omega)
 refine aJ (ak (ak (aR (ag ?_))))
 obtain rfl:i=k:=by omega
 rw[List.take_of_length_le (by omega)]at hHa
 refine zr (zv .mv 31 ?_)
 refine ze 1 hH rfl (.call Tryz.func105 (tL g3 (dv l 54++ds.flatten) E1 hHa (by rw[List.length_append,en];first | omega | (rw[ap];decide)))) (hH.oldBlk hR.1 (by simp)) 1 ?_
 clear hH
 rintro _ _ w ⟨rfl,rfl⟩ hH
 refine zA hH (ac 32) (fun _=>0) 0 ?_
 clear hH
 intro g18 w hH
 refine zW 2 hH rfl (sha (dv l 54++ds.flatten)) ?_
 clear hH
 intro w hH
 refine zn (zr (zv .mv 10 ?_))
 refine zm hH (.call Tryz.func103 (qx A n c l h64 92)) (⟨(hH.oldBlk hR.1 (by simp)),(hH.oldBlk hR.2.1 (by simp)),(hH.vu hR.2.2.1 (by decide) (Off.nil _ _))⟩) 1 ?_
 clear hH
 rintro _ E20 w ⟨g19,rfl,hHa21⟩ hH
 refine zv .mv 1 ?_
 refine zn (zr (zv .mv 0 ?_))
 refine zv (v:=(.slice (some ⟨g18,0,none⟩) 32 32)) (fun _ _ hF=>aV (n:=32) (e:=5) (sz:=1) rfl (by kernel_rfl) (by kernel_rfl) (hF.ev 2 rfl)) 4 ?_
 refine ze 3 hH rfl (.call Tryz.func104 (jU g19 (dv l 92) (lst 32 (sha (dv l 54++ds.flatten))) E20 hHa21 (some ⟨g18,0,none⟩) 32 32 (by rw[en,ap];decide))) (⟨(hH.oldBlk hR.1 (by simp)),(bp (hH.blk 2 rfl)),hHa21.bks▸(hH.off2 3 2 rfl rfl rfl)⟩) 3 ?_
 clear hH
 rintro _ E22 w ⟨rfl,hHa23⟩ hH
 refine zn (zr (zv .mv 3 ?_))
 refine ze 3 hH rfl (.call Tryz.func105 (tL g19 ((dv l 92)++(lst 32 (sha (dv l 54++ds.flatten)))) E22 hHa23 (by rw[List.length_append,en];first | omega | (rw[ap];decide)))) (hH.oldBlk hR.1 (by simp)) 1 ?_
 clear hH
 rintro _ _ w ⟨rfl,rfl⟩ hH
 refine zW 0 hH rfl (sha ((dv l 92)++(lst 32 (sha (dv l 54++ds.flatten))))) ?_
 clear hH
 intro w hH
 refine zn (ar (aI 1 (hH.blk 0 rfl) rfl rfl (by kernel_rfl) (Cod.size _ _) (by kernel_rfl) ?_))
 exact ⟨by unfold aM;rw[iz (show ¬ 64<l.length by omega)];rfl,HH.toBelow hH⟩
theorem jc(A:Option Addr)(n c:Nat)(l:List UInt8)(h64:n≤64)(B:Option Addr)(k d:Nat)(m:List UInt8)(hb:k≤70368744177664):Pure Tryz.prog 81 #[(.slice A n c),(.slice B k d)] (fun w=>Vu af w A n c l∧Vu af w B k d m) ((ac 32).val (aM l m)):=by
 refine pU Tryz.func81 Tryz.ntmps81 ?_
 intro w0 hH hR
 have hn:=hR.1.len;have hm:=hR.2.len
 refine zr (zA hH (ac 32) (fun _=>0) 0 ?_)
 clear hH
 intro g1 w hH
 refine zn (zr (zA hH (ac 64) (fun _=>0) 0 ?_))
 clear hH
 intro g2 w hH
 refine zn (aj (zr (zv .mv 0 ?_)))
 refine zv .len 1 ?_
 refine zv (.gt (n > 64)) 1 ?_
 refine zn ?_
 refine zP (fun hc3 => ?_) (fun hc3 => ?_)
 exact absurd h64 (by omega)
 refine aC (zv (v:=(.slice (some ⟨g2,0,none⟩) 64 64)) (fun _ _ hF=>aV (n:=64) (e:=5) (sz:=1) rfl (by kernel_rfl) (by kernel_rfl) (hF.ev 1 rfl)) 1 ?_)
 refine zv .mv 8 ?_
 refine ze 1 hH rfl (fun _ hF=>eg (C:=af) (m:=l) (e:=5) n (Nat.min_eq_left h64) rfl (by kernel_rfl) (by kernel_rfl) (ltb rfl) (hF.ev 1 rfl) (hF.ev 0 rfl) hn (by rw[Cod.size];show 0+n*1≤64;omega) (gn _ _)) (hH.vu hR.1 (by decide) (Off.nil _ _)) 3 ?_
 clear hH
 rintro _ _ w ⟨rfl,rfl⟩ hH
 refine zn (zr (zv .mv 1 ?_))
 refine zv .mv 0 ?_
 refine zn (aj (zr (zv .mv 0 ?_)))
 refine zn (ai ?_)
 replace hH:=HH.pad hH 1
 replace hH:HH w0 [] [[bl g1 22 ((ac 32).enc (fun _=>0))],[bl g2 93 ((ac 64).enc (ovr (l.take n) (fun _=>0)))],[]] w:=hH
 replace hH:=HH.pad hH 1
 replace hH:HH w0 [] [[bl g1 22 ((ac 32).enc (fun _=>0))],[bl g2 93 ((ac 64).enc (ovr (l.take n) (fun _=>0)))],[],[]] w:=hH
 refine zL9 (fun (i:Nat) (A1:Option Addr) (c1:Nat) (L:List UInt8) (_:Hl) (A2:Option Addr) (c2:Nat) (M:List UInt8) (_:Hl)=>[(22,(.int .i64 i)),(8,(.slice A2 M.length c2)),(7,(.slice A1 L.length c1)),(5,(.pointer (some ⟨g2,0,none⟩))),(4,(.pointer (some ⟨g1,0,none⟩))),(1,(.slice B k d))]) (fun i A1 c1 L E1 A2 c2 M E2 w=>HH w0 [] [[bl g1 22 ((ac 32).enc (fun _=>0))],[bl g2 93 ((ac 64).enc (ovr (l.take n) (fun _=>0)))],E1,E2] w∧(i≤64)∧(OwnT af 5 (.slice A1 L.length c1) L E1)∧(L=lst i (fun j=>(ovr (l.take n) fun _=>0) j^^^54))∧(OwnT af 5 (.slice A2 M.length c2) M E2)∧(M=lst i (fun j=>(ovr (l.take n) fun _=>0) j^^^92))) (fun i _ _ _ _ _ _ _ _=>64-i) 0 none 0 ([]) ([]) none 0 ([]) ([]) ⟨hH,(Nat.zero_le _),(OwnT.nil _ _),rfl,(OwnT.nil _ _),rfl⟩ ?_
 clear hH
 rintro i A1 c1 L E1 A2 c2 M E2 w ⟨hH,hi,hO,hL,hP,hM⟩
 refine zr (zv (.lt (i<64)) 0 ?_)
 refine zn (aj ?_)
 refine zP (fun hc4 => ?_) (fun hc4 => ?_)
 refine aA (ag (aj (ai ?_)))
 have hLl:=congrArg List.length hL
 have hMl:=congrArg List.length hM
 rw[ap]at hLl hMl
 refine zr (zv .mv 1 ?_)
 refine zv .mv 1 ?_
 refine zn (zr (zv .mv 8 ?_))
 refine zv .mv 0 ?_
 have hi5:i<64:=by omega
 refine zv (.ia 1 64 i (hi:=hi5)) 1 ?_
 refine zs (hH.q 1 rfl) (.ld af ((ovr (l.take n) (fun _=>0)) i) (fun _ hS=>((ae hS).elt hi5))) 1 ?_
 refine zv (.xb (((ovr (l.take n) (fun _=>0)) i)^^^(54:UInt8)) (u:=((ovr (l.take n) (fun _=>0)) i)) (v:=(54:UInt8))) 1 ?_
 refine zm hH (fun _ hF=>cx (e:=5) (sz:=1) (z:=(.int .u8 0)) (by_:=1) (cs:=af.enc (((ovr (l.take n) (fun _=>0)) i)^^^(54:UInt8))) rfl (by kernel_rfl) (by kernel_rfl) (hF.ev 0 rfl) (af.len (((ovr (l.take n) (fun _=>0)) i)^^^(54:UInt8))) (ltb rfl) (leb rfl) rfl) trivial 1 ?_
 clear hH
 rintro _ _ w ⟨g6,rfl,rfl⟩ hH
 refine ze 2 hH rfl (fun _ hF=>cf (C:=af) (l:=L) (m:=[(((ovr (l.take n) (fun _=>0)) i)^^^(54:UInt8))]) (e:=5) (z:=(.int .u8 0)) (by_:=1) rfl (by kernel_rfl) (by kernel_rfl) rfl (ltb rfl) (hF.ev 1 rfl) hO (hF.ev 0 rfl) rfl (fun h=>by cases h) (by unfold maxLen;omega) (by omega)) ((Bk.lit1 (C:=af) (((ovr (l.take n) (fun _=>0)) i)^^^(54:UInt8))).vu (n:=1) (hH.blk 4 rfl) rfl) 3 ?_
 clear hH
 rintro v9 E10 w ⟨hO11,_⟩ hH
 replace hO11:OwnT af 5 v9 (L++[(((ovr (l.take n) (fun _=>0)) i)^^^(54:UInt8))]) E10:=hO11
 obtain ⟨A7,c8,rfl⟩:=hO11.slice
 refine zv .mv 1 ?_
 refine zn (aC (zv .mv 8 ?_))
 refine zv .mv 4 ?_
 have hi12:i<64:=by omega
 refine zv (.ia 1 64 i (hi:=hi12)) 1 ?_
 refine zs (hH.q 1 rfl) (.ld af ((ovr (l.take n) (fun _=>0)) i) (fun _ hS=>((ae hS).elt hi12))) 1 ?_
 refine zv (.xb (((ovr (l.take n) (fun _=>0)) i)^^^(92:UInt8)) (u:=((ovr (l.take n) (fun _=>0)) i)) (v:=(92:UInt8))) 1 ?_
 refine zm hH (fun _ hF=>cx (e:=5) (sz:=1) (z:=(.int .u8 0)) (by_:=1) (cs:=af.enc (((ovr (l.take n) (fun _=>0)) i)^^^(92:UInt8))) rfl (by kernel_rfl) (by kernel_rfl) (hF.ev 0 rfl) (af.len (((ovr (l.take n) (fun _=>0)) i)^^^(92:UInt8))) (ltb rfl) (leb rfl) rfl) trivial 1 ?_
 clear hH
 rintro _ _ w ⟨g13,rfl,rfl⟩ hH
 refine ze 3 hH rfl (fun _ hF=>cf (C:=af) (l:=M) (m:=[(((ovr (l.take n) (fun _=>0)) i)^^^(92:UInt8))]) (e:=5) (z:=(.int .u8 0)) (by_:=1) rfl (by kernel_rfl) (by kernel_rfl) rfl (ltb rfl) (hF.ev 1 rfl) hP (hF.ev 0 rfl) rfl (fun h=>by cases h) (by unfold maxLen;omega) (by omega)) ((Bk.lit1 (C:=af) (((ovr (l.take n) (fun _=>0)) i)^^^(92:UInt8))).vu (n:=1) (hH.blk 5 rfl) rfl) 3 ?_
 clear hH
 rintro v16 E17 w ⟨hO18,_⟩ hH
 replace hO18:OwnT af 5 v16 (M++[(((ovr (l.take n) (fun _=>0)) i)^^^(92:UInt8))]) E17:=hO18
 obtain ⟨A14,c15,rfl⟩:=hO18.slice
 refine zv .mv 1 ?_
 refine aD (aN (ag (aC (zv (.add ((i+1:Nat):Int)) 4 ?_))))
 refine zv .mv 1 ?_
 refine aD ?_
 replace hH:HH w0 [] [[bl g1 22 ((ac 32).enc (fun _=>0))],[bl g2 93 ((ac 64).enc (ovr (l.take n) (fun _=>0)))],E10,E17] w:=hH.only [true,true,true,true,false,false]
 exact zR9 (i+1) A7 c8 (L++[(((ovr (l.take n) (fun _=>0)) i)^^^(54:UInt8))]) E10 A14 c15 (M++[(((ovr (l.take n) (fun _=>0)) i)^^^(92:UInt8))]) E17 ⟨hH,(by omega),hO11,(by rw[hL,iu]),hO18,(by rw[hM,iu])⟩ (by omega)
 refine aJ (ak (ak (aR (ag ?_))))
 obtain rfl:i=64:=by omega
 rw[Bl hn]at hL hM
 subst hL hM
 have hx1:=en l 54
 have hx2:=en l 92
 refine zr (zv .mv 27 ?_)
 refine zv .mv 8 ?_
 refine ze 2 hH rfl (fun _ hF=>cf (C:=af) (l:=(dv l 54)) (m:=m) (e:=5) (z:=(.int .u8 0)) (by_:=1) rfl (by kernel_rfl) (by kernel_rfl) rfl (ltb rfl) (hF.ev 1 rfl) hO (hF.ev 0 rfl) hm (fun h=>⟨by have:=hR.2.nil h;have:=hR.2.cap;omega,hR.2.nil h⟩) (by unfold maxLen;omega) (by omega)) (hH.vu hR.2 (by decide) (Off.nil _ _)) 3 ?_
 clear hH
 rintro v21 E22 w ⟨hO23,_⟩ hH
 replace hO23:OwnT af 5 v21 ((dv l 54)++m) E22:=hO23
 obtain ⟨A19,c20,rfl⟩:=hO23.slice
 refine zc Tryz.func45 (pa A19 (((dv l 54)++m).length) c20 ((dv l 54)++m) (by rw[List.length_append,en];first | omega | (rw[ap];decide))) (hO23.vuAt (hH.has 2 rfl)) hH 1 ?_
 clear hH
 intro w hH
 refine zA hH (ac 32) (fun _=>0) 0 ?_
 clear hH
 intro g24 w hH
 refine zW 4 hH rfl (sha ((dv l 54)++m)) ?_
 clear hH
 intro w hH
 refine zn (zr (zv .mv 6 ?_))
 refine zv (v:=(.slice (some ⟨g24,0,none⟩) 32 32)) (fun _ _ hF=>aV (n:=32) (e:=5) (sz:=1) rfl (by kernel_rfl) (by kernel_rfl) (hF.ev 1 rfl)) 2 ?_
 refine ze 3 hH rfl (fun _ hF=>cf (C:=af) (l:=(dv l 92)) (m:=(lst 32 (sha ((dv l 54)++m)))) (e:=5) (z:=(.int .u8 0)) (by_:=1) rfl (by kernel_rfl) (by kernel_rfl) rfl (ltb rfl) (hF.ev 1 rfl) hP (hF.ev 0 rfl) rfl (fun h=>by cases h) (by unfold maxLen;omega) (by omega)) (bp (hH.blk 4 rfl)) 3 ?_
 clear hH
 rintro v27 E28 w ⟨hO29,_⟩ hH
 replace hO29:OwnT af 5 v27 ((dv l 92)++(lst 32 (sha ((dv l 54)++m)))) E28:=hO29
 obtain ⟨A25,c26,rfl⟩:=hO29.slice
 refine zc Tryz.func45 (pa A25 (((dv l 92)++(lst 32 (sha ((dv l 54)++m)))).length) c26 ((dv l 92)++(lst 32 (sha ((dv l 54)++m)))) (by rw[List.length_append,en];first | omega | (rw[ap];decide))) (hO29.vuAt (hH.has 3 rfl)) hH 1 ?_
 clear hH
 intro w hH
 refine zW 0 hH rfl (sha ((dv l 92)++(lst 32 (sha ((dv l 54)++m))))) ?_
 clear hH
 intro w hH
 refine zn (ar (aI 1 (hH.blk 0 rfl) rfl rfl (by kernel_rfl) (Cod.size _ _) (by kernel_rfl) ?_))
 exact ⟨by unfold aM;rw[iz (show ¬ 64<l.length by omega)];rfl,HH.toBelow hH⟩
section
variable{P:Program}{o:Oper}{n:Sz}{l:aS}{v z:Value}{x y:Operand}{ty t t2:TypeId}{g k:Nat}{cs cs' xs:Array Value}{kk yk:IntKind}{m j q:Nat}
theorem Vs.lr(k:Nat)(ho:o.op=.load ty x:=by exact rfl)(hx:vo l x=some (.pointer (some ⟨g,0,none⟩)):=by exact rfl)(hty:((P.underlying ty).map (·.isRow) == some true&&(P.info? ty).map (·.size) == some k)=true:=by kernel_rfl)(hk:Nat.beq cs.size k=true:=by exact rfl):Vs P n l (nM g (.cells cs t (0,0))) o (.agg cs):=fun _ _ hF hS=>by
 obtain ⟨h1,h2⟩:=Bool.and_eq_true_iff.1 hty
 have hk:=Nat.eq_of_beq_eq_true hk
 exact tA hS ho (hF.vo hx) (by simpa using h1) hk (by simpa using h2) (by rw[List.drop_zero,← hk,← Array.length_toList,List.take_length])
theorem tV(cs xs:Array Value)(h:xs.size=cs.size):bJ cs 0 xs.toList=xs:=by
 apply Array.ext_getElem?
 intro i
 rw[cr,Array.length_toList,Nat.zero_add,Nat.sub_zero,Array.getElem?_toList]
 split
 ·rfl
 ·rename_i hi
  rw[Array.getElem?_eq_none (by omega),Array.getElem?_eq_none (by omega)]
theorem Sm.sr(k:Nat)(ho:o.op=.store ty x y:=by exact rfl)(hx:vo l x=some (.pointer (some ⟨g,0,none⟩)):=by exact rfl)(hy:vo l y=some (.agg xs):=by exact rfl)(hs:((P.info? ty).map (·.size) == some k)=true:=by kernel_rfl)(hk:Nat.beq xs.size k=true:=by exact rfl)(hc:Nat.beq cs.size k=true:=by exact rfl)(h1:xs.toList.all (·.oneCell')=true:=by exact rfl):Sm P n l o [bl g t cs] (fun _=>True) (fun _ E'=>E'=[bl g t xs]):=fun _ hF=>by
 have hk:=Nat.eq_of_beq_eq_true hk
 have hc:=Nat.eq_of_beq_eq_true hc
 exact nL ho (hF.vo hx) (hF.vo hy) hk (by simpa using hs) (by omega) h1 (tV cs xs (by omega))
theorem Sm.bg(ho:o.op=.box ty x:=by exact rfl)(hx:vo l x=some (.agg xs):=by exact rfl):Sm P n l o [] (fun _=>True) (fun v E' => ∃ g,v=jI g∧E'=[bl g ty xs]):=fun _ hF=>xW ho (hF.vo hx) rfl
theorem Sm.az(z:Value)(ho:o.op=.alloc ty:=by exact rfl)(hz:(P.info? ty).bind (·.zero)=some z:=by kernel_rfl)(hc:z.cells=cs:=by exact rfl):Sm P n l o [] (fun _=>True) (fun v E' => ∃ g,v=jI g∧E'=[bl g ty cs]):=fun _ _=>mx ho hz hc
theorem Vl.pu(q:Nat)(ho:o.op=.binOp .add t x y t2:=by exact rfl)(hx:vo l x=some (.int kk (m:Int)):=by exact rfl)(hy:vo l y=some (.int kk (j:Int)):=by exact rfl)(hs:kk.signed=false:=by exact rfl)(hz:(m+j)%2^kk.bits=q:=by exact rfl):Vl P n l o (.int kk (q:Int)):=fun _ _ hF=>f7 hs ho (hF.vo hx) (hF.vo hy) hz
theorem Vl.mu(q:Nat)(ho:o.op=.binOp .mul t x y t2:=by exact rfl)(hx:vo l x=some (.int kk (m:Int)):=by exact rfl)(hy:vo l y=some (.int kk (j:Int)):=by exact rfl)(hs:kk.signed=false:=by exact rfl)(hz:(m*j)%2^kk.bits=q:=by exact rfl):Vl P n l o (.int kk (q:Int)):=fun _ _ hF=>i9 hs ho (hF.vo hx) (hF.vo hy) hz
theorem Vl.su(q:Nat)(ho:o.op=.binOp .shr t x y t2:=by exact rfl)(hx:vo l x=some (.int kk (m:Int)):=by exact rfl)(hy:vo l y=some (.int yk (j:Int)):=by exact rfl)(hj:Nat.ble j kk.bits=true:=by exact rfl)(hz:m/2^j=q:=by exact rfl):Vl P n l o (.int kk (q:Int)):=fun _ _ hF=>du ho (hF.vo hx) (hF.vo hy) (Nat.le_of_ble_eq_true hj) hz
theorem Vl.lu(q:Nat)(ho:o.op=.binOp .shl t x y t2:=by exact rfl)(hx:vo l x=some (.int kk (m:Int)):=by exact rfl)(hy:vo l y=some (.int yk (j:Int)):=by exact rfl)(hs:kk.signed=false:=by exact rfl)(hj:Nat.ble j kk.bits=true:=by exact rfl)(hz:(m*2^j)%2^kk.bits=q:=by exact rfl):Vl P n l o (.int kk (q:Int)):=fun _ _ hF=>f9 hs ho (hF.vo hx) (hF.vo hy) (Nat.le_of_ble_eq_true hj) hz
theorem Vl.nu(q:Nat)(hm:m<2^kk.bits)(hj:j<2^kk.bits)(hz:m&&&j=q)(ho:o.op=.binOp .and t x y t2:=by exact rfl)(hx:vo l x=some (.int kk (m:Int)):=by exact rfl)(hy:vo l y=some (.int kk (j:Int)):=by exact rfl)(hs:kk.signed=false:=by exact rfl):Vl P n l o (.int kk (q:Int)):=fun _ _ hF=>i8 hs ho (hF.vo hx) (hF.vo hy) hm hj hz
theorem Vl.ou(q:Nat)(hm:m<2^kk.bits)(hj:j<2^kk.bits)(hz:m|||j=q)(ho:o.op=.binOp .or t x y t2:=by exact rfl)(hx:vo l x=some (.int kk (m:Int)):=by exact rfl)(hy:vo l y=some (.int kk (j:Int)):=by exact rfl)(hs:kk.signed=false:=by exact rfl):Vl P n l o (.int kk (q:Int)):=fun _ _ hF=>kf hs ho (hF.vo hx) (hF.vo hy) hm hj hz
end
theorem jV(A:Option Addr)(n c:Nat)(hs:List (Option Addr×Nat×Nat))(ds:List (List UInt8))(hd:ds.length=n)(hn2:n≤1000)(hb:ds.flatten.length≤70368744177664):Does Tryz.prog 24 #[(.slice A n c)] [] (fun w=>Vu cSl w A n c hs∧ViewsL w hs ds) (fun v E'=>OwnT af 5 v ds.flatten E'):=by
 refine dU Tryz.func24 Tryz.ntmps24 ?_
 intro w0 hH hR
 replace hH:HH w0 [] [] w0:=hH.only [false]
 have hn:=hR.1.len;have hcap:=hR.1.cap
 refine zr (zv .mv 0 ?_)
 refine zn (zr (zv .mv 1 ?_))
 refine zn (aj (zr (zv .mv 0 ?_)))
 refine zv .len 1 ?_
 refine zv .mv 0 ?_
 refine zn (ai ?_)
 replace hH:=HH.pad hH 1
 replace hH:HH w0 [] [[]] w0:=hH
 refine zL5 (fun (j:Nat) (A2:Option Addr) (c2:Nat) (L:List UInt8) (_:Hl)=>[(7,(.int .i64 j)),(6,(.int .i64 n)),(3,(.slice A2 L.length c2)),(0,(.slice A n c))]) (fun j A2 c2 L E2 w=>HH w0 [] [E2] w∧(j≤n)∧(OwnT af 5 (.slice A2 L.length c2) L E2)∧(L=(ds.take j).flatten)) (fun j _ _ _ _=>n-j) 0 none 0 ([]) ([]) ⟨hH,(Nat.zero_le _),(OwnT.nil _ _),(by simp)⟩ ?_
 clear hH
 rintro j A2 c2 L E2 w ⟨hH,hj,hO,hL⟩
 refine zr (zv (.lt (j<n)) 0 ?_)
 refine zn (aj ?_)
 refine zP (fun hc1 => ?_) (fun hc1 => ?_)
 refine aA (ag (aj (ai (zr (zv .mv 1 ?_)))))
 refine zv .mv 1 ?_
 refine zn ?_
 have hLl:=congrArg List.length hL
 obtain ⟨⟨A1,n1,c1⟩,hx1⟩:=ck hs j (by omega)
 obtain ⟨l1,hl1,hV1⟩:=hR.2 _ _ hx1
 obtain rfl:l1.length=n1:=hV1.len
 replace hV1:Vu af w0 A1 l1.length c1 l1:=hV1
 have hcap1:=hV1.cap
 have hfl1:=congrArg List.length (df hl1)
 rw[List.length_append]at hfl1
 have hle1:=eK (ds:=ds) (j+1)
 refine aC (zv .mv 8 ?_)
 refine zv .mv 0 ?_
 refine zv .mv 4 ?_
 have hi2:j<n:=by omega
 obtain ⟨b3,off4,rfl,hL5,hb6,hR7⟩:=hR.1.blk (by decide) (Off.nil _ _) (by omega)
 have:=hR.1.cap
 have hj10:j<hs.length:=by first | exact hi2 | (simp only[List.length_drop];omega) | (simp only[List.length_drop,List.length_take];omega) | omega
 refine zv (.ix 1 j (hi:=hi2)) 3 ?_
 refine zs (S:=fun w=>HoldsL cSl w b3 off4 hs) (hH.holdsL hL5 hb6 hR7) (.ld cSl (A1,l1.length,c1) (fun _ hS=>(hS j _ hx1)) (v:=(.slice A1 l1.length c1))) 1 ?_
 refine ze 0 hH rfl (fun _ hF=>cf (C:=af) (l:=L) (m:=l1) (e:=5) (z:=(.int .u8 0)) (by_:=1) rfl (by kernel_rfl) (by kernel_rfl) rfl (ltb rfl) (hF.ev 1 rfl) hO (hF.ev 0 rfl) rfl (fun h=>⟨by have:=hV1.nil h;have:=hV1.cap;omega,hV1.nil h⟩) (by unfold maxLen;omega) (by omega)) (hH.vu hV1 (by decide) (Off.nil _ _)) 3 ?_
 clear hH
 rintro v13 E14 w ⟨hO15,_⟩ hH
 replace hO15:OwnT af 5 v13 (L++l1) E14:=hO15
 obtain ⟨A11,c12,rfl⟩:=hO15.slice
 refine zv .mv 1 ?_
 refine aD (aN (ag (aC (zv (.add ((j+1:Nat):Int)) 2 ?_))))
 refine zv .mv 1 ?_
 refine aD ?_
 exact zR5 (j+1) A11 c12 (L++l1) E14 ⟨hH,(by omega),hO15,(by rw[hL];exact df hl1)⟩ (by omega)
 refine aJ (ak (ak (aR (ag (zr (zv .mv 31 ?_))))))
 refine zv .mv 1 ?_
 refine zn (ar (aW 0 rfl rfl ?_))
 have hjn:j=n:=by omega
 rw[hjn,List.take_of_length_le (by omega)]at hL
 exact ⟨_,_,rfl,hL▸hO,hH.out1 [true] rfl⟩
end Go.Proofs.YtajppfmjbkebfaaGreatDoor
