/- What the claim leans on, part 5: plain theorems, and walks of functions of the program and of the document. -/
import Derived.Test.YtbbegnfopdihaaaGreatDoorKCertPrintsCD
import Derived.Test.YtbbegnfopdihaaaGreatDoorKCertPrintsCB
import Derived.Test.YtbbegnfopdihaaaGreatDoorKCertPrintsCA
import Derived.OpenShut
import Derived.Deep.Slices
import Derived.SizedLaws
import Derived.WideShapes
import Derived.ChangeArms
namespace Go.Proofs.YtbbegnfopdihaaaGreatDoor
open Go Go.RowKit
set_option maxRecDepth 100000

set_option maxHeartbeats 8000000 in
theorem xsq_c (a : Bt) : Pure Tryz.prog 71 #[((cArr 32).val a)] (fun _ => True) ((cArr 32).val (fM a a)) := by
  refine pure_of (fn := Tryz.f71) Tryz.func71 rfl Tryz.ntmps71 (Nat.le_of_ble_eq_true rfl) rfl ?_
  intro w0 hH hR
  refine zr ?_
  refine zm hH (.bx (cArr 32) a) trivial 1 ?_
  clear hH
  rintro _ _ w ⟨g1, rfl, rfl⟩ hH
  refine zm hH (.al (cArr 32) (fun _ => 0)) trivial 0 ?_
  clear hH
  rintro _ _ w ⟨g2, rfl, rfl⟩ hH
  refine zn ?_
  refine zr ?_
  refine zs (hH.q 0 rfl) (.ld (cArr 32) a (fun _ hS => (holds_blk0 hS))) 0 ?_
  refine zs (hH.q 0 rfl) (.ld (cArr 32) a (fun _ hS => (holds_blk0 hS))) 4 ?_
  refine zc Tryz.func54 (fM_c a a) trivial hH 3 ?_
  clear hH
  intro w hH
  refine ze0 1 hH rfl (.sw (cArr 32) (fun _ => 0) (fM a a)) trivial ?_
  clear hH
  rintro _ _ w rfl hH
  refine zn ?_
  refine cxRet ?_
  refine qxRetC 1 (hH.blk 1 rfl) rfl rfl (by kernel_rfl) (Cod.size _ _) (by kernel_rfl) ?_
  exact ⟨rfl, HH.toBelow hH⟩

set_option maxHeartbeats 8000000 in
theorem xfac_c  : Pure Tryz.prog 72 #[] (fun _ => True) ((cArr 32).val facE) := by
  refine pure_of (fn := Tryz.f72) Tryz.func72 rfl Tryz.ntmps72 (Nat.le_of_ble_eq_true rfl) rfl ?_
  intro w0 hH hR
  refine zr ?_
  refine zm hH (.al (cArr 32) (fun _ => 0)) trivial 0 ?_
  clear hH
  rintro _ _ w ⟨g1, rfl, rfl⟩ hH
  refine zn ?_
  refine zr ?_
  refine zv (v := ((cArr 32).val facE)) (fun _ _ hF => opBuildP (cells := (cArr 32).enc facE) (vals := [(0, (.int .u8 65)), (1, (.int .u8 219)), (2, (.int .u8 1))]) rfl (EvP.cons (v := (.int .u8 65)) rfl (EvP.cons (v := (.int .u8 219)) rfl (EvP.cons (v := (.int .u8 1)) rfl EvP.nil))) (by kernel_rfl) _) 0 ?_
  refine ze0 0 hH rfl (.sw (cArr 32) (fun _ => 0) facE) trivial ?_
  clear hH
  rintro _ _ w rfl hH
  refine zn ?_
  refine cxRet ?_
  refine qxRetC 1 (hH.blk 0 rfl) rfl rfl (by kernel_rfl) (Cod.size _ _) (by kernel_rfl) ?_
  exact ⟨rfl, HH.toBelow hH⟩

set_option maxHeartbeats 8000000 in
theorem xPl_c (a b : Bt × Bt) (u : Bt) : Pure Tryz.prog 53 #[(cP2.val a), (cP2.val b), ((cArr 32).val u)] (fun _ => True) (cP2.val (xPl a b u)) := by
  refine pure_of (fn := Tryz.f53) Tryz.func53 rfl Tryz.ntmps53 (Nat.le_of_ble_eq_true rfl) rfl ?_
  intro w0 hH hR
  refine zr ?_
  refine zm hH (.bx cP2 a) trivial 1 ?_
  clear hH
  rintro _ _ w ⟨g1, rfl, rfl⟩ hH
  refine zm hH (.bx cP2 b) trivial 2 ?_
  clear hH
  rintro _ _ w ⟨g2, rfl, rfl⟩ hH
  refine zm hH (.bx (cArr 32) u) trivial 4 ?_
  clear hH
  rintro _ _ w ⟨g3, rfl, rfl⟩ hH
  refine zm hH (.al cP2 (fun _ => 0, fun _ => 0)) trivial 0 ?_
  clear hH
  rintro _ _ w ⟨g4, rfl, rfl⟩ hH
  refine zn ?_
  refine zx ?_
  replace hH := hH.drew
  refine rxPg 0 [pv 0 9 [] [] fun G => (.pointer (some ⟨g1, 0, none⟩)), ldv 1 10 [0] [] [1000] fun G => ((cArr 32).val a.1), pv 2 11 [] [] fun G => (.pointer (some ⟨g1, 32, none⟩)), ldv 3 12 [2] [] [1000] fun G => ((cArr 32).val a.2), pv 4 13 [1, 3] [] fun G => ((cArr 32).val (fA a.1 a.2)), pv 5 14 [] [] fun G => (.pointer (some ⟨g2, 0, none⟩)), ldv 6 15 [5] [] [1001] fun G => ((cArr 32).val b.1), pv 7 16 [] [] fun G => (.pointer (some ⟨g2, 32, none⟩)), ldv 8 17 [7] [] [1001] fun G => ((cArr 32).val b.2), pv 9 18 [6, 8] [] fun G => ((cArr 32).val (fS b.1 b.2)), pv 10 19 [4, 9] [] fun G => ((cArr 32).val (fM (fA a.1 a.2) (fS b.1 b.2))), alv 11 7 [] [] fun G g => [bl g 23 ((cArr 32).enc (fun _ => 0))], stv 12 [10, 11] [11] 11 fun G => [bl (G 11).g 23 ((cArr 32).enc (fM (fA a.1 a.2) (fS b.1 b.2)))]] (fun G => [(7, (.pointer (some ⟨(G 11).g, 0, none⟩))), (6, (.pointer (some ⟨g4, 0, none⟩))), (5, (.pointer (some ⟨g3, 0, none⟩))), (4, (.pointer (some ⟨g2, 0, none⟩))), (3, (.pointer (some ⟨g1, 0, none⟩)))]) (fun G => [[bl g1 87 (cP2.enc a)], [bl g2 87 (cP2.enc b)], [bl g3 23 ((cArr 32).enc u)], [bl g4 87 (cP2.enc (fun _ => 0, fun _ => 0))], [bl (G 11).g 23 ((cArr 32).enc (fM (fA a.1 a.2) (fS b.1 b.2)))]]) hH (.c (.v fun G => (.fld 0)) <| .c (.ld (fun G _ _ hH => (hH.q 0 rfl)) fun G => (.ld (cArr 32) a.1 (fun _ hS => (holds_blk0 hS).fst))) <| .c (.v fun G => (.fld 32)) <| .c (.ld (fun G _ _ hH => (hH.q 0 rfl)) fun G => (.ld (cArr 32) a.2 (fun _ hS => (holds_blk0 hS).snd))) <| .c (Sp.c Tryz.func70 (fun G => (fA_c a.1 a.2)) fun _ => trivial) <| .c (.v fun G => (.fld 0)) <| .c (.ld (fun G _ _ hH => (hH.q 0 rfl)) fun G => (.ld (cArr 32) b.1 (fun _ hS => (holds_blk0 hS).fst))) <| .c (.v fun G => (.fld 32)) <| .c (.ld (fun G _ _ hH => (hH.q 0 rfl)) fun G => (.ld (cArr 32) b.2 (fun _ hS => (holds_blk0 hS).snd))) <| .c (Sp.c Tryz.func63 (fun G => (fS_c b.1 b.2)) fun _ => trivial) <| .c (Sp.c Tryz.func54 (fun G => (fM_c (fA a.1 a.2) (fS b.1 b.2))) fun _ => trivial) <| .c (.a (fun _ _ _ _ => trivial) (fun G => (.al (cArr 32) (fun _ => 0))) fun _ _ _ h => h) <| .c (.tn (fun G => (.sw (cArr 32) (fun _ => 0) (fM (fA a.1 a.2) (fS b.1 b.2)))) (fun _ _ _ _ => trivial) fun _ _ _ h => h) <| .nil) ?_
  clear hH
  rintro G w - hH
  revert hH
  generalize (G 11).g = g5
  intro hH
  refine rn ?_
  refine zx ?_
  replace hH := hH.drew
  refine rxPg 0 [pv 0 20 [] [] fun G => (.pointer (some ⟨g1, 0, none⟩)), ldv 1 21 [0] [] [1000] fun G => ((cArr 32).val a.1), pv 2 22 [] [] fun G => (.pointer (some ⟨g1, 32, none⟩)), ldv 3 23 [2] [] [1000] fun G => ((cArr 32).val a.2), pv 4 24 [1, 3] [] fun G => ((cArr 32).val (fS a.1 a.2)), pv 5 25 [] [] fun G => (.pointer (some ⟨g2, 0, none⟩)), ldv 6 26 [5] [] [1001] fun G => ((cArr 32).val b.1), pv 7 27 [] [] fun G => (.pointer (some ⟨g2, 32, none⟩)), ldv 8 28 [7] [] [1001] fun G => ((cArr 32).val b.2), pv 9 29 [6, 8] [] fun G => ((cArr 32).val (fA b.1 b.2)), pv 10 30 [4, 9] [] fun G => ((cArr 32).val (fM (fS a.1 a.2) (fA b.1 b.2))), alv 11 8 [] [] fun G g => [bl g 23 ((cArr 32).enc (fun _ => 0))], stv 12 [10, 11] [11] 11 fun G => [bl (G 11).g 23 ((cArr 32).enc (fM (fS a.1 a.2) (fA b.1 b.2)))]] (fun G => [(8, (.pointer (some ⟨(G 11).g, 0, none⟩))), (7, (.pointer (some ⟨g5, 0, none⟩))), (6, (.pointer (some ⟨g4, 0, none⟩))), (5, (.pointer (some ⟨g3, 0, none⟩)))]) (fun G => [[bl g1 87 (cP2.enc a)], [bl g2 87 (cP2.enc b)], [bl g3 23 ((cArr 32).enc u)], [bl g4 87 (cP2.enc (fun _ => 0, fun _ => 0))], [bl g5 23 ((cArr 32).enc (fM (fA a.1 a.2) (fS b.1 b.2)))], [bl (G 11).g 23 ((cArr 32).enc (fM (fS a.1 a.2) (fA b.1 b.2)))]]) hH (.c (.v fun G => (.fld 0)) <| .c (.ld (fun G _ _ hH => (hH.q 0 rfl)) fun G => (.ld (cArr 32) a.1 (fun _ hS => (holds_blk0 hS).fst))) <| .c (.v fun G => (.fld 32)) <| .c (.ld (fun G _ _ hH => (hH.q 0 rfl)) fun G => (.ld (cArr 32) a.2 (fun _ hS => (holds_blk0 hS).snd))) <| .c (Sp.c Tryz.func63 (fun G => (fS_c a.1 a.2)) fun _ => trivial) <| .c (.v fun G => (.fld 0)) <| .c (.ld (fun G _ _ hH => (hH.q 0 rfl)) fun G => (.ld (cArr 32) b.1 (fun _ hS => (holds_blk0 hS).fst))) <| .c (.v fun G => (.fld 32)) <| .c (.ld (fun G _ _ hH => (hH.q 0 rfl)) fun G => (.ld (cArr 32) b.2 (fun _ hS => (holds_blk0 hS).snd))) <| .c (Sp.c Tryz.func70 (fun G => (fA_c b.1 b.2)) fun _ => trivial) <| .c (Sp.c Tryz.func54 (fun G => (fM_c (fS a.1 a.2) (fA b.1 b.2))) fun _ => trivial) <| .c (.a (fun _ _ _ _ => trivial) (fun G => (.al (cArr 32) (fun _ => 0))) fun _ _ _ h => h) <| .c (.tn (fun G => (.sw (cArr 32) (fun _ => 0) (fM (fS a.1 a.2) (fA b.1 b.2)))) (fun _ _ _ _ => trivial) fun _ _ _ h => h) <| .nil) ?_
  clear hH
  rintro G w - hH
  revert hH
  generalize (G 11).g = g6
  intro hH
  refine rn ?_
  refine zx ?_
  replace hH := hH.drew
  refine rld 0 (hH.q 4 rfl) (.ld (cArr 32) (fM (fA a.1 a.2) (fS b.1 b.2)) (fun _ hS => (holds_blk0 hS))) 0 ?_
  refine rld 1 (hH.q 5 rfl) (.ld (cArr 32) (fM (fS a.1 a.2) (fA b.1 b.2)) (fun _ hS => (holds_blk0 hS))) 0 ?_
  refine rld 4 (hH.q 2 rfl) (.ld (cArr 32) u (fun _ hS => (holds_blk0 hS))) 32 ?_
  refine rld 5 (hH.q 4 rfl) (.ld (cArr 32) (fM (fA a.1 a.2) (fS b.1 b.2)) (fun _ hS => (holds_blk0 hS))) 16 ?_
  refine rld 6 (hH.q 5 rfl) (.ld (cArr 32) (fM (fS a.1 a.2) (fA b.1 b.2)) (fun _ hS => (holds_blk0 hS))) 16 ?_
  refine rx1k 2 (rpc 2 Tryz.func70 (fA_c (fM (fA a.1 a.2) (fS b.1 b.2)) (fM (fS a.1 a.2) (fA b.1 b.2))) trivial hH 24 (.keep (.keep (.keep (pgo [] (pgo [] (.nil _ [])))))) ?_)
  clear hH
  intro w hH
  refine ⟨pcons (hH.blk 5 rfl) (pcons (hH.blk 4 rfl) (pcons (hH.blk 2 rfl) pnil)), ?_⟩
  refine rx1k 3 (rpc 3 Tryz.func71 (xsq_c (fA (fM (fA a.1 a.2) (fS b.1 b.2)) (fM (fS a.1 a.2) (fA b.1 b.2)))) trivial hH 1 (.keep (.keep (.keep (.nil _ [])))) ?_)
  clear hH
  intro w hH
  refine ⟨pcons (hH.blk 5 rfl) (pcons (hH.blk 4 rfl) (pcons (hH.blk 2 rfl) pnil)), ?_⟩
  refine rx1k 7 (rpc 7 Tryz.func63 (fS_c (fM (fA a.1 a.2) (fS b.1 b.2)) (fM (fS a.1 a.2) (fA b.1 b.2))) trivial hH 6 (pgo [] (pgo [] (.keep (.nil _ [])))) ?_)
  clear hH
  intro w hH
  refine ⟨pcons (hH.blk 2 rfl) pnil, ?_⟩
  refine rx1k 8 (rpc 8 Tryz.func71 (xsq_c (fS (fM (fA a.1 a.2) (fS b.1 b.2)) (fM (fS a.1 a.2) (fA b.1 b.2)))) trivial hH 1 (.keep (.nil _ [])) ?_)
  clear hH
  intro w hH
  refine ⟨pcons (hH.blk 2 rfl) pnil, ?_⟩
  refine rx1k 9 (rpc 9 Tryz.func54 (fM_c u (fM (fS (fM (fA a.1 a.2) (fS b.1 b.2)) (fM (fS a.1 a.2) (fA b.1 b.2))) (fS (fM (fA a.1 a.2) (fS b.1 b.2)) (fM (fS a.1 a.2) (fA b.1 b.2))))) trivial hH 5 (pgo [] (.nil _ [])) ?_)
  clear hH
  intro w hH
  refine ⟨pnil, ?_⟩
  refine rv 10 (v := (cP2.val ((fM (fA (fM (fA a.1 a.2) (fS b.1 b.2)) (fM (fS a.1 a.2) (fA b.1 b.2))) (fA (fM (fA a.1 a.2) (fS b.1 b.2)) (fM (fS a.1 a.2) (fA b.1 b.2)))), (fM u (fM (fS (fM (fA a.1 a.2) (fS b.1 b.2)) (fM (fS a.1 a.2) (fA b.1 b.2))) (fS (fM (fA a.1 a.2) (fS b.1 b.2)) (fM (fS a.1 a.2) (fA b.1 b.2)))))))) (fun _ _ hF => opBuildP (cells := cP2.enc ((fM (fA (fM (fA a.1 a.2) (fS b.1 b.2)) (fM (fS a.1 a.2) (fA b.1 b.2))) (fA (fM (fA a.1 a.2) (fS b.1 b.2)) (fM (fS a.1 a.2) (fA b.1 b.2)))), (fM u (fM (fS (fM (fA a.1 a.2) (fS b.1 b.2)) (fM (fS a.1 a.2) (fA b.1 b.2))) (fS (fM (fA a.1 a.2) (fS b.1 b.2)) (fM (fS a.1 a.2) (fA b.1 b.2))))))) rfl (EvP.cons (v := ((cArr 32).val (fM (fA (fM (fA a.1 a.2) (fS b.1 b.2)) (fM (fS a.1 a.2) (fA b.1 b.2))) (fA (fM (fA a.1 a.2) (fS b.1 b.2)) (fM (fS a.1 a.2) (fA b.1 b.2)))))) (hF.ev 1 rfl) (EvP.cons (v := ((cArr 32).val (fM u (fM (fS (fM (fA a.1 a.2) (fS b.1 b.2)) (fM (fS a.1 a.2) (fA b.1 b.2))) (fS (fM (fA a.1 a.2) (fS b.1 b.2)) (fM (fS a.1 a.2) (fA b.1 b.2))))))) (hF.ev 0 rfl) EvP.nil)) (built_pair (x := (((fM (fA (fM (fA a.1 a.2) (fS b.1 b.2)) (fM (fS a.1 a.2) (fA b.1 b.2))) (fA (fM (fA a.1 a.2) (fS b.1 b.2)) (fM (fS a.1 a.2) (fA b.1 b.2)))), (fM u (fM (fS (fM (fA a.1 a.2) (fS b.1 b.2)) (fM (fS a.1 a.2) (fA b.1 b.2))) (fS (fM (fA a.1 a.2) (fS b.1 b.2)) (fM (fS a.1 a.2) (fA b.1 b.2)))))) : Bt × Bt)) (by kernel_rfl) rfl rfl) _) 3 ?_
  refine rx1k 11 ?_
  refine re0 11 3 hH rfl (.sw cP2 (fun _ => 0, fun _ => 0) ((fM (fA (fM (fA a.1 a.2) (fS b.1 b.2)) (fM (fS a.1 a.2) (fA b.1 b.2))) (fA (fM (fA a.1 a.2) (fS b.1 b.2)) (fM (fS a.1 a.2) (fA b.1 b.2)))), (fM u (fM (fS (fM (fA a.1 a.2) (fS b.1 b.2)) (fM (fS a.1 a.2) (fA b.1 b.2))) (fS (fM (fA a.1 a.2) (fS b.1 b.2)) (fM (fS a.1 a.2) (fA b.1 b.2))))))) trivial (.nil _ []) ?_
  clear hH
  rintro _ _ w rfl hH
  refine ⟨pnil, ?_⟩
  refine rn ?_
  refine cxRet ?_
  refine qxRetC 1 (hH.blk 3 rfl) rfl rfl (by kernel_rfl) (Cod.size _ _) (by kernel_rfl) ?_
  exact ⟨rfl, HH.toBelow hH⟩

set_option maxHeartbeats 8000000 in
theorem xDb_c (a : Bt × Bt) : Pure Tryz.prog 52 #[(cP2.val a)] (fun _ => True) (cP2.val (xDb a)) := by
  refine pure_of (fn := Tryz.f52) Tryz.func52 rfl Tryz.ntmps52 (Nat.le_of_ble_eq_true rfl) rfl ?_
  intro w0 hH hR
  refine zr ?_
  refine zm hH (.bx cP2 a) trivial 1 ?_
  clear hH
  rintro _ _ w ⟨g1, rfl, rfl⟩ hH
  refine zm hH (.al cP2 (fun _ => 0, fun _ => 0)) trivial 0 ?_
  clear hH
  rintro _ _ w ⟨g2, rfl, rfl⟩ hH
  refine zn ?_
  refine zx ?_
  replace hH := hH.drew
  refine rxPg 0 [pv 0 6 [] [] fun G => (.pointer (some ⟨g1, 0, none⟩)), ldv 1 7 [0] [] [1000] fun G => ((cArr 32).val a.1), pv 2 8 [] [] fun G => (.pointer (some ⟨g1, 32, none⟩)), ldv 3 9 [2] [] [1000] fun G => ((cArr 32).val a.2), pv 4 10 [1, 3] [] fun G => ((cArr 32).val (fA a.1 a.2)), pv 5 11 [4] [] fun G => ((cArr 32).val (fM (fA a.1 a.2) (fA a.1 a.2))), pv 6 12 [] [] fun G => (.pointer (some ⟨g1, 0, none⟩)), ldv 7 13 [6] [] [1000] fun G => ((cArr 32).val a.1), pv 8 14 [] [] fun G => (.pointer (some ⟨g1, 32, none⟩)), ldv 9 15 [8] [] [1000] fun G => ((cArr 32).val a.2), pv 10 16 [7, 9] [] fun G => ((cArr 32).val (fS a.1 a.2)), pv 11 17 [10] [] fun G => ((cArr 32).val (fM (fS a.1 a.2) (fS a.1 a.2))), alv 12 3 [] [] fun G g => [bl g 23 ((cArr 32).enc (fun _ => 0))], alv 13 4 [] [] fun G g => [bl g 23 ((cArr 32).enc (fun _ => 0))], stv 14 [5, 12] [12] 12 fun G => [bl (G 12).g 23 ((cArr 32).enc (fM (fA a.1 a.2) (fA a.1 a.2)))], stv 15 [11, 13] [13] 13 fun G => [bl (G 13).g 23 ((cArr 32).enc (fM (fS a.1 a.2) (fS a.1 a.2)))]] (fun G => [(3, (.pointer (some ⟨(G 12).g, 0, none⟩))), (4, (.pointer (some ⟨(G 13).g, 0, none⟩))), (2, (.pointer (some ⟨g2, 0, none⟩)))]) (fun G => [[bl g1 87 (cP2.enc a)], [bl g2 87 (cP2.enc (fun _ => 0, fun _ => 0))], [bl (G 12).g 23 ((cArr 32).enc (fM (fA a.1 a.2) (fA a.1 a.2)))], [bl (G 13).g 23 ((cArr 32).enc (fM (fS a.1 a.2) (fS a.1 a.2)))]]) hH (.c (.v fun G => (.fld 0)) <| .c (.ld (fun G _ _ hH => (hH.q 0 rfl)) fun G => (.ld (cArr 32) a.1 (fun _ hS => (holds_blk0 hS).fst))) <| .c (.v fun G => (.fld 32)) <| .c (.ld (fun G _ _ hH => (hH.q 0 rfl)) fun G => (.ld (cArr 32) a.2 (fun _ hS => (holds_blk0 hS).snd))) <| .c (Sp.c Tryz.func70 (fun G => (fA_c a.1 a.2)) fun _ => trivial) <| .c (Sp.c Tryz.func71 (fun G => (xsq_c (fA a.1 a.2))) fun _ => trivial) <| .c (.v fun G => (.fld 0)) <| .c (.ld (fun G _ _ hH => (hH.q 0 rfl)) fun G => (.ld (cArr 32) a.1 (fun _ hS => (holds_blk0 hS).fst))) <| .c (.v fun G => (.fld 32)) <| .c (.ld (fun G _ _ hH => (hH.q 0 rfl)) fun G => (.ld (cArr 32) a.2 (fun _ hS => (holds_blk0 hS).snd))) <| .c (Sp.c Tryz.func63 (fun G => (fS_c a.1 a.2)) fun _ => trivial) <| .c (Sp.c Tryz.func71 (fun G => (xsq_c (fS a.1 a.2))) fun _ => trivial) <| .c (.a (fun _ _ _ _ => trivial) (fun G => (.al (cArr 32) (fun _ => 0))) fun _ _ _ h => h) <| .c (.a (fun _ _ _ _ => trivial) (fun G => (.al (cArr 32) (fun _ => 0))) fun _ _ _ h => h) <| .c (.tn (fun G => (.sw (cArr 32) (fun _ => 0) (fM (fA a.1 a.2) (fA a.1 a.2)))) (fun _ _ _ _ => trivial) fun _ _ _ h => h) <| .c (.tn (fun G => (.sw (cArr 32) (fun _ => 0) (fM (fS a.1 a.2) (fS a.1 a.2)))) (fun _ _ _ _ => trivial) fun _ _ _ h => h) <| .nil) ?_
  clear hH
  rintro G w - hH
  revert hH
  generalize (G 12).g = g3
  generalize (G 13).g = g4
  intro hH
  refine rn ?_
  refine zr ?_
  refine zs (hH.q 2 rfl) (.ld (cArr 32) (fM (fA a.1 a.2) (fA a.1 a.2)) (fun _ hS => (holds_blk0 hS))) 0 ?_
  refine zs (hH.q 3 rfl) (.ld (cArr 32) (fM (fS a.1 a.2) (fS a.1 a.2)) (fun _ hS => (holds_blk0 hS))) 0 ?_
  refine zc Tryz.func63 (fS_c (fM (fA a.1 a.2) (fA a.1 a.2)) (fM (fS a.1 a.2) (fS a.1 a.2))) trivial hH 3 ?_
  clear hH
  intro w hH
  refine zm hH (.al (cArr 32) (fun _ => 0)) trivial 0 ?_
  clear hH
  rintro _ _ w ⟨g5, rfl, rfl⟩ hH
  refine ze0 4 hH rfl (.sw (cArr 32) (fun _ => 0) (fS (fM (fA a.1 a.2) (fA a.1 a.2)) (fM (fS a.1 a.2) (fS a.1 a.2)))) trivial ?_
  clear hH
  rintro _ _ w rfl hH
  refine zn ?_
  refine zx ?_
  replace hH := hH.drew
  refine rld 0 (hH.q 2 rfl) (.ld (cArr 32) (fM (fA a.1 a.2) (fA a.1 a.2)) (fun _ hS => (holds_blk0 hS))) 2 ?_
  refine rld 1 (hH.q 3 rfl) (.ld (cArr 32) (fM (fS a.1 a.2) (fS a.1 a.2)) (fun _ hS => (holds_blk0 hS))) 8 ?_
  refine rld 3 (hH.q 4 rfl) (.ld (cArr 32) (fS (fM (fA a.1 a.2) (fA a.1 a.2)) (fM (fS a.1 a.2) (fS a.1 a.2))) (fun _ hS => (holds_blk0 hS))) 0 ?_
  refine rld 4 (hH.q 2 rfl) (.ld (cArr 32) (fM (fA a.1 a.2) (fA a.1 a.2)) (fun _ hS => (holds_blk0 hS))) 16 ?_
  refine rld 6 (hH.q 4 rfl) (.ld (cArr 32) (fS (fM (fA a.1 a.2) (fA a.1 a.2)) (fM (fS a.1 a.2) (fS a.1 a.2))) (fun _ hS => (holds_blk0 hS))) 16 ?_
  refine rx1k 2 (rpc 2 Tryz.func54 (fM_c (fM (fA a.1 a.2) (fA a.1 a.2)) (fM (fS a.1 a.2) (fS a.1 a.2))) trivial hH 24 (.keep (.keep (.keep (pgo [] (pgo [] (.nil _ [])))))) ?_)
  clear hH
  intro w hH
  refine ⟨pcons (hH.blk 4 rfl) (pcons (hH.blk 2 rfl) (pcons (hH.blk 4 rfl) pnil)), ?_⟩
  refine rx1k 5 (rpc 5 Tryz.func72 (xfac_c ) trivial hH 0 (.keep (.keep (.keep (.nil _ [])))) ?_)
  clear hH
  intro w hH
  refine ⟨pcons (hH.blk 4 rfl) (pcons (hH.blk 2 rfl) (pcons (hH.blk 4 rfl) pnil)), ?_⟩
  refine rx1k 7 (rpc 7 Tryz.func54 (fM_c facE (fS (fM (fA a.1 a.2) (fA a.1 a.2)) (fM (fS a.1 a.2) (fS a.1 a.2)))) trivial hH 5 (pgo [] (.keep (.keep (.nil _ [])))) ?_)
  clear hH
  intro w hH
  refine ⟨pcons (hH.blk 2 rfl) (pcons (hH.blk 4 rfl) pnil), ?_⟩
  refine rx1k 8 (rpc 8 Tryz.func70 (fA_c (fM (fA a.1 a.2) (fA a.1 a.2)) (fM facE (fS (fM (fA a.1 a.2) (fA a.1 a.2)) (fM (fS a.1 a.2) (fS a.1 a.2))))) trivial hH 5 (pgo [] (.keep (.nil _ []))) ?_)
  clear hH
  intro w hH
  refine ⟨pcons (hH.blk 4 rfl) pnil, ?_⟩
  refine rx1k 9 (rpc 9 Tryz.func54 (fM_c (fS (fM (fA a.1 a.2) (fA a.1 a.2)) (fM (fS a.1 a.2) (fS a.1 a.2))) (fA (fM (fA a.1 a.2) (fA a.1 a.2)) (fM facE (fS (fM (fA a.1 a.2) (fA a.1 a.2)) (fM (fS a.1 a.2) (fS a.1 a.2)))))) trivial hH 5 (pgo [] (.nil _ [])) ?_)
  clear hH
  intro w hH
  refine ⟨pnil, ?_⟩
  refine rv 10 (v := (cP2.val ((fM (fM (fA a.1 a.2) (fA a.1 a.2)) (fM (fS a.1 a.2) (fS a.1 a.2))), (fM (fS (fM (fA a.1 a.2) (fA a.1 a.2)) (fM (fS a.1 a.2) (fS a.1 a.2))) (fA (fM (fA a.1 a.2) (fA a.1 a.2)) (fM facE (fS (fM (fA a.1 a.2) (fA a.1 a.2)) (fM (fS a.1 a.2) (fS a.1 a.2))))))))) (fun _ _ hF => opBuildP (cells := cP2.enc ((fM (fM (fA a.1 a.2) (fA a.1 a.2)) (fM (fS a.1 a.2) (fS a.1 a.2))), (fM (fS (fM (fA a.1 a.2) (fA a.1 a.2)) (fM (fS a.1 a.2) (fS a.1 a.2))) (fA (fM (fA a.1 a.2) (fA a.1 a.2)) (fM facE (fS (fM (fA a.1 a.2) (fA a.1 a.2)) (fM (fS a.1 a.2) (fS a.1 a.2)))))))) rfl (EvP.cons (v := ((cArr 32).val (fM (fM (fA a.1 a.2) (fA a.1 a.2)) (fM (fS a.1 a.2) (fS a.1 a.2))))) (hF.ev 1 rfl) (EvP.cons (v := ((cArr 32).val (fM (fS (fM (fA a.1 a.2) (fA a.1 a.2)) (fM (fS a.1 a.2) (fS a.1 a.2))) (fA (fM (fA a.1 a.2) (fA a.1 a.2)) (fM facE (fS (fM (fA a.1 a.2) (fA a.1 a.2)) (fM (fS a.1 a.2) (fS a.1 a.2)))))))) (hF.ev 0 rfl) EvP.nil)) (built_pair (x := (((fM (fM (fA a.1 a.2) (fA a.1 a.2)) (fM (fS a.1 a.2) (fS a.1 a.2))), (fM (fS (fM (fA a.1 a.2) (fA a.1 a.2)) (fM (fS a.1 a.2) (fS a.1 a.2))) (fA (fM (fA a.1 a.2) (fA a.1 a.2)) (fM facE (fS (fM (fA a.1 a.2) (fA a.1 a.2)) (fM (fS a.1 a.2) (fS a.1 a.2))))))) : Bt × Bt)) (by kernel_rfl) rfl rfl) _) 3 ?_
  refine rx1k 11 ?_
  refine re0 11 1 hH rfl (.sw cP2 (fun _ => 0, fun _ => 0) ((fM (fM (fA a.1 a.2) (fA a.1 a.2)) (fM (fS a.1 a.2) (fS a.1 a.2))), (fM (fS (fM (fA a.1 a.2) (fA a.1 a.2)) (fM (fS a.1 a.2) (fS a.1 a.2))) (fA (fM (fA a.1 a.2) (fA a.1 a.2)) (fM facE (fS (fM (fA a.1 a.2) (fA a.1 a.2)) (fM (fS a.1 a.2) (fS a.1 a.2)))))))) trivial (.nil _ []) ?_
  clear hH
  rintro _ _ w rfl hH
  refine ⟨pnil, ?_⟩
  refine rn ?_
  refine cxRet ?_
  refine qxRetC 1 (hH.blk 1 rfl) rfl rfl (by kernel_rfl) (Cod.size _ _) (by kernel_rfl) ?_
  exact ⟨rfl, HH.toBelow hH⟩

set_option maxHeartbeats 8000000 in
theorem sxP_c (t : UInt8) (p q : Bt × Bt) : Pure Tryz.prog 51 #[(.int .u8 (((t.toNat) : Nat) : Int)), (cP2.val p), (cP2.val q)] (fun _ => True) (.tuple #[cP2.val (sxP t p q), cP2.val (sxP t q p)]) := by
  refine pure_of (fn := Tryz.f51) Tryz.func51 rfl Tryz.ntmps51 (Nat.le_of_ble_eq_true rfl) rfl ?_
  intro w0 hH hR
  refine zr ?_
  refine zm hH (.bx cP2 p) trivial 2 ?_
  clear hH
  rintro _ _ w ⟨g1, rfl, rfl⟩ hH
  refine zm hH (.bx cP2 q) trivial 4 ?_
  clear hH
  rintro _ _ w ⟨g2, rfl, rfl⟩ hH
  refine zm hH (.al cP2 (fun _ => 0, fun _ => 0)) trivial 0 ?_
  clear hH
  rintro _ _ w ⟨g3, rfl, rfl⟩ hH
  refine zm hH (.al cP2 (fun _ => 0, fun _ => 0)) trivial 0 ?_
  clear hH
  rintro _ _ w ⟨g4, rfl, rfl⟩ hH
  refine zn ?_
  refine zr ?_
  refine zv .mv 16 ?_
  refine zv (.gb (u := t)) 1 ?_
  refine zv .mv 1 ?_
  refine zn ?_
  refine cxSeq ?_
  replace hH : HH w0 [] [[bl g1 87 (cP2.enc ((mx8 (-t) 0 p.1 q.1), (mx8 (-t) 0 p.2 q.2)))], [bl g2 87 (cP2.enc q)], [bl g3 87 (cP2.enc (fun _ => 0, fun _ => 0))], [bl g4 87 (cP2.enc (fun _ => 0, fun _ => 0))]] w := by simp only [mx8_0]; exact hH
  replace hH : HH w0 [] [[bl g1 87 (cP2.enc ((mx8 (-t) 0 p.1 q.1), (mx8 (-t) 0 p.2 q.2)))], [bl g2 87 (cP2.enc ((mx8 (-t) 0 q.1 p.1), (mx8 (-t) 0 q.2 p.2)))], [bl g3 87 (cP2.enc (fun _ => 0, fun _ => 0))], [bl g4 87 (cP2.enc (fun _ => 0, fun _ => 0))]] w := by simp only [mx8_0] at hH ⊢; exact hH
  refine zr ?_
  refine zv .mv 0 ?_
  refine zn ?_
  refine cxBlock ?_
  refine zL1 (fun (i : Nat) => [(14, (.int .i64 (((i) : Nat) : Int))), (8, (.int .u8 ((((-t).toNat) : Nat) : Int))), (7, (.pointer (some ⟨g4, 0, none⟩))), (6, (.pointer (some ⟨g3, 0, none⟩))), (5, (.pointer (some ⟨g2, 0, none⟩))), (4, (.pointer (some ⟨g1, 0, none⟩)))]) (fun i w => HH w0 [] [[bl g1 87 (cP2.enc ((mx8 (-t) i p.1 q.1), (mx8 (-t) i p.2 q.2)))], [bl g2 87 (cP2.enc ((mx8 (-t) i q.1 p.1), (mx8 (-t) i q.2 p.2)))], [bl g3 87 (cP2.enc (fun _ => 0, fun _ => 0))], [bl g4 87 (cP2.enc (fun _ => 0, fun _ => 0))]] w ∧ (i ≤ 32)) (fun i => 32 - i) 0 ⟨hH, (Nat.zero_le _)⟩ ?_
  clear hH
  rintro i w ⟨hH, hi⟩
  refine zr ?_
  refine zv (.lt (i < 32)) 0 ?_
  refine zn ?_
  refine cxSeq ?_
  refine zP (fun hc5 => ?_) (fun hc5 => ?_)
  refine cxSkip ?_
  refine qxThen ?_
  refine cxSeq ?_
  refine cxBlock ?_
  refine zr ?_
  refine zv .mv 1 ?_
  refine zv .mv 1 ?_
  refine zn ?_
  refine zx ?_
  replace hH := hH.drew
  refine rv 0 .mv 0 ?_
  refine rv 1 .mv 0 ?_
  refine rv 2 (.fld 0) 0 ?_
  have hi6 : i < 32 := by omega
  refine rv 3 (.ia 1 32 i (hi := hi6)) 3 ?_
  refine rld 4 (hH.q 0 rfl) (.ld cByte ((mx8 (-t) i p.1 q.1) i) (fun _ hS => ((holds_blk0 hS).fst.elt hi6))) 1 ?_
  refine rv 5 .mv 0 ?_
  refine rv 6 (.fld 0) 0 ?_
  have hi7 : i < 32 := by omega
  refine rv 7 (.ia 1 32 i (hi := hi7)) 3 ?_
  refine rld 8 (hH.q 1 rfl) (.ld cByte ((mx8 (-t) i q.1 p.1) i) (fun _ hS => ((holds_blk0 hS).fst.elt hi7))) 1 ?_
  refine rv 9 (.xb (((mx8 (-t) i p.1 q.1) i) ^^^ ((mx8 (-t) i q.1 p.1) i)) (u := ((mx8 (-t) i p.1 q.1) i)) (v := ((mx8 (-t) i q.1 p.1) i))) 3 ?_
  refine rv 10 (.ab ((-t) &&& (((mx8 (-t) i p.1 q.1) i) ^^^ ((mx8 (-t) i q.1 p.1) i))) (u := (-t)) (v := (((mx8 (-t) i p.1 q.1) i) ^^^ ((mx8 (-t) i q.1 p.1) i)))) 3 ?_
  refine rv 11 .mv 0 ?_
  refine rv 12 .mv 0 ?_
  refine rv 13 (.fld 32) 0 ?_
  have hi8 : i < 32 := by omega
  refine rv 14 (.ia 1 32 i (hi := hi8)) 3 ?_
  refine rld 15 (hH.q 0 rfl) (.ld cByte ((mx8 (-t) i p.2 q.2) i) (fun _ hS => ((holds_blk0 hS).snd.elt hi8))) 1 ?_
  refine rv 16 .mv 0 ?_
  refine rv 17 (.fld 32) 0 ?_
  have hi9 : i < 32 := by omega
  refine rv 18 (.ia 1 32 i (hi := hi9)) 3 ?_
  refine rld 19 (hH.q 1 rfl) (.ld cByte ((mx8 (-t) i q.2 p.2) i) (fun _ hS => ((holds_blk0 hS).snd.elt hi9))) 1 ?_
  refine rv 20 (.xb (((mx8 (-t) i p.2 q.2) i) ^^^ ((mx8 (-t) i q.2 p.2) i)) (u := ((mx8 (-t) i p.2 q.2) i)) (v := ((mx8 (-t) i q.2 p.2) i))) 3 ?_
  refine rv 21 (.ab ((-t) &&& (((mx8 (-t) i p.2 q.2) i) ^^^ ((mx8 (-t) i q.2 p.2) i))) (u := (-t)) (v := (((mx8 (-t) i p.2 q.2) i) ^^^ ((mx8 (-t) i q.2 p.2) i)))) 3 ?_
  refine rv 22 .mv 2 ?_
  refine rv 23 .mv 2 ?_
  refine rn ?_
  simp only [mx8_at]
  refine zr ?_
  refine zv .mv 0 ?_
  refine zv (.fld 0) 0 ?_
  have hi10 : i < 32 := by omega
  refine zv (.ia 1 32 i (hi := hi10)) 1 ?_
  refine zs (hH.q 0 rfl) (.ld cByte ((mx8 (-t) i p.1 q.1) i) (fun _ hS => ((holds_blk0 hS).fst.elt hi10))) 1 ?_
  refine zv .mv 0 ?_
  refine zv (.xb (((mx8 (-t) i p.1 q.1) i) ^^^ (-t &&& (p.1 i ^^^ q.1 i))) (u := ((mx8 (-t) i p.1 q.1) i)) (v := (-t &&& (p.1 i ^^^ q.1 i)))) 3 ?_
  refine zv (.fld 0) 0 ?_
  have hi11 : i < 32 := by omega
  refine zv (.ia 1 32 i (hi := hi11)) 5 ?_
  refine ze0 0 hH rfl (.st cByte (((mx8 (-t) i p.1 q.1) i) ^^^ (-t &&& (p.1 i ^^^ q.1 i))) (by rw [Cod.size]; show 0 + i * 1 + 1 ≤ 64; omega) (put_fst (arr_set0 (mx8 (-t) i p.1 q.1) (((mx8 (-t) i p.1 q.1) i) ^^^ (-t &&& (p.1 i ^^^ q.1 i))) hi11) (by show 0 + i * 1 + 1 ≤ 32; omega))) trivial ?_
  clear hH
  rintro _ _ w rfl hH
  refine zn ?_
  replace hH : HH w0 [] [[bl g1 87 (cP2.enc ((mx8 (-t) (i + 1) p.1 q.1), (mx8 (-t) i p.2 q.2)))], [bl g2 87 (cP2.enc ((mx8 (-t) i q.1 p.1), (mx8 (-t) i q.2 p.2)))], [bl g3 87 (cP2.enc (fun _ => 0, fun _ => 0))], [bl g4 87 (cP2.enc (fun _ => 0, fun _ => 0))]] w := by rw [mx8_at, mx8_succ] at hH; exact hH
  refine zr ?_
  refine zv .mv 3 ?_
  refine zv (.fld 0) 0 ?_
  have hi12 : i < 32 := by omega
  refine zv (.ia 1 32 i (hi := hi12)) 1 ?_
  refine zs (hH.q 1 rfl) (.ld cByte ((mx8 (-t) i q.1 p.1) i) (fun _ hS => ((holds_blk0 hS).fst.elt hi12))) 1 ?_
  refine zv .mv 8 ?_
  refine zv (.xb (((mx8 (-t) i q.1 p.1) i) ^^^ (-t &&& (p.1 i ^^^ q.1 i))) (u := ((mx8 (-t) i q.1 p.1) i)) (v := (-t &&& (p.1 i ^^^ q.1 i)))) 3 ?_
  refine zv (.fld 0) 0 ?_
  have hi13 : i < 32 := by omega
  refine zv (.ia 1 32 i (hi := hi13)) 5 ?_
  refine ze0 1 hH rfl (.st cByte (((mx8 (-t) i q.1 p.1) i) ^^^ (-t &&& (p.1 i ^^^ q.1 i))) (by rw [Cod.size]; show 0 + i * 1 + 1 ≤ 64; omega) (put_fst (arr_set0 (mx8 (-t) i q.1 p.1) (((mx8 (-t) i q.1 p.1) i) ^^^ (-t &&& (p.1 i ^^^ q.1 i))) hi13) (by show 0 + i * 1 + 1 ≤ 32; omega))) trivial ?_
  clear hH
  rintro _ _ w rfl hH
  refine zn ?_
  replace hH : HH w0 [] [[bl g1 87 (cP2.enc ((mx8 (-t) (i + 1) p.1 q.1), (mx8 (-t) i p.2 q.2)))], [bl g2 87 (cP2.enc ((mx8 (-t) (i + 1) q.1 p.1), (mx8 (-t) i q.2 p.2)))], [bl g3 87 (cP2.enc (fun _ => 0, fun _ => 0))], [bl g4 87 (cP2.enc (fun _ => 0, fun _ => 0))]] w := by rw [mx8_at, mx8_succ'] at hH; exact hH
  refine zr ?_
  refine zv .mv 3 ?_
  refine zv (.fld 32) 0 ?_
  have hi14 : i < 32 := by omega
  refine zv (.ia 1 32 i (hi := hi14)) 1 ?_
  refine zs (hH.q 0 rfl) (.ld cByte ((mx8 (-t) i p.2 q.2) i) (fun _ hS => ((holds_blk0 hS).snd.elt hi14))) 1 ?_
  refine zv .mv 0 ?_
  refine zv (.xb (((mx8 (-t) i p.2 q.2) i) ^^^ (-t &&& (p.2 i ^^^ q.2 i))) (u := ((mx8 (-t) i p.2 q.2) i)) (v := (-t &&& (p.2 i ^^^ q.2 i)))) 3 ?_
  refine zv (.fld 32) 0 ?_
  have hi15 : i < 32 := by omega
  refine zv (.ia 1 32 i (hi := hi15)) 5 ?_
  refine ze0 0 hH rfl (.st cByte (((mx8 (-t) i p.2 q.2) i) ^^^ (-t &&& (p.2 i ^^^ q.2 i))) (by rw [Cod.size]; show 32 + i * 1 + 1 ≤ 64; omega) (put_snA (a := 32) (o := 32 + i * 1) (arr_set0 (mx8 (-t) i p.2 q.2) (((mx8 (-t) i p.2 q.2) i) ^^^ (-t &&& (p.2 i ^^^ q.2 i))) hi15) (by omega))) trivial ?_
  clear hH
  rintro _ _ w rfl hH
  refine zn ?_
  replace hH : HH w0 [] [[bl g1 87 (cP2.enc ((mx8 (-t) (i + 1) p.1 q.1), (mx8 (-t) (i + 1) p.2 q.2)))], [bl g2 87 (cP2.enc ((mx8 (-t) (i + 1) q.1 p.1), (mx8 (-t) i q.2 p.2)))], [bl g3 87 (cP2.enc (fun _ => 0, fun _ => 0))], [bl g4 87 (cP2.enc (fun _ => 0, fun _ => 0))]] w := by rw [mx8_at, mx8_succ] at hH; exact hH
  refine cxReg ?_
  refine zv .mv 11 ?_
  refine zv (.fld 32) 0 ?_
  have hi16 : i < 32 := by omega
  refine zv (.ia 1 32 i (hi := hi16)) 1 ?_
  refine zs (hH.q 1 rfl) (.ld cByte ((mx8 (-t) i q.2 p.2) i) (fun _ hS => ((holds_blk0 hS).snd.elt hi16))) 1 ?_
  refine zv .mv 4 ?_
  refine zv (.xb (((mx8 (-t) i q.2 p.2) i) ^^^ (-t &&& (p.2 i ^^^ q.2 i))) (u := ((mx8 (-t) i q.2 p.2) i)) (v := (-t &&& (p.2 i ^^^ q.2 i)))) 3 ?_
  refine zv (.fld 32) 0 ?_
  have hi17 : i < 32 := by omega
  refine zv (.ia 1 32 i (hi := hi17)) 5 ?_
  refine ze0 1 hH rfl (.st cByte (((mx8 (-t) i q.2 p.2) i) ^^^ (-t &&& (p.2 i ^^^ q.2 i))) (by rw [Cod.size]; show 32 + i * 1 + 1 ≤ 64; omega) (put_snA (a := 32) (o := 32 + i * 1) (arr_set0 (mx8 (-t) i q.2 p.2) (((mx8 (-t) i q.2 p.2) i) ^^^ (-t &&& (p.2 i ^^^ q.2 i))) hi17) (by omega))) trivial ?_
  clear hH
  rintro _ _ w rfl hH
  refine pxEnd ?_
  refine qxInN ?_
  refine qxThen ?_
  replace hH : HH w0 [] [[bl g1 87 (cP2.enc ((mx8 (-t) (i + 1) p.1 q.1), (mx8 (-t) (i + 1) p.2 q.2)))], [bl g2 87 (cP2.enc ((mx8 (-t) (i + 1) q.1 p.1), (mx8 (-t) (i + 1) q.2 p.2)))], [bl g3 87 (cP2.enc (fun _ => 0, fun _ => 0))], [bl g4 87 (cP2.enc (fun _ => 0, fun _ => 0))]] w := by rw [mx8_at, mx8_succ'] at hH; exact hH
  refine cxReg ?_
  refine zv (.add ((i + 1 : Nat) : Int)) 7 ?_
  refine zv .mv 1 ?_
  refine pxEnd ?_
  exact zR1 (i + 1) ⟨hH, (by omega)⟩ (by omega)
  refine cxExit ?_
  refine qxThenE ?_
  refine qxThenE ?_
  refine qxInE ?_
  refine qxThen ?_
  obtain rfl : i = 32 := by omega
  refine zx ?_
  replace hH := hH.drew
  refine rld 0 (hH.q 0 rfl) (.ld cP2 ((mx8 (-t) 32 p.1 q.1), (mx8 (-t) 32 p.2 q.2)) (fun _ hS => (holds_blk0 hS))) 71 ?_
  refine rld 1 (hH.q 1 rfl) (.ld cP2 ((mx8 (-t) 32 q.1 p.1), (mx8 (-t) 32 q.2 p.2)) (fun _ hS => (holds_blk0 hS))) 8 ?_
  refine rx1k 2 ?_
  refine re0 2 2 hH rfl (.sw cP2 (fun _ => 0, fun _ => 0) ((mx8 (-t) 32 p.1 q.1), (mx8 (-t) 32 p.2 q.2))) trivial (.keep (pgo [] (.nil _ []))) ?_
  clear hH
  rintro _ _ w rfl hH
  refine ⟨pcons (hH.blk 1 rfl) pnil, ?_⟩
  refine rx1k 3 ?_
  refine re0 3 3 hH rfl (.sw cP2 (fun _ => 0, fun _ => 0) ((mx8 (-t) 32 q.1 p.1), (mx8 (-t) 32 q.2 p.2))) trivial (pgo [] (.nil _ [])) ?_
  clear hH
  rintro _ _ w rfl hH
  refine ⟨pnil, ?_⟩
  refine rn ?_
  refine cxRet ?_
  refine qxRetCC 3 2 (hH.blk 2 rfl) (hH.blk 3 rfl) rfl rfl rfl (by kernel_rfl) (by kernel_rfl) (Cod.size _ _) (Cod.size _ _) (by kernel_rfl) (by kernel_rfl) ?_
  exact ⟨rfl, HH.toBelow hH⟩

set_option maxHeartbeats 8000000 in
theorem xPr_c (n u : Bt) : Pure Tryz.prog 39 #[((cArr 32).val n), ((cArr 32).val u)] (fun _ => True) ((cArr 32).val (xPr n u)) := by
  refine pure_of (fn := Tryz.f39) Tryz.func39 rfl Tryz.ntmps39 (Nat.le_of_ble_eq_true rfl) rfl ?_
  intro w0 hH hR
  refine zr ?_
  refine zm hH (.bx (cArr 32) n) trivial 1 ?_
  clear hH
  rintro _ _ w ⟨g1, rfl, rfl⟩ hH
  refine zm hH (.bx (cArr 32) u) trivial 2 ?_
  clear hH
  rintro _ _ w ⟨g2, rfl, rfl⟩ hH
  refine zm hH (.al (cArr 32) (fun _ => 0)) trivial 0 ?_
  clear hH
  rintro _ _ w ⟨g3, rfl, rfl⟩ hH
  refine zn ?_
  refine zx ?_
  replace hH := hH.drew
  refine rxPg 0 [pv 0 10 [] [] fun G => ((cArr 32).val oneB), pv 1 11 [0] [] fun G => (cP2.val (oneB, fun _ => 0)), ldv 2 12 [] [] [1001] fun G => ((cArr 32).val u), pv 3 13 [] [] fun G => ((cArr 32).val oneB), pv 4 14 [2, 3] [] fun G => (cP2.val (u, oneB)), alv 5 5 [] [] fun G g => [bl g 87 (cP2.enc (fun _ => 0, fun _ => 0))], alv 6 6 [] [] fun G g => [bl g 87 (cP2.enc (fun _ => 0, fun _ => 0))], stv 7 [1, 5] [5] 5 fun G => [bl (G 5).g 87 (cP2.enc (oneB, fun _ => 0))], stv 8 [4, 6] [6] 6 fun G => [bl (G 6).g 87 (cP2.enc (u, oneB))]] (fun G => [(5, (.pointer (some ⟨(G 5).g, 0, none⟩))), (6, (.pointer (some ⟨(G 6).g, 0, none⟩))), (4, (.pointer (some ⟨g3, 0, none⟩))), (3, (.pointer (some ⟨g2, 0, none⟩))), (2, (.pointer (some ⟨g1, 0, none⟩)))]) (fun G => [[bl g1 23 ((cArr 32).enc n)], [bl g2 23 ((cArr 32).enc u)], [bl g3 23 ((cArr 32).enc (fun _ => 0))], [bl (G 5).g 87 (cP2.enc (oneB, fun _ => 0))], [bl (G 6).g 87 (cP2.enc (u, oneB))]]) hH (.c (.v fun G => (fun _ _ hF => opBuildP (cells := (cArr 32).enc oneB) (vals := [(0, (.int .u8 1))]) rfl (EvP.cons (v := (.int .u8 1)) rfl EvP.nil) (by kernel_rfl) _)) <| .c (.v fun G => (fun _ _ hF => opBuildP (cells := cP2.enc (oneB, fun _ => 0)) (vals := [(0, ((cArr 32).val oneB))]) rfl (EvP.cons (v := ((cArr 32).val oneB)) (hF.ev 0 rfl) EvP.nil) (by kernel_rfl) _)) <| .c (.ld (fun G _ _ hH => (hH.q 0 rfl)) fun G => (.ld (cArr 32) u (fun _ hS => (holds_blk0 hS)))) <| .c (.v fun G => (fun _ _ hF => opBuildP (cells := (cArr 32).enc oneB) (vals := [(0, (.int .u8 1))]) rfl (EvP.cons (v := (.int .u8 1)) rfl EvP.nil) (by kernel_rfl) _)) <| .c (.v fun G => (fun _ _ hF => opBuildP (cells := cP2.enc (u, oneB)) rfl (EvP.cons (v := ((cArr 32).val u)) (hF.ev 0 rfl) (EvP.cons (v := ((cArr 32).val oneB)) (hF.ev 1 rfl) EvP.nil)) (built_pair (x := ((u, oneB) : Bt × Bt)) (by kernel_rfl) rfl rfl) _)) <| .c (.a (fun _ _ _ _ => trivial) (fun G => (.al cP2 (fun _ => 0, fun _ => 0))) fun _ _ _ h => h) <| .c (.a (fun _ _ _ _ => trivial) (fun G => (.al cP2 (fun _ => 0, fun _ => 0))) fun _ _ _ h => h) <| .c (.tn (fun G => (.sw cP2 (fun _ => 0, fun _ => 0) (oneB, fun _ => 0))) (fun _ _ _ _ => trivial) fun _ _ _ h => h) <| .c (.tn (fun G => (.sw cP2 (fun _ => 0, fun _ => 0) (u, oneB))) (fun _ _ _ _ => trivial) fun _ _ _ h => h) <| .nil) ?_
  clear hH
  rintro G w - hH
  revert hH
  generalize (G 5).g = g4
  generalize (G 6).g = g5
  intro hH
  refine rn ?_
  refine zr ?_
  refine zv .mv 0 ?_
  refine zn ?_
  refine cxSeq ?_
  replace hH : HH w0 [] [[bl g1 23 ((cArr 32).enc n)], [bl g2 23 ((cArr 32).enc u)], [bl g3 23 ((cArr 32).enc (fun _ => 0))], [bl g4 87 (cP2.enc ((xLad n u 0).2.1))], [bl g5 87 (cP2.enc (u, oneB))]] w := by exact hH
  replace hH : HH w0 [] [[bl g1 23 ((cArr 32).enc n)], [bl g2 23 ((cArr 32).enc u)], [bl g3 23 ((cArr 32).enc (fun _ => 0))], [bl g4 87 (cP2.enc ((xLad n u 0).2.1))], [bl g5 87 (cP2.enc ((xLad n u 0).2.2))]] w := by exact hH
  refine zr ?_
  refine zv .mv 0 ?_
  refine zn ?_
  refine cxBlock ?_
  refine zL1 (fun (k : Nat) => [(8, (.int .i64 (254 - (k : Int)))), (7, (.int .u8 ((((xLad n u k).1.toNat) : Nat) : Int))), (6, (.pointer (some ⟨g5, 0, none⟩))), (5, (.pointer (some ⟨g4, 0, none⟩))), (4, (.pointer (some ⟨g3, 0, none⟩))), (3, (.pointer (some ⟨g2, 0, none⟩))), (2, (.pointer (some ⟨g1, 0, none⟩)))]) (fun k w => HH w0 [] [[bl g1 23 ((cArr 32).enc n)], [bl g2 23 ((cArr 32).enc u)], [bl g3 23 ((cArr 32).enc (fun _ => 0))], [bl g4 87 (cP2.enc ((xLad n u k).2.1))], [bl g5 87 (cP2.enc ((xLad n u k).2.2))]] w ∧ (k ≤ 255)) (fun k => 255 - k) 0 ⟨hH, (Nat.zero_le _)⟩ ?_
  clear hH
  rintro k w ⟨hH, hk⟩
  refine cxSeq ?_
  refine zr ?_
  refine zv .mv 0 ?_
  refine zv (v := (.bool (decide ((254 - (k : Int)) ≥ 0)))) (fun _ _ hF => opGeq rfl (hF.ev 0 rfl) rfl rfl) 1 ?_
  refine zn ?_
  refine zP (fun hc6 => ?_) (fun hc6 => ?_)
  refine cxSkip ?_
  refine qxThen ?_
  refine cxSeq ?_
  refine cxBlock ?_
  rw [show (254 : Int) - (k : Int) = ((254 - k : Nat) : Int) by omega]
  refine zr ?_
  refine zv .mv 1 ?_
  refine zv (v := (.int .i64 ((((254 - k) / 8) : Nat) : Int))) (fun _ _ hF => opQuo (z := (((254 - k) / 8 : Nat) : Int)) rfl (hF.ev 0 rfl) rfl (by omega) (wI quoN (by omega) (by omega))) 1 ?_
  have hi7 : (254 - k) / 8 < 32 := by omega
  refine zv (.ia 1 32 ((254 - k) / 8) (hi := hi7)) 1 ?_
  refine zs (hH.q 0 rfl) (.ld cByte (n ((254 - k) / 8)) (fun _ hS => ((holds_blk0 hS).elt hi7))) 1 ?_
  refine zv .mv 0 ?_
  refine zv (v := (.int .i64 ((((254 - k) % 8) : Nat) : Int))) (fun _ _ hF => opRem (z := (((254 - k) % 8 : Nat) : Int)) rfl (hF.ev 0 rfl) rfl (by omega) remN) 1 ?_
  refine zv (.rb ((254 - k) % 8) (u := (n ((254 - k) / 8)))) 3 ?_
  refine zv (.ab ((sr8 (n ((254 - k) / 8)) ((254 - k) % 8)) &&& (1 : UInt8)) (u := (sr8 (n ((254 - k) / 8)) ((254 - k) % 8))) (v := (1 : UInt8))) 1 ?_
  refine zv .mv 1 ?_
  refine zn ?_
  refine zr ?_
  refine zv .mv 4 ?_
  refine zv .mv 0 ?_
  refine zv (.xb ((xLad n u k).1 ^^^ ((sr8 (n ((254 - k) / 8)) ((254 - k) % 8)) &&& (1 : UInt8))) (u := (xLad n u k).1) (v := ((sr8 (n ((254 - k) / 8)) ((254 - k) % 8)) &&& (1 : UInt8)))) 3 ?_
  refine zs (hH.q 3 rfl) (.ld cP2 ((xLad n u k).2.1) (fun _ hS => (holds_blk0 hS))) 0 ?_
  refine zs (hH.q 4 rfl) (.ld cP2 ((xLad n u k).2.2) (fun _ hS => (holds_blk0 hS))) 0 ?_
  refine zc Tryz.func51 (sxP_c ((xLad n u k).1 ^^^ ((sr8 (n ((254 - k) / 8)) ((254 - k) % 8)) &&& (1 : UInt8))) ((xLad n u k).2.1) ((xLad n u k).2.2)) trivial hH 7 ?_
  clear hH
  intro w hH
  refine zv .mv 1 ?_
  refine zv .ext 0 ?_
  refine zv .ext 2 ?_
  refine ze0 3 hH rfl (.sw cP2 ((xLad n u k).2.1) (sxP ((xLad n u k).1 ^^^ ((sr8 (n ((254 - k) / 8)) ((254 - k) % 8)) &&& (1 : UInt8))) ((xLad n u k).2.1) ((xLad n u k).2.2))) trivial ?_
  clear hH
  rintro _ _ w rfl hH
  refine ze0 4 hH rfl (.sw cP2 ((xLad n u k).2.2) (sxP ((xLad n u k).1 ^^^ ((sr8 (n ((254 - k) / 8)) ((254 - k) % 8)) &&& (1 : UInt8))) ((xLad n u k).2.2) ((xLad n u k).2.1))) trivial ?_
  clear hH
  rintro _ _ w rfl hH
  refine zn ?_
  refine zx ?_
  replace hH := hH.drew
  refine rld 0 (hH.q 3 rfl) (.ld cP2 (sxP ((xLad n u k).1 ^^^ ((sr8 (n ((254 - k) / 8)) ((254 - k) % 8)) &&& (1 : UInt8))) ((xLad n u k).2.1) ((xLad n u k).2.2)) (fun _ hS => (holds_blk0 hS))) 3 ?_
  refine rld 2 (hH.q 3 rfl) (.ld cP2 (sxP ((xLad n u k).1 ^^^ ((sr8 (n ((254 - k) / 8)) ((254 - k) % 8)) &&& (1 : UInt8))) ((xLad n u k).2.1) ((xLad n u k).2.2)) (fun _ hS => (holds_blk0 hS))) 0 ?_
  refine rld 3 (hH.q 4 rfl) (.ld cP2 (sxP ((xLad n u k).1 ^^^ ((sr8 (n ((254 - k) / 8)) ((254 - k) % 8)) &&& (1 : UInt8))) ((xLad n u k).2.2) ((xLad n u k).2.1)) (fun _ hS => (holds_blk0 hS))) 0 ?_
  refine rld 4 (hH.q 1 rfl) (.ld (cArr 32) u (fun _ hS => (holds_blk0 hS))) 0 ?_
  refine rx1k 1 (rpc 1 Tryz.func52 (xDb_c (sxP ((xLad n u k).1 ^^^ ((sr8 (n ((254 - k) / 8)) ((254 - k) % 8)) &&& (1 : UInt8))) ((xLad n u k).2.1) ((xLad n u k).2.2))) trivial hH 8 (.keep (.keep (.keep (pgo [] (.nil _ []))))) ?_)
  clear hH
  intro w hH
  refine ⟨pcons (hH.blk 1 rfl) (pcons (hH.blk 4 rfl) (pcons (hH.blk 3 rfl) pnil)), ?_⟩
  refine rx1k 5 (rpc 5 Tryz.func53 (xPl_c (sxP ((xLad n u k).1 ^^^ ((sr8 (n ((254 - k) / 8)) ((254 - k) % 8)) &&& (1 : UInt8))) ((xLad n u k).2.1) ((xLad n u k).2.2)) (sxP ((xLad n u k).1 ^^^ ((sr8 (n ((254 - k) / 8)) ((254 - k) % 8)) &&& (1 : UInt8))) ((xLad n u k).2.2) ((xLad n u k).2.1)) u) trivial hH 14 (pgo [] (pgo [] (pgo [] (.nil _ [])))) ?_)
  clear hH
  intro w hH
  refine ⟨pnil, ?_⟩
  refine rx1k 6 ?_
  refine re0 6 3 hH rfl (.sw cP2 (sxP ((xLad n u k).1 ^^^ ((sr8 (n ((254 - k) / 8)) ((254 - k) % 8)) &&& (1 : UInt8))) ((xLad n u k).2.1) ((xLad n u k).2.2)) (xDb (sxP ((xLad n u k).1 ^^^ ((sr8 (n ((254 - k) / 8)) ((254 - k) % 8)) &&& (1 : UInt8))) ((xLad n u k).2.1) ((xLad n u k).2.2)))) trivial (.nil _ []) ?_
  clear hH
  rintro _ _ w rfl hH
  refine ⟨pnil, ?_⟩
  refine rx1k 7 ?_
  refine re0 7 4 hH rfl (.sw cP2 (sxP ((xLad n u k).1 ^^^ ((sr8 (n ((254 - k) / 8)) ((254 - k) % 8)) &&& (1 : UInt8))) ((xLad n u k).2.2) ((xLad n u k).2.1)) (xPl (sxP ((xLad n u k).1 ^^^ ((sr8 (n ((254 - k) / 8)) ((254 - k) % 8)) &&& (1 : UInt8))) ((xLad n u k).2.1) ((xLad n u k).2.2)) (sxP ((xLad n u k).1 ^^^ ((sr8 (n ((254 - k) / 8)) ((254 - k) % 8)) &&& (1 : UInt8))) ((xLad n u k).2.2) ((xLad n u k).2.1)) u)) trivial (.nil _ []) ?_
  clear hH
  rintro _ _ w rfl hH
  refine ⟨pnil, ?_⟩
  refine rn ?_
  replace hH : HH w0 [] [[bl g1 23 ((cArr 32).enc n)], [bl g2 23 ((cArr 32).enc u)], [bl g3 23 ((cArr 32).enc (fun _ => 0))], [bl g4 87 (cP2.enc ((xLad n u (k + 1)).2.1))], [bl g5 87 (cP2.enc (xPl (sxP ((xLad n u k).1 ^^^ ((sr8 (n ((254 - k) / 8)) ((254 - k) % 8)) &&& (1 : UInt8))) ((xLad n u k).2.1) ((xLad n u k).2.2)) (sxP ((xLad n u k).1 ^^^ ((sr8 (n ((254 - k) / 8)) ((254 - k) % 8)) &&& (1 : UInt8))) ((xLad n u k).2.2) ((xLad n u k).2.1)) u))]] w := by exact hH
  replace hH : HH w0 [] [[bl g1 23 ((cArr 32).enc n)], [bl g2 23 ((cArr 32).enc u)], [bl g3 23 ((cArr 32).enc (fun _ => 0))], [bl g4 87 (cP2.enc ((xLad n u (k + 1)).2.1))], [bl g5 87 (cP2.enc ((xLad n u (k + 1)).2.2))]] w := by exact hH
  refine cxReg ?_
  refine zv .mv 7 ?_
  refine zv .mv 1 ?_
  refine pxEnd ?_
  refine qxInN ?_
  refine qxThen ?_
  rw [show ((254 - k : Nat) : Int) = (254 : Int) - (k : Int) by omega]
  refine cxReg ?_
  refine zv .mv 2 ?_
  refine zv (.sub (254 - ((k + 1 : Nat) : Int))) 1 ?_
  refine zv .mv 1 ?_
  refine pxEnd ?_
  exact zR1 (k + 1) ⟨hH, (by omega)⟩ (by omega)
  refine cxExit ?_
  refine qxThenE ?_
  refine qxThenE ?_
  refine qxInE ?_
  refine qxThen ?_
  obtain rfl : k = 255 := by omega
  refine zx ?_
  replace hH := hH.drew
  refine rv 0 (.fld 0) 207 ?_
  refine rld 1 (hH.q 3 rfl) (.ld (cArr 32) (((xLad n u 255).2.1).1) (fun _ hS => (holds_blk0 hS).fst)) 1 ?_
  refine rv 2 (.fld 32) 2 ?_
  refine rld 3 (hH.q 3 rfl) (.ld (cArr 32) (((xLad n u 255).2.1).2) (fun _ hS => (holds_blk0 hS).snd)) 1 ?_
  refine rx1k 4 (rpc 4 Tryz.func55 (fI_c (((xLad n u 255).2.1).2)) trivial hH 1 (pgo [] (.keep (.nil _ []))) ?_)
  clear hH
  intro w hH
  refine ⟨pcons (hH.blk 3 rfl) pnil, ?_⟩
  refine rx1k 5 (rpc 5 Tryz.func54 (fM_c (((xLad n u 255).2.1).1) (fI (((xLad n u 255).2.1).2))) trivial hH 3 (pgo [] (.nil _ [])) ?_)
  clear hH
  intro w hH
  refine ⟨pnil, ?_⟩
  refine rx1k 6 ?_
  refine re0 6 2 hH rfl (.sw (cArr 32) (fun _ => 0) (fM (((xLad n u 255).2.1).1) (fI (((xLad n u 255).2.1).2)))) trivial (.nil _ []) ?_
  clear hH
  rintro _ _ w rfl hH
  refine ⟨pnil, ?_⟩
  refine rn ?_
  refine cxRet ?_
  refine qxRetC 1 (hH.blk 2 rfl) rfl rfl (by kernel_rfl) (Cod.size _ _) (by kernel_rfl) ?_
  exact ⟨rfl, HH.toBelow hH⟩

set_option maxHeartbeats 8000000 in
theorem xNm_c (s : Bt) : Pure Tryz.prog 40 #[((cArr 32).val s)] (fun _ => True) ((cArr 32).val (xNm s)) := by
  refine pure_of (fn := Tryz.f40) Tryz.func40 rfl Tryz.ntmps40 (Nat.le_of_ble_eq_true rfl) rfl ?_
  intro w0 hH hR
  refine zr ?_
  refine zm hH (.bx (cArr 32) s) trivial 1 ?_
  clear hH
  rintro _ _ w ⟨g1, rfl, rfl⟩ hH
  refine zm hH (.al (cArr 32) (fun _ => 0)) trivial 0 ?_
  clear hH
  rintro _ _ w ⟨g2, rfl, rfl⟩ hH
  refine zn ?_
  refine zr ?_
  have hi3 : 0 < 32 := by omega
  refine zv (.ia 1 32 0 (hi := hi3)) 0 ?_
  refine zs (hH.q 0 rfl) (.ld cByte (s 0) (fun _ hS => ((holds_blk0 hS).elt hi3))) 1 ?_
  refine zv (.nb ((s 0) &&& ~~~(7 : UInt8)) (u := (s 0)) (v := (7 : UInt8))) 1 ?_
  have hi4 : 0 < 32 := by omega
  refine zv (.ia 1 32 0 (hi := hi4)) 0 ?_
  refine ze0 0 hH rfl (.st cByte ((s 0) &&& ~~~(7 : UInt8)) (room_1 (S := sBy) (C := (cArr 32)) rfl hi4) (arr_set0 s ((s 0) &&& ~~~(7 : UInt8)) hi4)) trivial ?_
  clear hH
  rintro _ _ w rfl hH
  refine zn ?_
  refine zr ?_
  have hi5 : 31 < 32 := by omega
  refine zv (.ia 1 32 31 (hi := hi5)) 3 ?_
  refine zs (hH.q 0 rfl) (.ld cByte ((stF s 0 ((s 0) &&& ~~~(7 : UInt8))) 31) (fun _ hS => ((holds_blk0 hS).elt hi5))) 1 ?_
  refine zv (.nb (((stF s 0 ((s 0) &&& ~~~(7 : UInt8))) 31) &&& ~~~(128 : UInt8)) (u := ((stF s 0 ((s 0) &&& ~~~(7 : UInt8))) 31)) (v := (128 : UInt8))) 1 ?_
  refine zv (.ob ((((stF s 0 ((s 0) &&& ~~~(7 : UInt8))) 31) &&& ~~~(128 : UInt8)) ||| (64 : UInt8)) (u := (((stF s 0 ((s 0) &&& ~~~(7 : UInt8))) 31) &&& ~~~(128 : UInt8))) (v := (64 : UInt8))) 1 ?_
  have hi6 : 31 < 32 := by omega
  refine zv (.ia 1 32 31 (hi := hi6)) 0 ?_
  refine ze0 0 hH rfl (.st cByte ((((stF s 0 ((s 0) &&& ~~~(7 : UInt8))) 31) &&& ~~~(128 : UInt8)) ||| (64 : UInt8)) (room_1 (S := sBy) (C := (cArr 32)) rfl hi6) (arr_set0 (stF s 0 ((s 0) &&& ~~~(7 : UInt8))) ((((stF s 0 ((s 0) &&& ~~~(7 : UInt8))) 31) &&& ~~~(128 : UInt8)) ||| (64 : UInt8)) hi6)) trivial ?_
  clear hH
  rintro _ _ w rfl hH
  refine zn ?_
  refine zr ?_
  refine zs (hH.q 0 rfl) (.ld (cArr 32) (stF (stF s 0 ((s 0) &&& ~~~(7 : UInt8))) 31 ((((stF s 0 ((s 0) &&& ~~~(7 : UInt8))) 31) &&& ~~~(128 : UInt8)) ||| (64 : UInt8))) (fun _ hS => (holds_blk0 hS))) 11 ?_
  refine ze0 1 hH rfl (.sw (cArr 32) (fun _ => 0) (stF (stF s 0 ((s 0) &&& ~~~(7 : UInt8))) 31 ((((stF s 0 ((s 0) &&& ~~~(7 : UInt8))) 31) &&& ~~~(128 : UInt8)) ||| (64 : UInt8)))) trivial ?_
  clear hH
  rintro _ _ w rfl hH
  refine zn ?_
  refine cxRet ?_
  refine qxRetC 1 (hH.blk 1 rfl) rfl rfl (by kernel_rfl) (Cod.size _ _) (by kernel_rfl) ?_
  exact ⟨rfl, HH.toBelow hH⟩

set_option maxHeartbeats 8000000 in
theorem xPt_c (u : Bt) : Pure Tryz.prog 41 #[((cArr 32).val u)] (fun _ => True) ((cArr 32).val (xPt u)) := by
  refine pure_of (fn := Tryz.f41) Tryz.func41 rfl Tryz.ntmps41 (Nat.le_of_ble_eq_true rfl) rfl ?_
  intro w0 hH hR
  refine zr ?_
  refine zm hH (.bx (cArr 32) u) trivial 1 ?_
  clear hH
  rintro _ _ w ⟨g1, rfl, rfl⟩ hH
  refine zm hH (.al (cArr 32) (fun _ => 0)) trivial 0 ?_
  clear hH
  rintro _ _ w ⟨g2, rfl, rfl⟩ hH
  refine zn ?_
  refine zr ?_
  have hi3 : 31 < 32 := by omega
  refine zv (.ia 1 32 31 (hi := hi3)) 0 ?_
  refine zs (hH.q 0 rfl) (.ld cByte (u 31) (fun _ hS => ((holds_blk0 hS).elt hi3))) 1 ?_
  refine zv (.nb ((u 31) &&& ~~~(128 : UInt8)) (u := (u 31)) (v := (128 : UInt8))) 1 ?_
  have hi4 : 31 < 32 := by omega
  refine zv (.ia 1 32 31 (hi := hi4)) 0 ?_
  refine ze0 0 hH rfl (.st cByte ((u 31) &&& ~~~(128 : UInt8)) (room_1 (S := sBy) (C := (cArr 32)) rfl hi4) (arr_set0 u ((u 31) &&& ~~~(128 : UInt8)) hi4)) trivial ?_
  clear hH
  rintro _ _ w rfl hH
  refine zn ?_
  refine zr ?_
  refine zs (hH.q 0 rfl) (.ld (cArr 32) (stF u 31 ((u 31) &&& ~~~(128 : UInt8))) (fun _ hS => (holds_blk0 hS))) 11 ?_
  refine ze0 1 hH rfl (.sw (cArr 32) (fun _ => 0) (stF u 31 ((u 31) &&& ~~~(128 : UInt8)))) trivial ?_
  clear hH
  rintro _ _ w rfl hH
  refine zn ?_
  refine cxRet ?_
  refine qxRetC 1 (hH.blk 1 rfl) rfl rfl (by kernel_rfl) (Cod.size _ _) (by kernel_rfl) ?_
  exact ⟨rfl, HH.toBelow hH⟩

set_option maxHeartbeats 8000000 in
theorem xMulB_c (s u : Bt) : Pure Tryz.prog 32 #[((cArr 32).val s), ((cArr 32).val u)] (fun _ => True) ((cArr 32).val (xMulB s u)) := by
  refine pure_of (fn := Tryz.f32) Tryz.func32 rfl Tryz.ntmps32 (Nat.le_of_ble_eq_true rfl) rfl ?_
  intro w0 hH hR
  refine zr ?_
  refine zm hH (.bx (cArr 32) s) trivial 1 ?_
  clear hH
  rintro _ _ w ⟨g1, rfl, rfl⟩ hH
  refine zm hH (.bx (cArr 32) u) trivial 2 ?_
  clear hH
  rintro _ _ w ⟨g2, rfl, rfl⟩ hH
  refine zm hH (.al (cArr 32) (fun _ => 0)) trivial 0 ?_
  clear hH
  rintro _ _ w ⟨g3, rfl, rfl⟩ hH
  refine zn ?_
  refine zx ?_
  replace hH := hH.drew
  refine rld 0 (hH.q 0 rfl) (.ld (cArr 32) s (fun _ hS => (holds_blk0 hS))) 4 ?_
  refine rld 2 (hH.q 1 rfl) (.ld (cArr 32) u (fun _ hS => (holds_blk0 hS))) 4 ?_
  refine rx1k 1 (rpc 1 Tryz.func40 (xNm_c s) trivial hH 2 (.keep (pgo [] (.nil _ []))) ?_)
  clear hH
  intro w hH
  refine ⟨pcons (hH.blk 1 rfl) pnil, ?_⟩
  refine rx1k 3 (rpc 3 Tryz.func41 (xPt_c u) trivial hH 2 (pgo [] (.nil _ [])) ?_)
  clear hH
  intro w hH
  refine ⟨pnil, ?_⟩
  refine rx1k 4 (rpc 4 Tryz.func39 (xPr_c (xNm s) (xPt u)) trivial hH 3 (.nil _ []) ?_)
  clear hH
  intro w hH
  refine ⟨pnil, ?_⟩
  refine rx1k 5 ?_
  refine re0 5 2 hH rfl (.sw (cArr 32) (fun _ => 0) (xPr (xNm s) (xPt u))) trivial (.nil _ []) ?_
  clear hH
  rintro _ _ w rfl hH
  refine ⟨pnil, ?_⟩
  refine rn ?_
  refine cxRet ?_
  refine qxRetC 1 (hH.blk 2 rfl) rfl rfl (by kernel_rfl) (Cod.size _ _) (by kernel_rfl) ?_
  exact ⟨rfl, HH.toBelow hH⟩

set_option maxHeartbeats 8000000 in
theorem xPub_c (s : Bt) : Pure Tryz.prog 20 #[((cArr 32).val s)] (fun _ => True) ((cArr 32).val (xPub s)) := by
  refine pure_of (fn := Tryz.f20) Tryz.func20 rfl Tryz.ntmps20 (Nat.le_of_ble_eq_true rfl) rfl ?_
  intro w0 hH hR
  refine zr ?_
  refine zm hH (.bx (cArr 32) s) trivial 1 ?_
  clear hH
  rintro _ _ w ⟨g1, rfl, rfl⟩ hH
  refine zm hH (.al (cArr 32) (fun _ => 0)) trivial 0 ?_
  clear hH
  rintro _ _ w ⟨g2, rfl, rfl⟩ hH
  refine zn ?_
  refine zr ?_
  refine zs (hH.q 0 rfl) (.ld (cArr 32) s (fun _ hS => (holds_blk0 hS))) 2 ?_
  refine zv (v := ((cArr 32).val nineE)) (fun _ _ hF => opBuildP (cells := (cArr 32).enc nineE) (vals := [(0, (.int .u8 9))]) rfl (EvP.cons (v := (.int .u8 9)) rfl EvP.nil) (by kernel_rfl) _) 0 ?_
  refine zc Tryz.func32 (xMulB_c s nineE) trivial hH 3 ?_
  clear hH
  intro w hH
  refine ze0 1 hH rfl (.sw (cArr 32) (fun _ => 0) (xMulB s nineE)) trivial ?_
  clear hH
  rintro _ _ w rfl hH
  refine zn ?_
  refine cxRet ?_
  refine qxRetC 1 (hH.blk 1 rfl) rfl rfl (by kernel_rfl) (Cod.size _ _) (by kernel_rfl) ?_
  exact ⟨rfl, HH.toBelow hH⟩
end Go.Proofs.YtbbegnfopdihaaaGreatDoor

namespace Go.Proofs.YtbbegnfopdihaaaGreatDoor
open Go Go.RowKit
set_option maxRecDepth 100000

abbrev cKy : Cod (Bt × Bt) := cPair (cArr 32) (cArr 32)

set_option maxHeartbeats 8000000 in
theorem four_c (n : Nat) : Does Tryz.prog 11 #[(.int .u32 (((n) : Nat) : Int))] [] (fun _ => True) (fun v E' => ∃ g, v = .slice (some ⟨g, 0, none⟩) 4 4 ∧ E' = [bl g 5 (flat cByte (b4 n)).toArray]) := by
  refine does_of (fn := Tryz.f11) Tryz.func11 rfl Tryz.ntmps11 (Nat.le_of_ble_eq_true rfl) rfl ?_
  intro w0 hH hR
  replace hH : HH w0 [] [] w0 := hH.only [false]
  refine zr ?_
  refine zv .mv 0 ?_
  refine zn ?_
  refine zr ?_
  refine zv .mv 1 ?_
  refine zv (v := (.int .u32 (((n / 2 ^ 24) : Nat) : Int))) (fun _ _ hF => opShrU (n := 24) (z := (n / 2 ^ 24)) rfl (hF.ev 0 rfl) rfl (leb rfl) (rfl)) 1 ?_
  refine zv .cb 1 ?_
  refine zv .mv 0 ?_
  refine zv (v := (.int .u32 (((n / 2 ^ 16) : Nat) : Int))) (fun _ _ hF => opShrU (n := 16) (z := (n / 2 ^ 16)) rfl (hF.ev 0 rfl) rfl (leb rfl) (rfl)) 1 ?_
  refine zv .cb 1 ?_
  refine zv .mv 0 ?_
  refine zv (v := (.int .u32 (((n / 2 ^ 8) : Nat) : Int))) (fun _ _ hF => opShrU (n := 8) (z := (n / 2 ^ 8)) rfl (hF.ev 0 rfl) rfl (leb rfl) (rfl)) 1 ?_
  refine zv .cb 1 ?_
  refine zv .mv 8 ?_
  refine zv .cb 1 ?_
  refine zm hH (fun _ hF => smLits (C := cByte) (e := 5) (z := (.int .u8 0)) (by_ := 1) [(UInt8.ofNat (n / 2 ^ 24)), (UInt8.ofNat (n / 2 ^ 16)), (UInt8.ofNat (n / 2 ^ 8)), (UInt8.ofNat n)] rfl (by kernel_rfl) (by kernel_rfl) (EvP.cons (v := cByte.val (UInt8.ofNat (n / 2 ^ 24))) (hF.ev 3 rfl) (EvP.cons (v := cByte.val (UInt8.ofNat (n / 2 ^ 16))) (hF.ev 2 rfl) (EvP.cons (v := cByte.val (UInt8.ofNat (n / 2 ^ 8))) (hF.ev 1 rfl) (EvP.cons (v := cByte.val (UInt8.ofNat n)) (hF.ev 0 rfl) EvP.nil)))) rfl (ltb rfl) (leb rfl) rfl) trivial 15 ?_
  clear hH
  rintro _ _ w ⟨g1, rfl, rfl⟩ hH
  refine zv .mv 1 ?_
  refine zn ?_
  refine cxRet ?_
  refine qxRet1 0 rfl rfl ?_
  exact ⟨_, _, rfl, ⟨_, rfl, rfl⟩, hH.out1 [true] rfl⟩

set_option maxHeartbeats 8000000 in
theorem kp_c (t : Nat) (a : UInt8) (p : Bt) : Does Tryz.prog 5 #[(.int .u32 (((t) : Nat) : Int)), (.int .u8 (((a.toNat) : Nat) : Int)), ((cArr 32).val p)] [] (fun _ => True) (fun v E' => OwnT cByte 5 v (kpL t a p) E') := by
  refine does_of (fn := Tryz.f5) Tryz.func5 rfl Tryz.ntmps5 (Nat.le_of_ble_eq_true rfl) rfl ?_
  intro w0 hH hR
  replace hH : HH w0 [] [] w0 := hH.only [false]
  refine zr ?_
  refine zm hH (.bx (cArr 32) p) trivial 4 ?_
  clear hH
  rintro _ _ w ⟨g1, rfl, rfl⟩ hH
  refine zv .mv 0 ?_
  refine zn ?_
  refine zx ?_
  replace hH := hH.drew
  refine rxPg 2 [mkv 0 7 [] [] (fun G g => (.slice (some ⟨g, 0, none⟩) 1 1)) fun G g => [bl g 5 (cByte.enc 6)], pv 1 8 [] [] fun G => (.int .u32 (((t) : Nat) : Int)), mkv 2 9 [1] [] (fun G g => (.slice (some ⟨g, 0, none⟩) 4 4)) fun G g => [bl g 5 (flat cByte (b4 t)).toArray], pv 3 10 [] [] fun G => (.int .u8 (((a.toNat) : Nat) : Int)), mkv 4 11 [3] [] (fun G g => (.slice (some ⟨g, 0, none⟩) 1 1)) fun G g => [bl g 5 (cByte.enc a)], mkv 5 12 [] [] (fun G g => (.slice (some ⟨g, 0, none⟩) 4 4)) fun G g => [bl g 5 (flat cByte (b4 32)).toArray], pv 6 13 [] [] fun G => (.slice (some ⟨g1, 0, none⟩) 32 32), mkv 7 14 [0, 2, 4, 5, 6] [0, 2, 4, 5] (fun G g => (.slice (some ⟨g, 0, none⟩) 5 5)) fun G g => [bl g 24 (flat cSl [((some ⟨(G 0).g, 0, none⟩), 1, 1), ((some ⟨(G 2).g, 0, none⟩), 4, 4), ((some ⟨(G 4).g, 0, none⟩), 1, 1), ((some ⟨(G 5).g, 0, none⟩), 4, 4), ((some ⟨g1, 0, none⟩), 32, 32)]).toArray]] (fun G => [(14, (.slice (some ⟨(G 7).g, 0, none⟩) 5 5)), (6, (.slice none 0 0))]) (fun G => [[bl g1 23 ((cArr 32).enc p)], [bl (G 0).g 5 (cByte.enc 6)], [bl (G 2).g 5 (flat cByte (b4 t)).toArray], [bl (G 4).g 5 (cByte.enc a)], [bl (G 5).g 5 (flat cByte (b4 32)).toArray], [bl (G 7).g 24 (flat cSl [((some ⟨(G 0).g, 0, none⟩), 1, 1), ((some ⟨(G 2).g, 0, none⟩), 4, 4), ((some ⟨(G 4).g, 0, none⟩), 1, 1), ((some ⟨(G 5).g, 0, none⟩), 4, 4), ((some ⟨g1, 0, none⟩), 32, 32)]).toArray]]) hH (.c (.a (fun _ _ _ _ => trivial) (fun G => (fun _ hF => smLit1 (e := 5) (sz := 1) (z := (.int .u8 0)) (by_ := 1) (cs := cByte.enc 6) rfl (by kernel_rfl) (by kernel_rfl) rfl (cByte.len 6) (ltb rfl) (leb rfl) rfl)) fun _ _ _ h => h) <| .c (.v fun G => .mv) <| .c (.a (fun _ _ _ _ => trivial) (fun G => (.call Tryz.func11 (four_c t))) fun _ _ _ h => h) <| .c (.v fun G => .mv) <| .c (.a (fun _ _ _ _ => trivial) (fun G => (fun _ hF => smLit1 (e := 5) (sz := 1) (z := (.int .u8 0)) (by_ := 1) (cs := cByte.enc a) rfl (by kernel_rfl) (by kernel_rfl) (hF.ev 0 rfl) (cByte.len a) (ltb rfl) (leb rfl) rfl)) fun _ _ _ h => h) <| .c (.a (fun _ _ _ _ => trivial) (fun G => (.call Tryz.func11 (four_c 32))) fun _ _ _ h => h) <| .c (.v fun G => (fun _ _ hF => opSliceA (n := 32) (e := 5) (sz := 1) rfl (by kernel_rfl) (by kernel_rfl) (hF.ev 1 rfl))) <| .c (.a (fun _ _ _ _ => trivial) (fun G => (fun _ hF => smLits (C := cSl) (e := 24) (z := (.slice none 0 0)) (by_ := 24) [((some ⟨(G 0).g, 0, none⟩), 1, 1), ((some ⟨(G 2).g, 0, none⟩), 4, 4), ((some ⟨(G 4).g, 0, none⟩), 1, 1), ((some ⟨(G 5).g, 0, none⟩), 4, 4), ((some ⟨g1, 0, none⟩), 32, 32)] rfl (by kernel_rfl) (by kernel_rfl) (EvP.cons (v := cSl.val ((some ⟨(G 0).g, 0, none⟩), 1, 1)) (hF.ev 0 rfl) (EvP.cons (v := cSl.val ((some ⟨(G 2).g, 0, none⟩), 4, 4)) (hF.ev 1 rfl) (EvP.cons (v := cSl.val ((some ⟨(G 4).g, 0, none⟩), 1, 1)) (hF.ev 2 rfl) (EvP.cons (v := cSl.val ((some ⟨(G 5).g, 0, none⟩), 4, 4)) (hF.ev 3 rfl) (EvP.cons (v := cSl.val ((some ⟨g1, 0, none⟩), 32, 32)) (hF.ev 4 rfl) EvP.nil))))) rfl (ltb rfl) (leb rfl) rfl)) fun _ _ _ h => h) <| .nil) ?_
  clear hH
  rintro G w - hH
  revert hH
  generalize (G 0).g = g2
  generalize (G 2).g = g3
  generalize (G 4).g = g4
  generalize (G 5).g = g5
  generalize (G 7).g = g6
  intro hH
  refine rx1k 8 ?_
  refine rm 8 hH (.call Tryz.func10 ((concat_c (some ⟨g6, 0, none⟩) 5 5 [((some ⟨g2, 0, none⟩), 1, 1), ((some ⟨g3, 0, none⟩), 4, 4), ((some ⟨g4, 0, none⟩), 1, 1), ((some ⟨g5, 0, none⟩), 4, 4), ((some ⟨g1, 0, none⟩), 32, 32)] [[6], (b4 t), [a], (b4 32), (lst 32 p)] rfl (by decide) (by simp only [List.flatten_cons, List.flatten_nil, List.length_append, List.length_cons, List.length_nil, b4_len, lst_len]; omega)))) (⟨((Bk.lits (C := cSl) [((some ⟨g2, 0, none⟩), 1, 1), ((some ⟨g3, 0, none⟩), 4, 4), ((some ⟨g4, 0, none⟩), 1, 1), ((some ⟨g5, 0, none⟩), 4, 4), ((some ⟨g1, 0, none⟩), 32, 32)] (by show 5 ≤ _; unfold maxLen; decide)).vu (n := 5) (hH.blk 5 rfl) rfl), (.cons ((Bk.lit1 (C := cByte) 6).vu (n := 1) (hH.blk 1 rfl) rfl) (.cons ((Bk.lits (C := cByte) (b4 t) (by show 4 ≤ _; unfold maxLen; decide)).vu (n := 4) (hH.blk 2 rfl) rfl) (.cons ((Bk.lit1 (C := cByte) a).vu (n := 1) (hH.blk 3 rfl) rfl) (.cons ((Bk.lits (C := cByte) (b4 32) (by show 4 ≤ _; unfold maxLen; decide)).vu (n := 4) (hH.blk 4 rfl) rfl) (.cons (vu_arr (hH.blk 0 rfl)) ViewsL.nil)))))⟩) 1 (.nil _ []) ?_
  clear hH
  rintro v11 E7 w hO8 hH
  obtain ⟨A9, c10, rfl⟩ := hO8.slice
  refine ⟨pnil, ?_⟩
  refine rv 9 .mv 3 ?_
  refine rn ?_
  refine cxRet ?_
  refine qxRet1 0 rfl rfl ?_
  exact ⟨_, _, rfl,  hO8, hH.out1 [false, false, false, false, false, false, true] rfl⟩

set_option maxHeartbeats 8000000 in
theorem hf_c (A : Option Addr) (n c : Nat) (l : List UInt8) (hb : n ≤ 100000) : Does Tryz.prog 15 #[(.slice A n c)] [] (fun w => Vu cByte w A n c l) (fun v E' => OwnT cByte 5 v (hfL l) E') := by
  refine does_of (fn := Tryz.f15) Tryz.func15 rfl Tryz.ntmps15 (Nat.le_of_ble_eq_true rfl) rfl ?_
  intro w0 hH hR
  replace hH : HH w0 [] [] w0 := hH.only [false]
  have hn := hR.len
  refine zr ?_
  refine zv .mv 0 ?_
  refine zn ?_
  refine zr ?_
  refine zm hH (fun _ hF => smLit1 (e := 5) (sz := 1) (z := (.int .u8 0)) (by_ := 1) (cs := cByte.enc 155) rfl (by kernel_rfl) (by kernel_rfl) rfl (cByte.len 155) (ltb rfl) (leb rfl) rfl) trivial 1 ?_
  clear hH
  rintro _ _ w ⟨g1, rfl, rfl⟩ hH
  refine zv .mv 0 ?_
  refine zv .len 1 ?_
  refine zv (.cu .u32) 1 ?_
  refine zm hH (.call Tryz.func11 (four_c n)) trivial 1 ?_
  clear hH
  rintro _ _ w ⟨g2, rfl, rfl⟩ hH
  refine zv .mv 4 ?_
  refine zm hH (fun _ hF => smLits (C := cSl) (e := 24) (z := (.slice none 0 0)) (by_ := 24) [((some ⟨g1, 0, none⟩), 1, 1), ((some ⟨g2, 0, none⟩), 4, 4), (A, n, c)] rfl (by kernel_rfl) (by kernel_rfl) (EvP.cons (v := cSl.val ((some ⟨g1, 0, none⟩), 1, 1)) (hF.ev 2 rfl) (EvP.cons (v := cSl.val ((some ⟨g2, 0, none⟩), 4, 4)) (hF.ev 1 rfl) (EvP.cons (v := cSl.val (A, n, c)) (hF.ev 0 rfl) EvP.nil))) rfl (ltb rfl) (leb rfl) rfl) trivial 7 ?_
  clear hH
  rintro _ _ w ⟨g3, rfl, rfl⟩ hH
  refine zm hH (.call Tryz.func10 ((concat_c (some ⟨g3, 0, none⟩) 3 3 [((some ⟨g1, 0, none⟩), 1, 1), ((some ⟨g2, 0, none⟩), 4, 4), (A, n, c)] [[155], (b4 n), l] rfl (by decide) (by simp only [List.flatten_cons, List.flatten_nil, List.length_append, List.length_cons, List.length_nil, b4_len]; omega)))) (⟨((Bk.lits (C := cSl) [((some ⟨g1, 0, none⟩), 1, 1), ((some ⟨g2, 0, none⟩), 4, 4), (A, n, c)] (by show 3 ≤ _; unfold maxLen; decide)).vu (n := 3) (hH.blk 2 rfl) rfl), (.cons ((Bk.lit1 (C := cByte) 155).vu (n := 1) (hH.blk 0 rfl) rfl) (.cons ((Bk.lits (C := cByte) (b4 n) (by show 4 ≤ _; unfold maxLen; decide)).vu (n := 4) (hH.blk 1 rfl) rfl) (.cons (hH.vu hR (by decide) (Off.nil _ _)) ViewsL.nil)))⟩) 1 ?_
  clear hH
  rintro v8 E4 w hO5 hH
  obtain ⟨A6, c7, rfl⟩ := hO5.slice
  refine zv .mv 1 ?_
  refine zn ?_
  refine cxRet ?_
  refine qxRet1 0 rfl rfl ?_
  subst hn
  exact ⟨_, _, rfl,  hO5, hH.out1 [false, false, false, true] rfl⟩

set_option maxHeartbeats 8000000 in
theorem fp_c (A : Option Addr) (n c : Nat) (l : List UInt8) (hb : n ≤ 100000) : Pure Tryz.prog 7 #[(.slice A n c)] (fun w => w.heap[1]? = some (.cells ((cWs 64).enc K32) 51 (0, 0)) ∧ w.heap[0]? = some (.cells ((cWs 8).enc H32) 50 (0, 0)) ∧ Vu cByte w A n c l) ((cArr 32).val (sha (hfL l))) := by
  refine pure_of (fn := Tryz.f7) Tryz.func7 rfl Tryz.ntmps7 (Nat.le_of_ble_eq_true rfl) rfl ?_
  intro w0 hH hR
  have hn := hR.2.2.len
  refine zr ?_
  refine zm hH (.al (cArr 32) (fun _ => 0)) trivial 0 ?_
  clear hH
  rintro _ _ w ⟨g1, rfl, rfl⟩ hH
  refine zn ?_
  refine zr ?_
  refine zv .mv 2 ?_
  refine zm hH (.call Tryz.func15 ((hf_c A n c l hb))) (hH.vu hR.2.2 (by decide) (Off.nil _ _)) 1 ?_
  clear hH
  rintro v6 E2 w hO3 hH
  obtain ⟨A4, c5, rfl⟩ := hO3.slice
  refine zc Tryz.func14 (sum256_c A4 ((hfL l).length) c5 (hfL l) (by rw [hfL_len]; omega)) (⟨hH.oldBlk hR.1 (by simp), hH.oldBlk hR.2.1 (by simp), (hO3.vuAt (hH.has 1 rfl))⟩) hH 1 ?_
  clear hH
  intro w hH
  refine ze0 0 hH rfl (.sw (cArr 32) (fun _ => 0) (sha (hfL l))) trivial ?_
  clear hH
  rintro _ _ w rfl hH
  refine zn ?_
  refine cxRet ?_
  refine qxRetC 1 (hH.blk 0 rfl) rfl rfl (by kernel_rfl) (Cod.size _ _) (by kernel_rfl) ?_
  exact ⟨rfl, HH.toBelow hH⟩

set_option maxHeartbeats 8000000 in
theorem keys_c (k : Nat × Bt × Bt × Bt) : Does Tryz.prog 29 #[(cCe.val k)] [] (fun _ => True) (fun v E' => ∃ A1 c1 E1 A2 c2 E2, v = .agg #[.slice A1 (kpL k.1 27 k.2.1).length c1, .slice A2 (kpL k.1 25 k.2.2.1).length c2] ∧ E' = ([E1, E2] : List Hl).flatten ∧ OwnT cByte 5 (.slice A1 (kpL k.1 27 k.2.1).length c1) (kpL k.1 27 k.2.1) E1 ∧ OwnT cByte 5 (.slice A2 (kpL k.1 25 k.2.2.1).length c2) (kpL k.1 25 k.2.2.1) E2) := by
  refine does_of (fn := Tryz.f29) Tryz.func29 rfl Tryz.ntmps29 (Nat.le_of_ble_eq_true rfl) rfl ?_
  intro w0 hH hR
  replace hH : HH w0 [] [] w0 := hH.only [false]
  refine zr ?_
  refine zm hH (.bx cCe k) trivial 1 ?_
  clear hH
  rintro _ _ w ⟨g1, rfl, rfl⟩ hH
  refine zm hH (fun _ hF => smAlloc (z := (.agg #[(.slice none 0 0), (.slice none 0 0)])) rfl (by kernel_rfl) rfl) trivial 0 ?_
  clear hH
  rintro _ _ w ⟨g2, rfl, rfl⟩ hH
  refine zn ?_
  refine zx ?_
  replace hH := hH.drew
  refine rv 0 (.fld 0) 0 ?_
  refine rld 1 (hH.q 0 rfl) (.ld (cNat .u32) k.1 (fun _ hS => (holds_blk0 hS).fst)) 1 ?_
  refine rv 2 (.fld 1) 0 ?_
  refine rld 3 (hH.q 0 rfl) (.ld (cArr 32) k.2.1 (fun _ hS => ((holds_blk0 hS).snd).fst)) 1 ?_
  refine rv 5 (.fld 0) 0 ?_
  refine rld 6 (hH.q 0 rfl) (.ld (cNat .u32) k.1 (fun _ hS => (holds_blk0 hS).fst)) 1 ?_
  refine rv 7 (.fld 33) 16 ?_
  refine rld 8 (hH.q 0 rfl) (.ld (cArr 32) k.2.2.1 (fun _ hS => (((holds_blk0 hS).snd).snd).fst)) 1 ?_
  refine rx1k 4 ?_
  refine rm 4 hH (.call Tryz.func5 ((kp_c k.1 27 k.2.1))) trivial 12 (.keep (.keep (pgo [] (pgo [] (.nil _ []))))) ?_
  clear hH
  rintro v7 E3 w hO4 hH
  obtain ⟨A5, c6, rfl⟩ := hO4.slice
  refine ⟨pcons (hH.blk 0 rfl) (pcons (hH.blk 0 rfl) pnil), ?_⟩
  refine rx1k 9 ?_
  refine rm 9 hH (.call Tryz.func5 ((kp_c k.1 25 k.2.2.1))) trivial 6 (pgo [] (pgo [] (.nil _ []))) ?_
  clear hH
  rintro v13 E9 w hO10 hH
  obtain ⟨A11, c12, rfl⟩ := hO10.slice
  refine ⟨pnil, ?_⟩
  refine rv 10 (v := (.agg #[(.slice A5 ((kpL k.1 27 k.2.1).length) c6), (.slice A11 ((kpL k.1 25 k.2.2.1).length) c12)])) (fun _ _ hF => opBuildP (cells := #[(.slice A5 ((kpL k.1 27 k.2.1).length) c6), (.slice A11 ((kpL k.1 25 k.2.2.1).length) c12)]) rfl (EvP.cons (v := (.slice A5 ((kpL k.1 27 k.2.1).length) c6)) (hF.ev 1 rfl) (EvP.cons (v := (.slice A11 ((kpL k.1 25 k.2.2.1).length) c12)) (hF.ev 0 rfl) EvP.nil)) rfl _) 3 ?_
  refine rx1k 11 ?_
  refine re0 11 1 hH rfl (fun _ hF => smStoreK (k := 2) rfl (hF.ev 1 rfl) (hF.ev 0 rfl) rfl (by kernel_rfl) (leb rfl) rfl rfl) trivial (.nil _ []) ?_
  clear hH
  rintro _ _ w rfl hH
  refine ⟨pnil, ?_⟩
  refine rn ?_
  refine cxRet ?_
  refine qxRetC 1 (hH.blk 1 rfl) rfl rfl (by kernel_rfl) rfl (by kernel_rfl) ?_
  exact ⟨_, _, rfl, ⟨_, _, _, _, _, _, rfl, rfl, hO4, hO10⟩, hH.out [false, false, true, true]⟩

def prT (t : Nat) (s b : Bt) : Nat → Bt
  | 0 => fun _ => 0
  | 1 => ov32 (fun _ => 0) 0 (sha (hfL (kpL t 27 s)))
  | _ => prB sha t s b

set_option maxHeartbeats 8000000 in
theorem certOf_c (t : Nat) (s b : Bt) : Pure Tryz.prog 18 #[(.int .u32 (((t) : Nat) : Int)), ((cArr 32).val s), ((cArr 32).val b)] (fun w => w.heap[1]? = some (.cells ((cWs 64).enc K32) 51 (0, 0)) ∧ w.heap[0]? = some (.cells ((cWs 8).enc H32) 50 (0, 0))) (cCe.val (certD sha t s b)) := by
  refine pure_of (fn := Tryz.f18) Tryz.func18 rfl Tryz.ntmps18 (Nat.le_of_ble_eq_true rfl) rfl ?_
  intro w0 hH hR
  refine zr ?_
  refine zm hH (.bx (cArr 32) s) trivial 2 ?_
  clear hH
  rintro _ _ w ⟨g1, rfl, rfl⟩ hH
  refine zm hH (.bx (cArr 32) b) trivial 4 ?_
  clear hH
  rintro _ _ w ⟨g2, rfl, rfl⟩ hH
  refine zm hH (.al cCe (0, fun _ => 0, fun _ => 0, fun _ => 0)) trivial 0 ?_
  clear hH
  rintro _ _ w ⟨g3, rfl, rfl⟩ hH
  refine zn ?_
  refine zr ?_
  refine zv .mv 8 ?_
  refine zs (hH.q 0 rfl) (.ld (cArr 32) s (fun _ hS => (holds_blk0 hS))) 8 ?_
  refine zs (hH.q 1 rfl) (.ld (cArr 32) b (fun _ hS => (holds_blk0 hS))) 8 ?_
  refine zv (v := (cCe.val (t, s, b, fun _ => 0))) (fun _ _ hF => opBuildP (cells := cCe.enc (t, s, b, fun _ => 0)) (vals := [(0, (.int .u32 (((t) : Nat) : Int))), (1, ((cArr 32).val s)), (2, ((cArr 32).val b))]) rfl (EvP.cons (v := (.int .u32 (((t) : Nat) : Int))) (hF.ev 2 rfl) (EvP.cons (v := ((cArr 32).val s)) (hF.ev 1 rfl) (EvP.cons (v := ((cArr 32).val b)) (hF.ev 0 rfl) EvP.nil))) (by kernel_rfl) _) 7 ?_
  refine zm hH (.al cCe (0, fun _ => 0, fun _ => 0, fun _ => 0)) trivial 0 ?_
  clear hH
  rintro _ _ w ⟨g4, rfl, rfl⟩ hH
  refine ze0 3 hH rfl (.sw cCe (0, fun _ => 0, fun _ => 0, fun _ => 0) (t, s, b, fun _ => 0)) trivial ?_
  clear hH
  rintro _ _ w rfl hH
  refine zn ?_
  refine cxSeq ?_
  refine zr ?_
  refine zs (hH.q 3 rfl) (.ld cCe (t, s, b, fun _ => 0) (fun _ hS => (holds_blk0 hS))) 2 ?_
  refine zm hH (.call Tryz.func29 (keys_c (t, s, b, fun _ => 0))) trivial 1 ?_
  clear hH
  rintro v13 E14 w ⟨A5, c6, E7, A8, c9, E10, rfl, rfl, hO11, hO12⟩ hH
  replace hH : HH w0 [] [[bl g1 23 ((cArr 32).enc s)], [bl g2 23 ((cArr 32).enc b)], [bl g3 31 (cCe.enc (0, fun _ => 0, fun _ => 0, fun _ => 0))], [bl g4 31 (cCe.enc (t, s, b, fun _ => 0))], E7, E10] w := hH.cast (by simp)
  refine zv .mv 0 ?_
  refine zn ?_
  refine cxBlock ?_
  refine zL1 (fun (i : Nat) => [(16, (.int .i64 (((i) : Nat) : Int))), (15, (.agg #[(.slice A5 ((kpL t 27 s).length) c6), (.slice A8 ((kpL t 25 b).length) c9)])), (7, (.pointer (some ⟨g4, 0, none⟩))), (6, (.pointer (some ⟨g3, 0, none⟩)))]) (fun i w => HH w0 [] [[bl g1 23 ((cArr 32).enc s)], [bl g2 23 ((cArr 32).enc b)], [bl g3 31 (cCe.enc (0, fun _ => 0, fun _ => 0, fun _ => 0))], [bl g4 31 (cCe.enc (t, s, b, prT t s b i))], E7, E10] w ∧ (i ≤ 2)) (fun i => 2 - i) 0 ⟨hH, (Nat.zero_le _)⟩ ?_
  clear hH
  rintro i w ⟨hH, hi⟩
  refine zr ?_
  refine zv (.lt (i < 2)) 0 ?_
  refine zn ?_
  refine cxSeq ?_
  refine zP (fun hc15 => ?_) (fun hc15 => ?_)
  refine cxSkip ?_
  refine qxThen ?_
  refine cxSeq ?_
  refine cxBlock ?_
  rcases (show i = 0 ∨ i = 1 by omega) with rfl | rfl
  refine zr ?_
  refine zv .mv 1 ?_
  refine zv (v := (.slice A5 ((kpL t 27 s).length) c6)) (fun _ _ hF => opIdx1 (i := 0) (n := 2) (e := 24) rfl (by kernel_rfl) (by kernel_rfl) (by kernel_rfl) (hF.ev 2 rfl) (hF.ev 1 rfl) (ltb rfl) rfl) 0 ?_
  refine zv .mv 2 ?_
  refine zv .mv 2 ?_
  refine zn ?_
  refine cxReg ?_
  refine zv .mv 2 ?_
  refine zv .mv 2 ?_
  refine zc Tryz.func7 (fp_c A5 ((kpL t 27 s).length) c6 (kpL t 27 s) (by rw [kpL_len]; omega)) (⟨hH.oldBlk hR.1 (by simp), hH.oldBlk hR.2 (by simp), (hO11.vuAt (hH.has 4 rfl))⟩) hH 1 ?_
  clear hH
  intro w hH
  refine zv (.fld 65) 0 ?_
  have hi16 : 0 < 2 := by omega
  refine zv (.ia 32 2 0 (hi := hi16)) 5 ?_
  refine ze0 3 hH rfl (.st (cArr 32) (sha (hfL (kpL t 27 s))) (by rw [Cod.size]; show 65 + 0 * 32 + 32 ≤ 129; omega) (put_snA (a := 1) (o := 65 + 0 * 32) (put_snA (a := 32) (o := 64 + 0 * 32) (put_snA (a := 32) (o := 32 + 0 * 32) (put_32 (prT t s b 0) (sha (hfL (kpL t 27 s))) 0) (by omega)) (by omega)) (by omega))) trivial ?_
  clear hH
  rintro _ _ w rfl hH
  refine pxEnd ?_
  refine qxInN ?_
  refine qxThen ?_
  refine cxReg ?_
  refine zv (v := (.int .i64 1)) (fun _ _ hF => opAdd rfl (hF.ev 2 rfl) rfl (by decide)) 7 ?_
  refine zv .mv 1 ?_
  refine pxEnd ?_
  replace hH : HH w0 [] [[bl g1 23 ((cArr 32).enc s)], [bl g2 23 ((cArr 32).enc b)], [bl g3 31 (cCe.enc (0, fun _ => 0, fun _ => 0, fun _ => 0))], [bl g4 31 (cCe.enc (t, s, b, prT t s b 1))], E7, E10] w := hH
  exact zR1 1 ⟨hH, (by omega)⟩ (by omega)
  refine zr ?_
  refine zv .mv 1 ?_
  refine zv (v := (.slice A8 ((kpL t 25 b).length) c9)) (fun _ _ hF => opIdx1 (i := 1) (n := 2) (e := 24) rfl (by kernel_rfl) (by kernel_rfl) (by kernel_rfl) (hF.ev 2 rfl) (hF.ev 1 rfl) (ltb rfl) rfl) 0 ?_
  refine zv .mv 2 ?_
  refine zv .mv 2 ?_
  refine zn ?_
  refine cxReg ?_
  refine zv .mv 2 ?_
  refine zv .mv 2 ?_
  refine zc Tryz.func7 (fp_c A8 ((kpL t 25 b).length) c9 (kpL t 25 b) (by rw [kpL_len]; omega)) (⟨hH.oldBlk hR.1 (by simp), hH.oldBlk hR.2 (by simp), (hO12.vuAt (hH.has 5 rfl))⟩) hH 1 ?_
  clear hH
  intro w hH
  refine zv (.fld 65) 0 ?_
  have hi17 : 1 < 2 := by omega
  refine zv (.ia 32 2 1 (hi := hi17)) 5 ?_
  refine ze0 3 hH rfl (.st (cArr 32) (sha (hfL (kpL t 25 b))) (by rw [Cod.size]; show 65 + 1 * 32 + 32 ≤ 129; omega) (put_snA (a := 1) (o := 65 + 1 * 32) (put_snA (a := 32) (o := 64 + 1 * 32) (put_snA (a := 32) (o := 32 + 1 * 32) (put_32 (prT t s b 1) (sha (hfL (kpL t 25 b))) 1) (by omega)) (by omega)) (by omega))) trivial ?_
  clear hH
  rintro _ _ w rfl hH
  refine pxEnd ?_
  refine qxInN ?_
  refine qxThen ?_
  refine cxReg ?_
  refine zv (v := (.int .i64 2)) (fun _ _ hF => opAdd rfl (hF.ev 2 rfl) rfl (by decide)) 7 ?_
  refine zv .mv 1 ?_
  refine pxEnd ?_
  replace hH : HH w0 [] [[bl g1 23 ((cArr 32).enc s)], [bl g2 23 ((cArr 32).enc b)], [bl g3 31 (cCe.enc (0, fun _ => 0, fun _ => 0, fun _ => 0))], [bl g4 31 (cCe.enc (t, s, b, prT t s b 2))], E7, E10] w := hH
  exact zR1 2 ⟨hH, (by omega)⟩ (by omega)
  refine cxExit ?_
  refine qxThenE ?_
  refine qxThenE ?_
  refine qxInE ?_
  refine qxThen ?_
  obtain rfl : i = 2 := by omega
  replace hH : HH w0 [] [[bl g1 23 ((cArr 32).enc s)], [bl g2 23 ((cArr 32).enc b)], [bl g3 31 (cCe.enc (0, fun _ => 0, fun _ => 0, fun _ => 0))], [bl g4 31 (cCe.enc (certD sha t s b))], E7, E10] w := hH
  refine zr ?_
  refine zs (hH.q 3 rfl) (.ld cCe (certD sha t s b) (fun _ hS => (holds_blk0 hS))) 15 ?_
  refine ze0 2 hH rfl (.sw cCe (0, fun _ => 0, fun _ => 0, fun _ => 0) (certD sha t s b)) trivial ?_
  clear hH
  rintro _ _ w rfl hH
  refine zn ?_
  refine cxRet ?_
  refine qxRetC 1 (hH.blk 2 rfl) rfl rfl (by kernel_rfl) (Cod.size _ _) (by kernel_rfl) ?_
  exact ⟨rfl, HH.toBelow hH⟩

set_option maxHeartbeats 8000000 in
theorem certO_c (k : Bt × Bt) (t : Nat) : Pure Tryz.prog 9 #[(cKy.val k), (.int .u32 (((t) : Nat) : Int))] (fun w => w.heap[3]? = some (.cells ((cQs 80).enc K64) 107 (0, 0)) ∧ w.heap[2]? = some (.cells ((cQs 8).enc H64) 73 (0, 0)) ∧ w.heap[1]? = some (.cells ((cWs 64).enc K32) 51 (0, 0)) ∧ w.heap[0]? = some (.cells ((cWs 8).enc H32) 50 (0, 0))) (cCe.val (certD sha t (edPub k.1) (xPub k.2))) := by
  refine pure_of (fn := Tryz.f9) Tryz.func9 rfl Tryz.ntmps9 (Nat.le_of_ble_eq_true rfl) rfl ?_
  intro w0 hH hR
  refine zr ?_
  refine zm hH (.bx cKy k) trivial 1 ?_
  clear hH
  rintro _ _ w ⟨g1, rfl, rfl⟩ hH
  refine zm hH (.al cCe (0, fun _ => 0, fun _ => 0, fun _ => 0)) trivial 0 ?_
  clear hH
  rintro _ _ w ⟨g2, rfl, rfl⟩ hH
  refine zn ?_
  refine zx ?_
  replace hH := hH.drew
  refine rv 0 .mv 4 ?_
  refine rv 1 (.fld 0) 0 ?_
  refine rld 2 (hH.q 0 rfl) (.ld (cArr 32) k.1 (fun _ hS => (holds_blk0 hS).fst)) 1 ?_
  refine rv 4 (.fld 32) 8 ?_
  refine rld 5 (hH.q 0 rfl) (.ld (cArr 32) k.2 (fun _ hS => (holds_blk0 hS).snd)) 1 ?_
  refine rx1k 3 (rpc 3 Tryz.func19 (edPub_c k.1) (⟨hH.oldBlk hR.1 (by simp), hH.oldBlk hR.2.1 (by simp)⟩) hH 2 (.keep (pgo [] (.nil _ []))) ?_)
  clear hH
  intro w hH
  refine ⟨pcons (hH.blk 0 rfl) pnil, ?_⟩
  refine rx1k 6 (rpc 6 Tryz.func20 (xPub_c k.2) trivial hH 2 (pgo [] (.nil _ [])) ?_)
  clear hH
  intro w hH
  refine ⟨pnil, ?_⟩
  refine rx1k 7 (rpc 7 Tryz.func18 (certOf_c t (edPub k.1) (xPub k.2)) (⟨hH.oldBlk hR.2.2.1 (by simp), hH.oldBlk hR.2.2.2 (by simp)⟩) hH 7 (.nil _ []) ?_)
  clear hH
  intro w hH
  refine ⟨pnil, ?_⟩
  refine rx1k 8 ?_
  refine re0 8 1 hH rfl (.sw cCe (0, fun _ => 0, fun _ => 0, fun _ => 0) (certD sha t (edPub k.1) (xPub k.2))) trivial (.nil _ []) ?_
  clear hH
  rintro _ _ w rfl hH
  refine ⟨pnil, ?_⟩
  refine rn ?_
  refine cxRet ?_
  refine qxRetC 1 (hH.blk 1 rfl) rfl rfl (by kernel_rfl) (Cod.size _ _) (by kernel_rfl) ?_
  exact ⟨rfl, HH.toBelow hH⟩

set_option maxHeartbeats 8000000 in
theorem rfour_c (n : Nat) (hn : n < 4294967296) : Does Tryz.prog 13 #[(.int .i64 (((n) : Nat) : Int))] [] (fun _ => True) (fun v E' => OwnT cByte 5 v (beL 4 n) E') := by
  refine does_of (fn := Tryz.f13) Tryz.func13 rfl Tryz.ntmps13 (Nat.le_of_ble_eq_true rfl) rfl ?_
  intro w0 hH hR
  replace hH : HH w0 [] [] w0 := hH.only [false]
  refine zr ?_
  refine zv .mv 0 ?_
  refine zn ?_
  refine zr ?_
  refine zv .mv 3 ?_
  refine zv (.cu .u64) 1 ?_
  refine zm hH (.call Tryz.func22 ((bytes_r n 4 (by decide)))) trivial 1 ?_
  clear hH
  rintro v5 E1 w hO2 hH
  obtain ⟨A3, c4, rfl⟩ := hO2.slice
  refine zv .mv 1 ?_
  refine zn ?_
  refine cxRet ?_
  refine qxRet1 0 rfl rfl ?_
  exact ⟨_, _, rfl,  hO2, hH.out1 [true] rfl⟩

set_option maxHeartbeats 8000000 in
theorem rkp_c (t : Nat) (ht : t < 4294967296) (a : UInt8) (p : Bt) : Does Tryz.prog 6 #[(.int .u32 (((t) : Nat) : Int)), (.int .u8 (((a.toNat) : Nat) : Int)), ((cArr 32).val p)] [] (fun _ => True) (fun v E' => OwnT cByte 5 v (kpL t a p) E') := by
  refine does_of (fn := Tryz.f6) Tryz.func6 rfl Tryz.ntmps6 (Nat.le_of_ble_eq_true rfl) rfl ?_
  intro w0 hH hR
  replace hH : HH w0 [] [] w0 := hH.only [false]
  refine zr ?_
  refine zm hH (.bx (cArr 32) p) trivial 4 ?_
  clear hH
  rintro _ _ w ⟨g1, rfl, rfl⟩ hH
  refine zv .mv 0 ?_
  refine zn ?_
  refine zx ?_
  replace hH := hH.drew
  refine rxPg 2 [mkv 0 7 [] [] (fun G g => (.slice (some ⟨g, 0, none⟩) 1 1)) fun G g => [bl g 5 (cByte.enc 6)], pv 1 8 [] [] fun G => (.int .u32 (((t) : Nat) : Int)), pv 2 9 [1] [] fun G => (.int .i64 (((t) : Nat) : Int)), owv 3 10 [2] [] cByte 5 fun G => (beL 4 t), pv 4 11 [] [] fun G => (.int .u8 (((a.toNat) : Nat) : Int)), mkv 5 12 [4] [] (fun G g => (.slice (some ⟨g, 0, none⟩) 5 5)) fun G g => [bl g 5 (flat cByte [a, 0, 0, 0, 32]).toArray], pv 6 13 [] [] fun G => (.slice (some ⟨g1, 0, none⟩) 32 32), mkv 7 14 [0, 3, 5, 6] [0, 3, 5] (fun G g => (.slice (some ⟨g, 0, none⟩) 4 4)) fun G g => [bl g 24 (flat cSl [((some ⟨(G 0).g, 0, none⟩), 1, 1), ((G 3).A, (beL 4 t).length, (G 3).c), ((some ⟨(G 5).g, 0, none⟩), 5, 5), ((some ⟨g1, 0, none⟩), 32, 32)]).toArray]] (fun G => [(14, (.slice (some ⟨(G 7).g, 0, none⟩) 4 4)), (6, (.slice none 0 0))]) (fun G => [[bl g1 23 ((cArr 32).enc p)], [bl (G 0).g 5 (cByte.enc 6)], (G 3).E, [bl (G 5).g 5 (flat cByte [a, 0, 0, 0, 32]).toArray], [bl (G 7).g 24 (flat cSl [((some ⟨(G 0).g, 0, none⟩), 1, 1), ((G 3).A, (beL 4 t).length, (G 3).c), ((some ⟨(G 5).g, 0, none⟩), 5, 5), ((some ⟨g1, 0, none⟩), 32, 32)]).toArray]]) hH (.c (.a (fun _ _ _ _ => trivial) (fun G => (fun _ hF => smLit1 (e := 5) (sz := 1) (z := (.int .u8 0)) (by_ := 1) (cs := cByte.enc 6) rfl (by kernel_rfl) (by kernel_rfl) rfl (cByte.len 6) (ltb rfl) (leb rfl) rfl)) fun _ _ _ h => h) <| .c (.v fun G => .mv) <| .c (.v fun G => .ci) <| .c (.o (fun _ _ _ _ => trivial) (fun G => (.call Tryz.func13 ((rfour_c t (by omega))))) fun _ _ _ h => h) <| .c (.v fun G => .mv) <| .c (.a (fun _ _ _ _ => trivial) (fun G => (fun _ hF => smLits (C := cByte) (e := 5) (z := (.int .u8 0)) (by_ := 1) [a, 0, 0, 0, 32] rfl (by kernel_rfl) (by kernel_rfl) (EvP.cons (v := cByte.val a) (hF.ev 0 rfl) (EvP.cons (v := cByte.val 0) rfl (EvP.cons (v := cByte.val 0) rfl (EvP.cons (v := cByte.val 0) rfl (EvP.cons (v := cByte.val 32) rfl EvP.nil))))) rfl (ltb rfl) (leb rfl) rfl)) fun _ _ _ h => h) <| .c (.v fun G => (fun _ _ hF => opSliceA (n := 32) (e := 5) (sz := 1) rfl (by kernel_rfl) (by kernel_rfl) (hF.ev 1 rfl))) <| .c (.a (fun _ _ _ _ => trivial) (fun G => (fun _ hF => smLits (C := cSl) (e := 24) (z := (.slice none 0 0)) (by_ := 24) [((some ⟨(G 0).g, 0, none⟩), 1, 1), ((G 3).A, (beL 4 t).length, (G 3).c), ((some ⟨(G 5).g, 0, none⟩), 5, 5), ((some ⟨g1, 0, none⟩), 32, 32)] rfl (by kernel_rfl) (by kernel_rfl) (EvP.cons (v := cSl.val ((some ⟨(G 0).g, 0, none⟩), 1, 1)) (hF.ev 0 rfl) (EvP.cons (v := cSl.val ((G 3).A, (beL 4 t).length, (G 3).c)) (hF.ev 1 rfl) (EvP.cons (v := cSl.val ((some ⟨(G 5).g, 0, none⟩), 5, 5)) (hF.ev 2 rfl) (EvP.cons (v := cSl.val ((some ⟨g1, 0, none⟩), 32, 32)) (hF.ev 3 rfl) EvP.nil)))) rfl (ltb rfl) (leb rfl) rfl)) fun _ _ _ h => h) <| .nil) ?_
  clear hH
  rintro G w hp hH
  obtain ⟨-, -, -, hO4, -, -, -, -, -⟩ := hp
  replace hO4 : OwnT cByte 5 (.slice (G 3).A (beL 4 t).length (G 3).c) (beL 4 t) (G 3).E := hO4
  revert hH hO4
  generalize (G 0).g = g2
  generalize (G 3).A = A5
  generalize (G 3).c = c6
  generalize (G 3).E = E3
  generalize (G 5).g = g9
  generalize (G 7).g = g10
  intro hH hO4
  refine rx1k 8 ?_
  refine rm 8 hH (.call Tryz.func12 ((rjoin_c (some ⟨g10, 0, none⟩) 4 4 [((some ⟨g2, 0, none⟩), 1, 1), (A5, (beL 4 t).length, c6), ((some ⟨g9, 0, none⟩), 5, 5), ((some ⟨g1, 0, none⟩), 32, 32)] [[6], (beL 4 t), [a, 0, 0, 0, 32], (lst 32 p)] rfl (by decide) (by simp only [List.flatten_cons, List.flatten_nil, List.length_append, List.length_cons, List.length_nil, beL_len, lst_len]; omega)))) (⟨((Bk.lits (C := cSl) [((some ⟨g2, 0, none⟩), 1, 1), (A5, (beL 4 t).length, c6), ((some ⟨g9, 0, none⟩), 5, 5), ((some ⟨g1, 0, none⟩), 32, 32)] (by show 4 ≤ _; unfold maxLen; decide)).vu (n := 4) (hH.blk 4 rfl) rfl), (.cons ((Bk.lit1 (C := cByte) 6).vu (n := 1) (hH.blk 1 rfl) rfl) (.cons (hO4.vuAt (hH.has 2 rfl)) (.cons ((Bk.lits (C := cByte) [a, 0, 0, 0, 32] (by show 5 ≤ _; unfold maxLen; decide)).vu (n := 5) (hH.blk 3 rfl) rfl) (.cons (vu_arr (hH.blk 0 rfl)) ViewsL.nil))))⟩) 1 (.nil _ []) ?_
  clear hH
  rintro v15 E11 w hO12 hH
  obtain ⟨A13, c14, rfl⟩ := hO12.slice
  refine ⟨pnil, ?_⟩
  refine rv 9 .mv 3 ?_
  refine rn ?_
  refine cxRet ?_
  refine qxRet1 0 rfl rfl ?_
  exact ⟨_, _, rfl, kpL_is t a p ▸ hO12, hH.out1 [false, false, false, false, false, true] rfl⟩

set_option maxHeartbeats 8000000 in
theorem rhf_c (A : Option Addr) (n c : Nat) (l : List UInt8) (hb : n ≤ 100000) : Does Tryz.prog 17 #[(.slice A n c)] [] (fun w => Vu cByte w A n c l) (fun v E' => OwnT cByte 5 v (hfL l) E') := by
  refine does_of (fn := Tryz.f17) Tryz.func17 rfl Tryz.ntmps17 (Nat.le_of_ble_eq_true rfl) rfl ?_
  intro w0 hH hR
  replace hH : HH w0 [] [] w0 := hH.only [false]
  have hn := hR.len
  refine zr ?_
  refine zv .mv 0 ?_
  refine zn ?_
  refine zr ?_
  refine zm hH (fun _ hF => smLit1 (e := 5) (sz := 1) (z := (.int .u8 0)) (by_ := 1) (cs := cByte.enc 155) rfl (by kernel_rfl) (by kernel_rfl) rfl (cByte.len 155) (ltb rfl) (leb rfl) rfl) trivial 1 ?_
  clear hH
  rintro _ _ w ⟨g1, rfl, rfl⟩ hH
  refine zv .mv 0 ?_
  refine zv .len 1 ?_
  refine zm hH (.call Tryz.func13 ((rfour_c n (by omega)))) trivial 1 ?_
  clear hH
  rintro v6 E2 w hO3 hH
  obtain ⟨A4, c5, rfl⟩ := hO3.slice
  refine zv .mv 4 ?_
  refine zm hH (fun _ hF => smLits (C := cSl) (e := 24) (z := (.slice none 0 0)) (by_ := 24) [((some ⟨g1, 0, none⟩), 1, 1), (A4, (beL 4 n).length, c5), (A, n, c)] rfl (by kernel_rfl) (by kernel_rfl) (EvP.cons (v := cSl.val ((some ⟨g1, 0, none⟩), 1, 1)) (hF.ev 2 rfl) (EvP.cons (v := cSl.val (A4, (beL 4 n).length, c5)) (hF.ev 1 rfl) (EvP.cons (v := cSl.val (A, n, c)) (hF.ev 0 rfl) EvP.nil))) rfl (ltb rfl) (leb rfl) rfl) trivial 7 ?_
  clear hH
  rintro _ _ w ⟨g8, rfl, rfl⟩ hH
  refine zm hH (.call Tryz.func12 ((rjoin_c (some ⟨g8, 0, none⟩) 3 3 [((some ⟨g1, 0, none⟩), 1, 1), (A4, (beL 4 n).length, c5), (A, n, c)] [[155], (beL 4 n), l] rfl (by decide) (by simp only [List.flatten_cons, List.flatten_nil, List.length_append, List.length_cons, List.length_nil, beL_len]; omega)))) (⟨((Bk.lits (C := cSl) [((some ⟨g1, 0, none⟩), 1, 1), (A4, (beL 4 n).length, c5), (A, n, c)] (by show 3 ≤ _; unfold maxLen; decide)).vu (n := 3) (hH.blk 2 rfl) rfl), (.cons ((Bk.lit1 (C := cByte) 155).vu (n := 1) (hH.blk 0 rfl) rfl) (.cons (hO3.vuAt (hH.has 1 rfl)) (.cons (hH.vu hR (by decide) (Off.nil _ _)) ViewsL.nil)))⟩) 1 ?_
  clear hH
  rintro v13 E9 w hO10 hH
  obtain ⟨A11, c12, rfl⟩ := hO10.slice
  refine zv .mv 1 ?_
  refine zn ?_
  refine cxRet ?_
  refine qxRet1 0 rfl rfl ?_
  subst hn
  exact ⟨_, _, rfl, hfL_is l ▸ hO10, hH.out1 [false, false, false, true] rfl⟩

set_option maxHeartbeats 8000000 in
theorem rfp_c (A : Option Addr) (n c : Nat) (l : List UInt8) (hb : n ≤ 100000) : Pure Tryz.prog 8 #[(.slice A n c)] (fun w => Vu cByte w A n c l) ((cArr 32).val (sha (hfL l))) := by
  refine pure_of (fn := Tryz.f8) Tryz.func8 rfl Tryz.ntmps8 (Nat.le_of_ble_eq_true rfl) rfl ?_
  intro w0 hH hR
  have hn := hR.len
  refine zr ?_
  refine zm hH (.al (cArr 32) (fun _ => 0)) trivial 0 ?_
  clear hH
  rintro _ _ w ⟨g1, rfl, rfl⟩ hH
  refine zn ?_
  refine zr ?_
  refine zv .mv 2 ?_
  refine zm hH (.call Tryz.func17 ((rhf_c A n c l hb))) (hH.vu hR (by decide) (Off.nil _ _)) 1 ?_
  clear hH
  rintro v6 E2 w hO3 hH
  obtain ⟨A4, c5, rfl⟩ := hO3.slice
  refine zc Tryz.func16 (rsum_c A4 ((hfL l).length) c5 (hfL l) (by rw [hfL_len]; omega)) (hO3.vuAt (hH.has 1 rfl)) hH 1 ?_
  clear hH
  intro w hH
  refine ze0 0 hH rfl (.sw (cArr 32) (fun _ => 0) (sha (hfL l))) trivial ?_
  clear hH
  rintro _ _ w rfl hH
  refine zn ?_
  refine cxRet ?_
  refine qxRetC 1 (hH.blk 0 rfl) rfl rfl (by kernel_rfl) (Cod.size _ _) (by kernel_rfl) ?_
  exact ⟨rfl, HH.toBelow hH⟩
end Go.Proofs.YtbbegnfopdihaaaGreatDoor

namespace Go.Proofs.YtbbegnfopdihaaaGreatDoor
open Go Go.RowKit
set_option maxRecDepth 100000

theorem cert_time {t : Nat} {s b : Bt} : (cCe.enc (certD sha t s b))[0]? = some (.int .u32 (t : Int)) := by
  unfold certD
  rw [enc_pair, Array.getElem?_append_left (by rw [Cod.size]; exact Nat.zero_lt_one)]
  rfl

set_option maxHeartbeats 8000000 in
theorem awake_c  : Pure Tryz.prog 4 #[] (fun w => w.heap[3]? = some (.cells ((cQs 80).enc K64) 107 (0, 0)) ∧ w.heap[2]? = some (.cells ((cQs 8).enc H64) 73 (0, 0)) ∧ w.heap[1]? = some (.cells ((cWs 64).enc K32) 51 (0, 0)) ∧ w.heap[0]? = some (.cells ((cWs 8).enc H32) 50 (0, 0))) (.bool true) := by
  refine pure_of (fn := Tryz.f4) Tryz.func4 rfl Tryz.ntmps4 (Nat.le_of_ble_eq_true rfl) rfl ?_
  intro w0 hH hR
  refine zr ?_
  refine zv .mv 0 ?_
  refine zn ?_
  refine zr ?_
  refine zv (v := ((cArr 32).val (fun _ => 0))) (fun _ _ hF => opBuildP (cells := (cArr 32).enc (fun _ => 0)) (vals := []) rfl EvP.nil (by kernel_rfl) _) 1 ?_
  refine zm hH (.call Tryz.func5 ((kp_c 1 27 (fun _ => 0)))) trivial 1 ?_
  clear hH
  rintro v5 E1 w hO2 hH
  obtain ⟨A3, c4, rfl⟩ := hO2.slice
  refine zv .len 1 ?_
  refine zv (v := (.bool true)) (fun _ _ hF => opEqI rfl (hF.ev 0 rfl) rfl (decide_eq_true (by rw [kpL_len]; rfl))) 1 ?_
  refine zv .mv 1 ?_
  refine pxV (v := (cKy.val (fun _ => 0, fun _ => 0))) (fun _ _ hF => opBuildP (cells := cKy.enc (fun _ => 0, fun _ => 0)) (vals := []) rfl EvP.nil (by kernel_rfl) _) rfl (gOn 0 rfl rfl rfl (by decide)) (kA rfl) (by decide) ?_
  refine pxM hH (fun _ hF => Does.small ((certO_c (fun _ => 0, fun _ => 0) 1).does) (fun w => opCall rfl Tryz.func9 rfl rfl (Evs.cons (v := (cKy.val (fun _ => 0, fun _ => 0))) (hF.ev 0 rfl) (Evs.cons (v := (.int .u32 1)) rfl Evs.nil)) w)) ⟨hH.oldBlk hR.1 (by simp), hH.oldBlk hR.2.1 (by simp), hH.oldBlk hR.2.2.1 (by simp), hH.oldBlk hR.2.2.2 (by simp)⟩ rfl (gOn 1 rfl rfl rfl (by decide)) (kM [false, true] rfl rfl) (by decide) ?_
  clear hH
  rintro _ _ w ⟨rfl, rfl⟩ hH
  replace hH : HH w0 [] [E1] w := hH.unpad
  refine pxV (v := (.int .u32 1)) (fun _ _ hF => opFld1 (off := 0) (e := 22) (cs := cCe.enc (certD sha 1 (edPub (fun _ => 0)) (xPub (fun _ => 0)))) rfl (hF.ev 0 rfl) (by kernel_rfl) (by kernel_rfl) cert_time) rfl (gOn 1 rfl rfl rfl (by decide)) (kM [false, true] rfl rfl) (by decide) ?_
  refine pxV (v := (.bool true)) (fun _ _ hF => opEqI rfl (hF.ev 0 rfl) rfl (by decide)) rfl (gOn 1 rfl rfl rfl (by decide)) (kM [false, true] rfl rfl) (by decide) ?_
  refine zv (v := (.bool true)) (fun _ _ hF => opPickT rfl (hF.ev 1 rfl) (hF.ev 0 rfl)) 3 ?_
  refine zv .mv 1 ?_
  refine zn ?_
  refine cxRet ?_
  refine qxRet1 0 rfl rfl ?_
  exact ⟨rfl, HH.toBelow hH⟩

set_option maxHeartbeats 8000000 in
theorem certPrints_l (t : Nat) (ht : t < 4294967296) (a : UInt8) (p : Bt) (A : Option Addr) (n c : Nat) (l : List UInt8) : Pure Tryz.prog 3 #[(.int .u32 (((t) : Nat) : Int)), (.int .u8 (((a.toNat) : Nat) : Int)), ((cArr 32).val p), (.slice A n c)] (fun w => w.heap[3]? = some (.cells ((cQs 80).enc K64) 107 (0, 0)) ∧ w.heap[2]? = some (.cells ((cQs 8).enc H64) 73 (0, 0)) ∧ w.heap[1]? = some (.cells ((cWs 64).enc K32) 51 (0, 0)) ∧ w.heap[0]? = some (.cells ((cWs 8).enc H32) 50 (0, 0)) ∧ Vu cByte w A n c l) (.bool true) := by
  refine pure_of (fn := Tryz.f3) Tryz.func3 rfl Tryz.ntmps3 (Nat.le_of_ble_eq_true rfl) rfl ?_
  intro w0 hH hR
  refine zr ?_
  refine zm hH (.bx (cArr 32) p) trivial 4 ?_
  clear hH
  rintro _ _ w ⟨g1, rfl, rfl⟩ hH
  refine zv .mv 0 ?_
  refine zn ?_
  refine cxSeq ?_
  refine zr ?_
  refine zm hH (.call Tryz.func4 (awake_c.does)) (⟨hH.oldBlk hR.1 (by simp), hH.oldBlk hR.2.1 (by simp), hH.oldBlk hR.2.2.1 (by simp), hH.oldBlk hR.2.2.2.1 (by simp)⟩) 1 ?_
  clear hH
  rintro _ _ w ⟨rfl, rfl⟩ hH
  replace hH : HH w0 [] [[bl g1 23 ((cArr 32).enc p)]] w := hH.unpad
  refine zv (v := (.bool false)) (fun _ _ hF => opNot rfl (hF.ev 0 rfl) rfl) 1 ?_
  refine zv .mv 1 ?_
  refine pxV (v := (.slice A n c)) (fun _ _ hF => opMove rfl (hF.ev 4 rfl)) rfl (gOn 0 rfl rfl rfl (by decide)) (kA rfl) (by decide) ?_
  refine pxV (v := (.int .i64 (((n) : Nat) : Int))) (fun _ _ hF => opLen (e := 5) rfl (by kernel_rfl) (hF.ev 0 rfl)) rfl (gOn 1 rfl rfl rfl (by decide)) (kM [false, true, true, true, true, true] rfl rfl) (by decide) ?_
  refine pxV (v := (.bool (decide (n > 3000)))) (fun _ _ hF => opGtr rfl (hF.ev 0 rfl) rfl (dc (by omega))) rfl (gOn 1 rfl rfl rfl (by decide)) (kM [false, true, true, true, true, true] rfl rfl) (by decide) ?_
  refine zv (v := (.bool (decide (n > 3000)))) (fun _ _ hF => opPickF rfl (hF.ev 1 rfl) (hF.ev 0 rfl)) 3 ?_
  refine zn ?_
  refine zP (fun hc2 => ?_) (fun hc2 => ?_)
  refine zr ?_
  refine zm hH (.call Tryz.func4 (awake_c.does)) (⟨hH.oldBlk hR.1 (by simp), hH.oldBlk hR.2.1 (by simp), hH.oldBlk hR.2.2.1 (by simp), hH.oldBlk hR.2.2.2.1 (by simp)⟩) 31 ?_
  clear hH
  rintro _ _ w ⟨rfl, rfl⟩ hH
  replace hH : HH w0 [] [[bl g1 23 ((cArr 32).enc p)]] w := hH.unpad
  refine zv .mv 1 ?_
  refine zn ?_
  refine cxRet ?_
  refine qxThenR ?_
  refine qxRet1 0 rfl rfl ?_
  exact ⟨rfl, HH.toBelow hH⟩
  refine cxSkip ?_
  refine qxThen ?_
  refine zx ?_
  replace hH := hH.drew
  refine rv 0 .mv 1 ?_
  refine rv 1 .mv 0 ?_
  refine rld 2 (hH.q 0 rfl) (.ld (cArr 32) p (fun _ hS => (holds_blk0 hS))) 0 ?_
  refine rv 5 .mv 16 ?_
  refine rv 6 .mv 32 ?_
  refine rld 7 (hH.q 0 rfl) (.ld (cArr 32) p (fun _ hS => (holds_blk0 hS))) 32 ?_
  refine rx1k 3 ?_
  refine rm 3 hH (.call Tryz.func5 ((kp_c t a p))) trivial 56 (.keep (pgo [] (.nil _ []))) ?_
  clear hH
  rintro v7 E3 w hO4 hH
  obtain ⟨A5, c6, rfl⟩ := hO4.slice
  refine ⟨pcons (hH.blk 0 rfl) pnil, ?_⟩
  refine rld 4 (S := fun w => Vu cByte w A5 ((kpL t a p).length) c6 (kpL t a p)) (hO4.vuAt (hH.has 1 rfl)) (v := (.string (strL (kpL t a p)))) (fun _ _ hF hS => opStr (e := 5) rfl (by kernel_rfl) (by kernel_rfl) (by kernel_rfl) (hF.ev 0 rfl) hS) 1 ?_
  refine rx1k 8 ?_
  refine rm 8 hH (.call Tryz.func6 ((rkp_c t ht a p))) trivial 14 (.keep (pgo [] (.nil _ []))) ?_
  clear hH
  rintro v13 E9 w hO10 hH
  obtain ⟨A11, c12, rfl⟩ := hO10.slice
  refine ⟨pcons (hO4.vuAt (hH.has 1 rfl)) pnil, ?_⟩
  refine rld 9 (S := fun w => Vu cByte w A11 ((kpL t a p).length) c12 (kpL t a p)) (hO10.vuAt (hH.has 2 rfl)) (v := (.string (strL (kpL t a p)))) (fun _ _ hF hS => opStr (e := 5) rfl (by kernel_rfl) (by kernel_rfl) (by kernel_rfl) (hF.ev 0 rfl) hS) 1 ?_
  refine rv 10 (v := (.bool true)) (fun _ _ hF => opEqLb (l := (kpL t a p)) (m := (kpL t a p)) rfl (hF.ev 1 rfl) (hF.ev 0 rfl) (decide_eq_true (rfl))) 3 ?_
  refine rv 11 .mv 1 ?_
  refine rxV 12 rfl (by kernel_rfl) rfl (gOn 0 rfl rfl rfl (by decide)) (fun _ _ hF => opMove rfl (hF.ev 1 rfl)) (kA rfl) (by decide) (v := (.slice A n c)) ?_
  refine rxV 14 rfl (by kernel_rfl) rfl (gOn 1 rfl rfl rfl (by decide)) (fun _ _ hF => opMove rfl (hF.ev 2 rfl)) (kM [true, true, false] rfl rfl) (by decide) (v := (.slice A n c)) ?_
  refine rx1 13 (by kernel_rfl) ?_
  refine moM rfl hH (fun _ hF => Does.small ((fp_c A n c l (by omega)).does) (fun w => opCall rfl Tryz.func7 rfl rfl (Evs.cons (v := (.slice A n c)) (hF.ev 1 rfl) Evs.nil) w)) ⟨hH.oldBlk hR.2.2.1 (by simp), hH.oldBlk hR.2.2.2.1 (by simp), (hH.vu hR.2.2.2.2 (by decide) (Off.nil _ _))⟩ rfl (gOn 2 rfl rfl rfl (by decide)) (kM [true, false, true] rfl rfl) (by decide) (PendOk.go [11, 10] (by kernel_rfl) (PendOk.go [11, 10] (by kernel_rfl) (PendOk.nil _ []))) ?_
  clear hH
  rintro _ _ w ⟨rfl, rfl⟩ hH
  replace hH : HH w0 [] [[bl g1 23 ((cArr 32).enc p)], E3, E9] w := hH.unpad
  refine ⟨(fun _ hs => by cases hs), ?_⟩
  refine rx1 15 (by kernel_rfl) ?_
  refine moM rfl hH (fun _ hF => Does.small ((rfp_c A n c l (by omega)).does) (fun w => opCall rfl Tryz.func8 rfl rfl (Evs.cons (v := (.slice A n c)) (hF.ev 1 rfl) Evs.nil) w)) (hH.vu hR.2.2.2.2 (by decide) (Off.nil _ _)) rfl (gOn 2 rfl rfl rfl (by decide)) (kM [true, false, true] rfl rfl) (by decide) (PendOk.nil _ []) ?_
  clear hH
  rintro _ _ w ⟨rfl, rfl⟩ hH
  replace hH : HH w0 [] [[bl g1 23 ((cArr 32).enc p)], E3, E9] w := hH.unpad
  refine ⟨(fun _ hs => by cases hs), ?_⟩
  refine rxV 16 rfl (by kernel_rfl) rfl (gOn 2 rfl rfl rfl (by decide)) (fun _ _ hF => opEqA (n := 32) (e := 5) (f := (sha (hfL l))) (g := (sha (hfL l))) rfl (by kernel_rfl) (by kernel_rfl) (by kernel_rfl) (hF.ev 1 rfl) (hF.ev 0 rfl) (by kernel_rfl) (⟨fun _ => trivial, fun _ => rfl⟩)) (kM [false, false, true] rfl rfl) (by decide) (v := (.bool (decide (True)))) ?_
  refine rv 17 (v := (.bool (decide (True)))) (fun _ _ hF => opPickT rfl (hF.ev 1 rfl) (hF.ev 0 rfl)) 3 ?_
  refine rv 18 .mv 1 ?_
  refine rn ?_
  refine cxRet ?_
  refine qxRet1 0 rfl rfl ?_
  exact ⟨rfl, HH.toBelow hH⟩
end Go.Proofs.YtbbegnfopdihaaaGreatDoor

namespace Go.Proofs.YtbbegnfopdihaaaGreatDoor
open Go Go.RowKit Go.WideShapes Go.Deep

/-- Whatever is read as type t is a datum of C, of which Ok holds. -/
def Opens {α : Type} (P : Program) (t : TypeId) (C : Cod α) (Ok : World → α → Prop) : Prop :=
  ∀ {H : Type} (enc : TypeId × Value → H) (w : World) (fuel : Nat) (cs : List Value) (x : DataW H × List MemPlace), DataW.trod enc P w 0 (fun _ => true) true fuel t cs = some x → (x.1.weights P t).all (· ≤ reachBytes) = true → ∃ a, cs = (C.enc a).toList ∧ Ok w a

section
variable {P : Program} {t e : TypeId} {α β : Type} {A C : Cod α} {B : Cod β} {Ok OkA : World → α → Prop} {OkB : World → β → Prop}
theorem opens_byte (hu : P.underlying t = some (.int .u8)) : Opens P t cByte (fun _ _ => True) := fun enc w fuel cs x h _ => by
  obtain ⟨n, rfl, _, hw⟩ := DataW.trod_int hu h
  have h8 : 0 ≤ n ∧ n ≤ 255 := by
    simp [Lit.wf, IntKind.min, IntKind.max, IntKind.signed, IntKind.bits] at hw
    omega
  refine ⟨UInt8.ofNat n.toNat, ?_, trivial⟩
  have e : ((UInt8.ofNat n.toNat).toNat : Int) = n := by rw [UInt8.toNat_ofNat']; omega
  show _ = [Value.int .u8 ((UInt8.ofNat n.toNat).toNat : Int)]
  rw [e]
theorem opens_u32 (hu : P.underlying t = some (.int .u32)) : Opens P t (cNat .u32) (fun _ n => n < 4294967296) := fun enc w fuel cs x h _ => by
  obtain ⟨n, rfl, _, hw⟩ := DataW.trod_int hu h
  have h8 : 0 ≤ n ∧ n ≤ 4294967295 := by
    simp [Lit.wf, IntKind.min, IntKind.max, IntKind.signed, IntKind.bits] at hw
    omega
  refine ⟨n.toNat, ?_, by omega⟩
  have e : ((n.toNat : Nat) : Int) = n := by omega
  show _ = [Value.int .u32 ((n.toNat : Nat) : Int)]
  rw [e]
theorem weightsAll_mem {H : Type} {P : Program} {e : TypeId} : ∀ {ds : List (DataW H)} {d : DataW H}, d ∈ ds → ∀ n ∈ d.weights P e, n ∈ DataW.weightsAll P e ds
  | d0 :: r, d, hd, n, hn => by
    simp only [DataW.weightsAll, List.mem_append]
    rcases List.mem_cons.1 hd with rfl | hd
    · exact .inl hn
    · exact .inr (weightsAll_mem hd n hn)
/-- What lies behind a slice's head. -/
def SlOk {α : Type} (P : Program) (e : TypeId) (C : Cod α) (Ok : World → α → Prop) (w : World) (s : Option Addr × Nat × Nat) : Prop :=
  ∃ l : List α, s.2.1 = l.length ∧ Vu C w s.1 l.length s.2.2 l ∧ (∀ a ∈ l, Ok w a) ∧ s.2.2 * P.bytesOf e ≤ reachBytes
theorem opens_slice (hu : P.underlying t = some (.slice e)) (hc : P.cellsOf e = C.sz) (hp : 0 < C.sz) (he : Opens P e C Ok) : Opens P t cSl (SlOk P e C Ok) := fun enc w fuel cs x h hz => by
  rcases open_slice hu h with ⟨rfl, rfl⟩ | ⟨a, len, cap, m, n, D, Pl, rfl, _, hl, hm, hmm, rfl, hx⟩
  · exact ⟨(none, 0, 0), rfl, [], rfl, Vu.none C w, (fun _ h => by cases h), by simp⟩
  · simp only [if_true] at hmm
    subst hmm
    simp only [DataW.weights, hu, List.all_cons, Bool.and_eq_true, decide_eq_true_eq, List.length_map, List.length_range] at hz
    have hw : ∀ i, i < m → ((D i).weights P e).all (· ≤ reachBytes) = true := fun i hi => by
      rw [List.all_eq_true]
      intro k hk
      have h2 := hz.2
      rw [List.all_append, Bool.and_eq_true] at h2
      by_cases hil : i < len
      · exact List.all_eq_true.1 h2.1 k (weightsAll_mem (List.mem_map.2 ⟨i, by simpa using hil, rfl⟩) k hk)
      · exact List.all_eq_true.1 h2.2 k (weightsAll_mem (List.mem_map.2 ⟨i - len, by simp; omega, by congr 1; omega⟩) k hk)
    have each : ∀ i, i < len → ∃ b : α, (∀ j, j < C.sz → w.cell? (a.add (i * C.sz + j)) = (C.enc b)[j]?) ∧ Ok w b := fun i hi => by
      obtain ⟨cs', h1, h2⟩ := hx i (by omega)
      obtain ⟨b, rfl, hok⟩ := he enc w n cs' _ h2 (hw i (by omega))
      rw [hc] at h1
      obtain ⟨_, _, hcell⟩ := World.cells?_some h1
      refine ⟨b, fun j hj => ?_, hok⟩
      rw [← add_add, hcell j hj, Array.getElem?_toList]
    obtain ⟨f, hf⟩ : ∃ f : (i : Nat) → i < len → α, ∀ i h, (∀ j, j < C.sz → w.cell? (a.add (i * C.sz + j)) = (C.enc (f i h))[j]?) ∧ Ok w (f i h) := ⟨fun i h => (each i h).choose, fun i h => (each i h).choose_spec⟩
    let l : List α := List.ofFn fun i : Fin len => f i i.isLt
    have hll : l.length = len := by simp [l]
    have hlg : ∀ i (h : i < len), l[i]? = some (f i h) := fun i h => by simp [l, h]
    refine ⟨(some a, len, m), rfl, l, hll.symm, ⟨rfl, by rw [hll]; exact hl, (fun h => by cases h), fun hn => ?_⟩, fun b hb => ?_, ?_⟩
    · obtain ⟨ab, ao, spot⟩ := a
      rw [hll] at hn
      have hcell0 := (hf 0 hn).1 0 hp
      have hspot : spot = none := by
        rw [Array.getElem?_eq_getElem (by rw [C.size]; exact hp)] at hcell0
        have := World.cell?_spot hcell0
        simpa [Addr.add] using this
      subst hspot
      refine ⟨ab, ao, rfl, fun i y hy j u hu' => ?_⟩
      have hi : i < len := by rw [← hll]; exact (List.getElem?_eq_some_iff.1 hy).1
      rw [hlg i hi] at hy
      obtain rfl := Option.some.inj hy
      have hj : j < C.sz := by
        have := (Array.getElem?_eq_some_iff.1 hu').1
        rwa [C.size] at this
      have := (hf i hi).1 j hj
      rw [Addr.add_mid, hu'] at this
      rw [Nat.add_assoc]; exact this
    · obtain ⟨i, hi⟩ := List.getElem?_of_mem hb
      have hil : i < len := by rw [← hll]; exact (List.getElem?_eq_some_iff.1 hi).1
      rw [hlg i hil] at hi
      obtain rfl := Option.some.inj hi
      exact (hf i hil).2
    · have h1 := hz.1
      rw [show len + (m - len) = m by omega] at h1
      exact h1
theorem opens_arr {n : Nat} (hu : P.underlying t = some (.array n e)) (hc : P.cellsOf t = n) (he : P.underlying e = some (.int .u8)) (h1 : P.cellsOf e = 1) : Opens P t (cArr n) (fun _ _ => True) := fun enc w fuel cs x h _ => by
  obtain ⟨xs, m, _, _, hl, hx, hel⟩ := DataW.trod_array hu h
  have each : ∀ i, i < n → ∃ b : UInt8, cs[i]? = some (.int .u8 (b.toNat : Int)) := fun i hi => by
    have h2 := hel i hi
    rw [h1, List.getElem?_eq_getElem (by omega)] at h2
    obtain ⟨k, hn, _, hw⟩ := DataW.trod_int he h2
    have hr : 0 ≤ k ∧ k ≤ 255 := by
      simp [Lit.wf, IntKind.min, IntKind.max, IntKind.signed, IntKind.bits] at hw
      omega
    refine ⟨UInt8.ofNat k.toNat, ?_⟩
    have h3 := congrArg (fun l => l[0]?) hn
    simp at h3
    rw [h3]
    congr 2
    rw [UInt8.toNat_ofNat']
    omega
  obtain ⟨f, hf⟩ : ∃ f : Nat → UInt8, ∀ i, i < n → cs[i]? = some (.int .u8 ((f i).toNat : Int)) :=
    ⟨fun i => if h : i < n then (each i h).choose else 0, fun i hi => by simpa [hi] using (each i hi).choose_spec⟩
  refine ⟨f, ?_, trivial⟩
  apply List.ext_getElem?
  intro i
  rw [enc_arr, Array.getElem?_toList (xs := row n f)]
  by_cases hi : i < n
  · rw [row_get n f i hi, hf i hi]
    rfl
  · rw [List.getElem?_eq_none (by rw [hl, hc]; omega), Array.getElem?_eq_none (by rw [row_size]; omega)]
/-- An argument is its datum's value. -/
theorem okWide_noAgg {w : World} {base : Nat} {cs : Array Value} (hd : (P.underlying t).map (·.isRow) = some false) (h : Value.okWide P w .any base t (.agg cs)) : False := by
  cases hu : P.underlying t with
  | none => rw [hu] at hd; cases hd
  | some d =>
    rw [hu] at hd
    have hd := Option.some.inj hd
    cases d <;> first | (cases hd; done) | (simp [Value.okWide, hu, Cell.okWide, Cell.ok] at h)
theorem open_arg {H : Type} {enc : TypeId × Value → H} {W : World} {base : Nat} {v : Value} {d : DataW H} {p : List MemPlace} (ho : Opens P t C Ok) (hty : tyOk P t C = true) (hval : Value.okWide P W .any base t v) (h : DataW.Trod enc P W 0 (fun _ => true) true t v d p)
    (hz : (d.weights P t).all (· ≤ reachBytes) = true) : ∃ a, v = C.val a ∧ Ok W a := by
  obtain ⟨fuel, hf⟩ := h
  obtain ⟨a, ha, hok⟩ := ho enc W fuel _ _ hf hz
  refine ⟨a, ?_, hok⟩
  have ha' : v.cells = C.enc a := Array.ext' ha
  obtain ⟨hd, _⟩ := tyOk.spec hty
  cases hr : C.row with
  | true =>
    rw [hr] at hd
    have : ∃ cs, v = .agg cs := by
      cases hu : P.underlying t with
      | none => rw [hu] at hd; cases hd
      | some dd =>
        rw [hu] at hd
        have hd := Option.some.inj hd
        simp only [Value.okWide, hu] at hval
        cases dd <;> first | (cases hd; done) | (obtain ⟨cs, rfl, _⟩ := hval; exact ⟨cs, rfl⟩)
    obtain ⟨cs, rfl⟩ := this
    rw [C.agg hr a]
    exact congrArg Value.agg ha'
  | false =>
    rw [hr] at hd
    have h1 := one_cells (C.scal hr a)
    have h2 : v.cells = #[C.val a] := ha'.trans h1
    cases v with
    | agg cs => exact (okWide_noAgg hd hval).elim
    | _ => simpa [Value.cells] using h2
end
end Go.Proofs.YtbbegnfopdihaaaGreatDoor
