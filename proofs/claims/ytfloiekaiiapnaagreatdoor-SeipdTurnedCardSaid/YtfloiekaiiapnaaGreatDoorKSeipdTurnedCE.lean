/- What the claim leans on, part 5: plain theorems, and walks of functions of the program and of the document. -/
import Derived.Test.YtfloiekaiiapnaaGreatDoorKSeipdTurnedCD
import Derived.Test.YtfloiekaiiapnaaGreatDoorKSeipdTurnedCC
import Derived.Test.YtfloiekaiiapnaaGreatDoorKSeipdTurnedCA
import Derived.Test.YtfloiekaiiapnaaGreatDoorProg
import Derived.WalkKit
import Derived.OwnWalkIn
import Derived.LoopNIn
import Derived.LoopIn
import Derived.Shelf.Abstract
import Derived.Shelf.RegionOpen
import Derived.Test.YtfloiekaiiapnaaGreatDoorKSeipdTurnedCB
namespace Go.Proofs.YtfloiekaiiapnaaGreatDoor
open Go Go.RowKit
set_option maxRecDepth 100000

theorem cut_drop0 {b : List UInt8} {k j : Nat} : cutF (b.drop k) 0 j = cutF b k j := by
  unfold cutF
  rw [Nat.zero_add, List.getD_eq_getElem?_getD, List.getD_eq_getElem?_getD, List.getElem?_drop]
theorem pd_d {b : List UInt8} {k n j : Nat} (_ : j < 16) : pdB n (cutF (b.drop k) 0) j = pdB n (cutF b k) j := by
  unfold pdB
  rw [cut_drop0]
theorem pd_thL {C E : (Nat → UInt8) → Nat → UInt8} {st dl o : Nat → UInt8} {b P l1 : List UInt8} {q n1 : Nat} (hP : P = thL C E st dl o b) (hq : q = b.length / 16) (hn : b.length % 16 = n1) (hl : l1 = b.drop (16 * q)) (i : Nat) : pdB n1 (cutF (lst n1 (added (cutF l1 0) (E (added (ofs dl o q) st)))) 0) i = pdB n1 (cutF P (16 * q)) i := by
  subst hP hq hl hn
  unfold pdB
  by_cases h : i < b.length % 16
  · rw [if_pos h, if_pos h, show cutF (thL C E st dl o b) (16 * (b.length / 16)) i = _ from cut_of (thN_end h), cut_of (k := 0) (by rw [Nat.zero_add]; exact lst_get h)]
    show xr _ _ = xr _ _
    rw [cut_drop0]
  · rw [if_neg h, if_neg h]
theorem wb_in {C : (Nat → UInt8) → Nat → UInt8} (hC : ∀ {x y : Nat → UInt8}, E16 x y → E16 (C x) (C y)) {b : List UInt8} {q : Nat} {o : Nat → UInt8} (j : Nat) (hj : j < 16) : wb C o (cutF b (16 * q)) j = added o (C (added (cutF ((b.drop (16 * q)).take 16) 0) o)) j := by
  unfold wb
  rw [added_comm]
  exact E16.added (E16.refl _) (hC (E16.added (fun i hi => (cut_d hi).symm) (E16.refl _))) j hj

set_option maxHeartbeats 8000000 in
theorem rthraeE_r (g gc : Nat) (l : List UInt8) (hk : l.length = 16 ∨ l.length = 32) (st dl : Nat → UInt8) (E : Hl) (hO : ObAt g gc st dl E) (hgc : gc ∉ bks E) (o : Nat → UInt8) (Aa : Option Addr) (ya : Nat) (b : List UInt8) (hb : b.length ≤ 140737488355328) : Does Tryz.prog 36 #[(.pointer (some ⟨g, 0, none⟩)), ((cArr 16).val o), (.slice Aa b.length ya), (.bool false)] E (fun w => w.heap[gc]? = some (.cells (cCi.enc (boxF, bk boxF 256, (upF (16 * (l.length / 4 + 7)) (aeW l) fun _ => 0), (l.length / 4 + 6))) 109 (0, 0)) ∧ Vu cByte w Aa b.length ya b ∧ Off Aa b.length (bks E)) (fun v E' => ∃ s E1 E2, v = .tuple #[s, (cArr 16).val (aeE l (added (added (smL b) (ofE st dl o b.length)) dl))] ∧ E' = E1 ++ E2 ∧ ObAt g gc st dl E1 ∧ OwnT cByte 5 s (thL (aeE l) (aeE l) st dl o b) E2) := by
  refine does_of (fn := Tryz.f36) Tryz.func36 rfl Tryz.ntmps36 (Nat.le_of_ble_eq_true rfl) rfl ?_
  intro w0 hH hR
  have hca := hR.2.1.cap
  refine zr ?_
  refine zm hH (.bx (cArr 16) o) trivial 2 ?_
  clear hH
  rintro _ _ w ⟨g1, rfl, rfl⟩ hH
  refine zv .mv 0 ?_
  refine zm hH (.al (cArr 16) (fun _ => 0)) trivial 1 ?_
  clear hH
  rintro _ _ w ⟨g2, rfl, rfl⟩ hH
  refine zn ?_
  refine zr ?_
  refine zm hH (.al (cArr 16) (fun _ => 0)) trivial 0 ?_
  clear hH
  rintro _ _ w ⟨g3, rfl, rfl⟩ hH
  refine zn ?_
  refine zr ?_
  refine zv .mv 0 ?_
  refine zn ?_
  replace hH := HH.pad hH 1
  replace hH : HH w0 (bks E) [E, [bl g1 62 ((cArr 16).enc o)], [bl g2 62 ((cArr 16).enc (fun _ => 0))], [bl g3 62 ((cArr 16).enc (fun _ => 0))], []] w := hH
  refine zr ?_
  refine zv .mv 0 ?_
  refine zn ?_
  refine cxSeq ?_
  refine cxBlock ?_
  refine zL9 (fun (A1 : Option Addr) (n1 : Nat) (c1 : Nat) (_ : List UInt8) (q : Nat) (_ : Hl) (Ao : Option Addr) (co : Nat) (_ : Hl) => [(12, (.int .i64 (((q + 1) : Nat) : Int))), (11, (.slice Ao ((thW (aeE l) dl o b q).length) co)), (10, (.pointer (some ⟨g3, 0, none⟩))), (9, (.pointer (some ⟨g2, 0, none⟩))), (5, (.pointer (some ⟨g1, 0, none⟩))), (3, (.bool false)), (2, (.slice A1 n1 c1)), (0, (.pointer (some ⟨g, 0, none⟩)))]) (fun A1 n1 c1 l1 q E1 Ao co Eo w => HH w0 (bks E) [E1, [bl g1 62 ((cArr 16).enc (ofs dl o q))], [bl g2 62 ((cArr 16).enc (fun _ => 0))], [bl g3 62 ((cArr 16).enc (smW b q))], Eo] w ∧ (Vu cByte w0 A1 n1 c1 l1) ∧ (Off A1 n1 (bks E)) ∧ (l1 = b.drop (16 * q)) ∧ (n1 + 16 * q = b.length) ∧ (ObAt g gc st dl E1) ∧ (OwnT cByte 5 (.slice Ao (thW (aeE l) dl o b q).length co) (thW (aeE l) dl o b q) Eo)) (fun _ n1 _ _ _ _ _ _ _ => n1) Aa b.length ya b 0 E none 0 ([]) ⟨hH, hR.2.1, hR.2.2, (by rw [Nat.mul_zero, List.drop_zero]), (by omega), hO, (OwnT.nil _ _)⟩ ?_
  clear hH
  rintro A1 n1 c1 l1 q E1 Ao co Eo w ⟨hH, hV1, hO1, hl1, hn1, hOb, hOo⟩
  refine cxSeq ?_
  refine zr ?_
  refine zv .mv 0 ?_
  refine zv .len 1 ?_
  refine zv (.ge (n1 ≥ 16)) 1 ?_
  refine zn ?_
  refine zP (fun hc4 => ?_) (fun hc4 => ?_)
  refine cxSkip ?_
  refine qxThen ?_
  refine cxBlock ?_
  refine zx ?_
  replace hH := hH.drew
  refine rld 0 (hH.q 1 rfl) (.ld (cArr 16) (ofs dl o q) (fun _ hS => (holds_blk0 hS))) 1 ?_
  refine rv 1 .mv 0 ?_
  refine rv 2 .mv 0 ?_
  refine rx1k 3 ?_
  refine re 3 0 hH rfl (.call Tryz.func52 (at_r g gc st dl E1 hOb (q + 1) (by omega) (by omega))) trivial 3 (.keep (.nil _ [])) ?_
  clear hH
  rintro _ E5 w ⟨rfl, hOb6⟩ hH
  refine ⟨pcons (hH.blk 1 rfl) pnil, ?_⟩
  refine rx1k 4 (rpc 4 Tryz.func37 (rxor_c (ofs dl o q) (stp dl (q + 1))) trivial hH 3 (pgo [] (.nil _ [])) ?_)
  clear hH
  intro w hH
  refine ⟨pnil, ?_⟩
  refine rx1k 5 ?_
  refine re0 5 1 hH rfl (.sw (cArr 16) (ofs dl o q) (added (ofs dl o q) (stp dl (q + 1)))) trivial (.nil _ []) ?_
  clear hH
  rintro _ _ w rfl hH
  refine ⟨pnil, ?_⟩
  refine rn ?_
  have hn2 := hV1.len
  obtain ⟨b7, off8, rfl, hL9, hb10, hR11⟩ := hV1.blk (by decide) hO1 (by omega)
  have := hV1.cap
  refine zr ?_
  refine zv .mv 1 ?_
  refine zv (v := (.slice (some ⟨b7, off8, none⟩) 16 c1)) (fun _ _ hF => opCutH (h := 16) (e := 5) (sz := 1) rfl (by kernel_rfl) (by kernel_rfl) (hF.ev 0 rfl) rfl rfl (by omega)) 1 ?_
  refine zv (v := (.pointer (some ⟨b7, off8, none⟩))) (fun _ _ hF => opToArray (m := 16) (e := 5) rfl (by kernel_rfl) (hF.ev 0 rfl) (by omega)) 1 ?_
  refine zs (S := fun w => HoldsL cByte w b7 off8 l1) (hH.holdsL hL9 hb10 hR11) (.ld (cArr 16) (cutF (l1.take 16) 0) (fun _ hS => ((hS.cut 0 16).arr 0 16 (by first | omega | (rw [lst_len]; omega) | (simp only [List.length_drop, List.length_take]; omega) | (simp only [List.length_drop, List.length_take, lst_len]; omega))))) 1 ?_
  refine zm hH (.al (cArr 16) (fun _ => 0)) trivial 0 ?_
  clear hH
  rintro _ _ w ⟨g12, rfl, rfl⟩ hH
  refine ze0 5 hH rfl (.sw (cArr 16) (fun _ => 0) (cutF (l1.take 16) 0)) trivial ?_
  clear hH
  rintro _ _ w rfl hH
  refine zn ?_
  refine zr ?_
  refine zm hH (.al (cArr 16) (fun _ => 0)) trivial 2 ?_
  clear hH
  rintro _ _ w ⟨g13, rfl, rfl⟩ hH
  refine zn ?_
  refine cxSeq ?_
  refine zr ?_
  refine zv .mv 0 ?_
  refine zn ?_
  refine zF ?_
  refine zx ?_
  replace hH := hH.drew
  refine rld 0 (hH.q 1 rfl) (.ld (cArr 16) (added (ofs dl o q) (stp dl (q + 1))) (fun _ hS => (holds_blk0 hS))) 1 ?_
  refine rv 1 .mv 0 ?_
  refine rld 2 (hH.q 5 rfl) (.ld (cArr 16) (cutF (l1.take 16) 0) (fun _ hS => (holds_blk0 hS))) 0 ?_
  refine rld 3 (hH.q 1 rfl) (.ld (cArr 16) (added (ofs dl o q) (stp dl (q + 1))) (fun _ hS => (holds_blk0 hS))) 0 ?_
  refine rx1k 4 (rpc 4 Tryz.func37 (rxor_c (cutF (l1.take 16) 0) (added (ofs dl o q) (stp dl (q + 1)))) trivial hH 3 (pgo [] (pgo [] (.keep (.nil _ [])))) ?_)
  clear hH
  intro w hH
  refine ⟨pcons (hH.blk 1 rfl) pnil, ?_⟩
  refine rx1k 5 (rpc 5 Tryz.func50 (raes_o g gc l hk st dl E5 hOb6 (added (cutF (l1.take 16) 0) (added (ofs dl o q) (stp dl (q + 1))))) (⟨(hH.has 0 rfl), (hH.oldBlk hR.1 hgc)⟩) hH 3 (.keep (.nil _ [])) ?_)
  clear hH
  intro w hH
  refine ⟨pcons (hH.blk 1 rfl) pnil, ?_⟩
  refine rx1k 6 (rpc 6 Tryz.func37 (rxor_c (added (ofs dl o q) (stp dl (q + 1))) (aeE l (added (cutF (l1.take 16) 0) (added (ofs dl o q) (stp dl (q + 1)))))) trivial hH 3 (pgo [] (.nil _ [])) ?_)
  clear hH
  intro w hH
  refine ⟨pnil, ?_⟩
  refine rx1k 7 ?_
  refine re0 7 6 hH rfl (.sw (cArr 16) (fun _ => 0) (added (added (ofs dl o q) (stp dl (q + 1))) (aeE l (added (cutF (l1.take 16) 0) (added (ofs dl o q) (stp dl (q + 1))))))) trivial (.nil _ []) ?_
  clear hH
  rintro _ _ w rfl hH
  refine ⟨pnil, ?_⟩
  refine rn ?_
  refine cxReg ?_
  refine zs (hH.q 3 rfl) (.ld (cArr 16) (smW b q) (fun _ hS => (holds_blk0 hS))) 1 ?_
  refine zs (hH.q 5 rfl) (.ld (cArr 16) (cutF (l1.take 16) 0) (fun _ hS => (holds_blk0 hS))) 4 ?_
  refine zc Tryz.func37 (rxor_c (smW b q) (cutF (l1.take 16) 0)) trivial hH 3 ?_
  clear hH
  intro w hH
  refine ze0 3 hH rfl (.sw (cArr 16) (smW b q) (added (smW b q) (cutF (l1.take 16) 0))) trivial ?_
  clear hH
  rintro _ _ w rfl hH
  refine zn ?_
  have htw := thW_len (C := (aeE l)) (dl := dl) (o := o) (T := b) q
  refine zr ?_
  refine zv .mv 9 ?_
  refine zv (v := (.slice (some ⟨g13, 0, none⟩) 16 16)) (fun _ _ hF => opSliceA (n := 16) (e := 5) (sz := 1) rfl (by kernel_rfl) (by kernel_rfl) (hF.ev 1 rfl)) 2 ?_
  refine ze 4 hH rfl (fun _ hF => smAppT (C := cByte) (l := (thW (aeE l) dl o b q)) (m := (lst 16 (added (added (ofs dl o q) (stp dl (q + 1))) (aeE l (added (cutF (l1.take 16) 0) (added (ofs dl o q) (stp dl (q + 1)))))))) (e := 5) (z := (.int .u8 0)) (by_ := 1) rfl (by kernel_rfl) (by kernel_rfl) rfl (ltb rfl) (hF.ev 1 rfl) hOo (hF.ev 0 rfl) rfl (fun h => by cases h) (by unfold maxLen; omega) (by omega)) (vu_arr (hH.blk 6 rfl)) 3 ?_
  clear hH
  rintro v16 E17 w ⟨hO18, _⟩ hH
  replace hO18 : OwnT cByte 5 v16 ((thW (aeE l) dl o b q) ++ (lst 16 (added (added (ofs dl o q) (stp dl (q + 1))) (aeE l (added (cutF (l1.take 16) 0) (added (ofs dl o q) (stp dl (q + 1)))))))) E17 := hO18
  obtain ⟨A14, c15, rfl⟩ := hO18.slice
  refine zv .mv 1 ?_
  refine zn ?_
  refine zr ?_
  refine zv .mv 64 ?_
  refine zv (v := (.slice (cutA (some ⟨b7, off8, none⟩) c1 16 1) (n1 - 16) (c1 - 16))) (fun _ _ hF => opCutL (k := 16) (e := 5) (sz := 1) rfl (by kernel_rfl) (by kernel_rfl) (hF.ev 0 rfl) rfl rfl (by omega)) 1 ?_
  refine zv .mv 1 ?_
  refine zn ?_
  refine cxReg ?_
  refine zv .mv 4 ?_
  refine zv (.add (((q + 1) + 1 : Nat) : Int)) 1 ?_
  refine zv .mv 1 ?_
  refine pxEnd ?_
  refine qxInN ?_
  replace hH : HH w0 (bks E) [E5, [bl g1 62 ((cArr 16).enc (added (ofs dl o q) (stp dl (q + 1))))], [bl g2 62 ((cArr 16).enc (fun _ => 0))], [bl g3 62 ((cArr 16).enc (added (smW b q) (cutF (l1.take 16) 0)))], E17] w := hH.only [true, true, true, true, true, false, false]
  have he19 : (cArr 16).enc (smW b (q + 1)) = (cArr 16).enc (added (smW b q) (cutF (l1.take 16) 0)) := arr_congr (fun j hj => E16.added (E16.refl _) (fun i hi => by rw [hl1]; exact (cut_d hi).symm) j hj)
  replace hH : HH w0 (bks E) [E5, [bl g1 62 ((cArr 16).enc (added (ofs dl o q) (stp dl (q + 1))))], [bl g2 62 ((cArr 16).enc (fun _ => 0))], [bl g3 62 ((cArr 16).enc (smW b (q + 1)))], E17] w := by rw [he19]; exact hH
  have eo : ((thW (aeE l) dl o b q) ++ (lst 16 (added (added (ofs dl o q) (stp dl (q + 1))) (aeE l (added (cutF (l1.take 16) 0) (added (ofs dl o q) (stp dl (q + 1)))))))) = thW (aeE l) dl o b (q + 1) := congrArg (thW (aeE l) dl o b q ++ ·) (lst_congr fun j hj => by rw [hl1]; exact (wb_in (aeE_E16 l (aeR_pos l) ) j hj).symm)
  rw [eo] at hO18 ⊢
  exact zR9 (cutA (some ⟨b7, off8, none⟩) c1 16 1) (n1 - 16) (c1 - 16) (l1.drop 16) (q + 1) E5 A14 c15 E17 ⟨hH, (hV1.from (show 16 ≤ n1 by omega)), (hO1.cut hV1 _ (fun _ => by omega)), (by rw [hl1, List.drop_drop, Nat.mul_add]), (by omega), hOb6, hO18⟩ (by omega)
  refine cxExit ?_
  refine qxThenE ?_
  refine qxThenE ?_
  refine qxInE ?_
  refine qxThen ?_
  refine cxSeq ?_
  have hq : q = b.length / 16 := by omega
  have htw := thW_len (C := (aeE l)) (dl := dl) (o := o) (T := b) q
  refine zr ?_
  refine zv .mv 3 ?_
  refine zv .len 1 ?_
  refine zv (.gt (n1 > 0)) 1 ?_
  refine zn ?_
  refine zP (fun hc20 => ?_) (fun hc20 => ?_)
  obtain ⟨k21, A22, c23, EL24, h125, h726, rfl, hL27⟩ := hOb
  replace hH : HH w0 (bks E) [[bl g 88 (cOb.enc ((some ⟨gc, 0, none⟩), st, (A22, k21, c23)))], EL24, [bl g1 62 ((cArr 16).enc (ofs dl o q))], [bl g2 62 ((cArr 16).enc (fun _ => 0))], [bl g3 62 ((cArr 16).enc (smW b q))], Eo] w := hH.cast (by simp)
  refine zx ?_
  replace hH := hH.drew
  refine rld 0 (hH.q 2 rfl) (.ld (cArr 16) (ofs dl o q) (fun _ hS => (holds_blk0 hS))) 1 ?_
  refine rv 1 .mv 0 ?_
  refine rv 2 .nc 1 ?_
  refine rv 3 (.fld 1) 1 ?_
  refine rld 4 (hH.q 0 rfl) (.ld (cArr 16) st (fun _ hS => ((holds_blk0 hS).snd).fst)) 1 ?_
  refine rx1k 5 (rpc 5 Tryz.func37 (rxor_c (ofs dl o q) st) trivial hH 3 (pgo [] (pgo [] (.nil _ []))) ?_)
  clear hH
  intro w hH
  refine ⟨pnil, ?_⟩
  refine rx1k 6 ?_
  refine re0 6 2 hH rfl (.sw (cArr 16) (ofs dl o q) (added (ofs dl o q) st)) trivial (.nil _ []) ?_
  clear hH
  rintro _ _ w rfl hH
  refine ⟨pnil, ?_⟩
  refine rn ?_
  refine zr ?_
  refine zv .mv 1 ?_
  refine zs (hH.q 2 rfl) (.ld (cArr 16) (added (ofs dl o q) st) (fun _ hS => (holds_blk0 hS))) 0 ?_
  refine zc Tryz.func50 (raes_c g gc l hk st (A22, k21, c23) (added (ofs dl o q) st)) (⟨(hH.blk 0 rfl), (hH.oldBlk hR.1 hgc)⟩) hH 3 ?_
  clear hH
  intro w hH
  refine zm hH (.al (cArr 16) (fun _ => 0)) trivial 0 ?_
  clear hH
  rintro _ _ w ⟨g28, rfl, rfl⟩ hH
  refine ze0 6 hH rfl (.sw (cArr 16) (fun _ => 0) (aeE l (added (ofs dl o q) st))) trivial ?_
  clear hH
  rintro _ _ w rfl hH
  refine zn ?_
  refine zr ?_
  refine zm hH (fun _ hF => smLit0 (e := 5) rfl (by kernel_rfl) (by kernel_rfl)) trivial 2 ?_
  clear hH
  rintro _ _ w ⟨g29, rfl, rfl⟩ hH
  refine zv .mv 1 ?_
  refine zn ?_
  refine cxSeq ?_
  have hn3 := hV1.len
  obtain ⟨b30, off31, rfl, hL32, hb33, hR34⟩ := hV1.blk (by decide) hO1 (by omega)
  have := hV1.cap
  -- (.slice (some ⟨g29, 0, none⟩) 0 0) [] g29 [[bl g 88 (cOb.enc ((some ⟨gc, 0, none⟩), st, (A22, k21, c23)))], EL24, [bl g1 62 ((cArr 16).enc (added (ofs dl o q) st))], [bl g2 62 ((cArr 16).enc (fun _ => 0))], [bl g3 62 ((cArr 16).enc (smW b q))], Eo, [bl g28 62 ((cArr 16).enc (aeE l (added (ofs dl o q) st)))], [bl g29 5 #[]]]
  refine zr ?_
  refine zv .mv 0 ?_
  refine zv .len 1 ?_
  refine zv .mv 0 ?_
  refine zn ?_
  refine cxBlock ?_
  refine zL4 (fun (i : Nat) (Ar : Option Addr) (cr : Nat) (_ : Hl) => [(76, (.int .i64 (((i) : Nat) : Int))), (75, (.int .i64 (((n1) : Nat) : Int))), (16, (.slice Ar ((lst i (added (cutF l1 0) (aeE l (added (ofs dl o q) st)))).length) cr)), (15, (.pointer (some ⟨g28, 0, none⟩))), (11, (.slice Ao ((thW (aeE l) dl o b q).length) co)), (10, (.pointer (some ⟨g3, 0, none⟩))), (9, (.pointer (some ⟨g2, 0, none⟩))), (5, (.pointer (some ⟨g1, 0, none⟩))), (3, (.bool false)), (2, (.slice (some ⟨b30, off31, none⟩) n1 c1)), (0, (.pointer (some ⟨g, 0, none⟩)))]) (fun i Ar cr Er w => HH w0 (bks E) [[bl g 88 (cOb.enc ((some ⟨gc, 0, none⟩), st, (A22, k21, c23)))], EL24, [bl g1 62 ((cArr 16).enc (added (ofs dl o q) st))], [bl g2 62 ((cArr 16).enc (fun _ => 0))], [bl g3 62 ((cArr 16).enc (smW b q))], Eo, [bl g28 62 ((cArr 16).enc (aeE l (added (ofs dl o q) st)))], Er] w ∧ (i ≤ n1) ∧ (OwnT cByte 5 (.slice Ar (lst i (added (cutF l1 0) (aeE l (added (ofs dl o q) st)))).length cr) (lst i (added (cutF l1 0) (aeE l (added (ofs dl o q) st)))) Er)) (fun i _ _ _ => n1 - i) 0 (some ⟨g29, 0, none⟩) 0 ([bl g29 5 #[]]) ⟨hH, (Nat.zero_le _), ((Bk.lit0 (C := cByte)).own 5 g29 rfl)⟩ ?_
  clear hH
  rintro i Ar cr Er w ⟨hH, hi, hOr⟩
  refine zr ?_
  refine zv (.lt (i < n1)) 0 ?_
  refine zn ?_
  refine cxSeq ?_
  refine zP (fun hc35 => ?_) (fun hc35 => ?_)
  refine cxSkip ?_
  refine qxThen ?_
  refine cxSeq ?_
  refine cxBlock ?_
  refine zr ?_
  refine zv .mv 1 ?_
  refine zv .mv 1 ?_
  refine zn ?_
  have hrl := lst_len i (added (cutF l1 0) (aeE l (added (ofs dl o q) st)))
  refine cxRegX mixedOrders (by kernel_rfl) ?_
  replace hH := hH.drew
  refine rv 0 .mv 0 ?_
  refine rv 1 .mv 0 ?_
  refine rv 2 .mv 0 ?_
  have hi36 : i < n1 := by omega
  have hj39 : i < l1.length := by first | exact hi36 | (simp only [List.length_drop]; omega) | (simp only [List.length_drop, List.length_take]; omega) | omega
  obtain ⟨x37, hx38⟩ := get_at l1 i hj39
  have hb40 := UInt8.toNat_lt x37
  refine rv 3 (.ix 1 i (hi := hi36)) 3 ?_
  refine rld 4 (S := fun w => HoldsL cByte w b30 off31 l1) (hH.holdsL hL32 hb33 hR34) (.ld cByte x37 (fun _ hS => (hS i _ hx38))) 1 ?_
  refine rv 5 .mv 4 ?_
  have hi41 : i < 16 := by omega
  refine rv 6 (.ia 1 16 i (hi := hi41)) 1 ?_
  refine rld 7 (hH.q 6 rfl) (.ld cByte ((aeE l (added (ofs dl o q) st)) i) (fun _ hS => ((holds_blk0 hS).elt hi41))) 1 ?_
  refine rv 8 (.xb (x37 ^^^ ((aeE l (added (ofs dl o q) st)) i)) (u := x37) (v := ((aeE l (added (ofs dl o q) st)) i))) 3 ?_
  refine rx1k 9 ?_
  refine rm 9 hH (fun _ hF => smLit1 (e := 5) (sz := 1) (z := (.int .u8 0)) (by_ := 1) (cs := cByte.enc (x37 ^^^ ((aeE l (added (ofs dl o q) st)) i))) rfl (by kernel_rfl) (by kernel_rfl) (hF.ev 0 rfl) (cByte.len (x37 ^^^ ((aeE l (added (ofs dl o q) st)) i))) (ltb rfl) (leb rfl) rfl) trivial 1 (pgo [8] (pgo [8] (.nil _ []))) ?_
  clear hH
  rintro _ _ w ⟨g42, rfl, rfl⟩ hH
  refine ⟨pnil, ?_⟩
  refine rx1k 10 ?_
  refine re 10 7 hH rfl (fun _ hF => smAppT (C := cByte) (l := (lst i (added (cutF l1 0) (aeE l (added (ofs dl o q) st))))) (m := [(x37 ^^^ ((aeE l (added (ofs dl o q) st)) i))]) (e := 5) (z := (.int .u8 0)) (by_ := 1) rfl (by kernel_rfl) (by kernel_rfl) rfl (ltb rfl) (hF.ev 1 rfl) hOr (hF.ev 0 rfl) rfl (fun h => by cases h) (by unfold maxLen; omega) (by omega)) ((Bk.lit1 (C := cByte) (x37 ^^^ ((aeE l (added (ofs dl o q) st)) i))).vu (n := 1) (hH.blk 8 rfl) rfl) 3 (.nil _ []) ?_
  clear hH
  rintro v45 E46 w ⟨hO47, _⟩ hH
  replace hO47 : OwnT cByte 5 v45 ((lst i (added (cutF l1 0) (aeE l (added (ofs dl o q) st)))) ++ [(x37 ^^^ ((aeE l (added (ofs dl o q) st)) i))]) E46 := hO47
  obtain ⟨A43, c44, rfl⟩ := hO47.slice
  refine ⟨pnil, ?_⟩
  refine rv 11 .mv 9 ?_
  refine rxEnd (by kernel_rfl) ?_
  refine qxInN ?_
  refine qxThen ?_
  refine cxReg ?_
  refine zv (.add ((i + 1 : Nat) : Int)) 2 ?_
  refine zv .mv 1 ?_
  refine pxEnd ?_
  replace hH : HH w0 (bks E) [[bl g 88 (cOb.enc ((some ⟨gc, 0, none⟩), st, (A22, k21, c23)))], EL24, [bl g1 62 ((cArr 16).enc (added (ofs dl o q) st))], [bl g2 62 ((cArr 16).enc (fun _ => 0))], [bl g3 62 ((cArr 16).enc (smW b q))], Eo, [bl g28 62 ((cArr 16).enc (aeE l (added (ofs dl o q) st)))], E46] w := hH.only [true, true, true, true, true, true, true, true, false]
  have eo2 : ((lst i (added (cutF l1 0) (aeE l (added (ofs dl o q) st)))) ++ [(x37 ^^^ ((aeE l (added (ofs dl o q) st)) i))]) = (lst (i + 1) (added (cutF l1 0) (aeE l (added (ofs dl o q) st)))) := by
    rw [show x37 = cutF l1 0 i from (cut_of (by rw [Nat.zero_add]; exact hx38)).symm]; simp [lst, List.range_succ]; rfl
  rw [eo2] at hO47 ⊢
  exact zR4 (i + 1) A43 c44 E46 ⟨hH, (by omega), hO47⟩ (by omega)
  refine cxExit ?_
  refine qxThenE ?_
  refine qxThenE ?_
  refine qxInE ?_
  refine qxThen ?_
  obtain rfl : n1 = i := by omega
  have hrl := lst_len n1 (added (cutF l1 0) (aeE l (added (ofs dl o q) st)))
  refine zr ?_
  refine zv .mv 55 ?_
  refine zv .mv 0 ?_
  refine ze 5 hH rfl (fun _ hF => smAppT (C := cByte) (l := (thW (aeE l) dl o b q)) (m := (lst n1 (added (cutF l1 0) (aeE l (added (ofs dl o q) st))))) (e := 5) (z := (.int .u8 0)) (by_ := 1) rfl (by kernel_rfl) (by kernel_rfl) rfl (ltb rfl) (hF.ev 1 rfl) hOo (hF.ev 0 rfl) rfl hOr.nilA (by unfold maxLen; omega) (by omega)) (hOr.vuAt (hH.has 7 rfl)) 3 ?_
  clear hH
  rintro v50 E51 w ⟨hO52, _⟩ hH
  replace hO52 : OwnT cByte 5 v50 ((thW (aeE l) dl o b q) ++ (lst n1 (added (cutF l1 0) (aeE l (added (ofs dl o q) st))))) E51 := hO52
  obtain ⟨A48, c49, rfl⟩ := hO52.slice
  refine zv .mv 1 ?_
  refine zn ?_
  refine zr ?_
  refine zv .mv 32 ?_
  refine zn ?_
  refine zF ?_
  refine cxRegX mixedOrders (by kernel_rfl) ?_
  replace hH := hH.drew
  refine rld 0 (hH.q 4 rfl) (.ld (cArr 16) (smW b q) (fun _ hS => (holds_blk0 hS))) 5 ?_
  refine rv 1 .mv 32 ?_
  refine rx1k 2 (rpc 2 Tryz.func54 (rpad_n (some ⟨b30, off31, none⟩) n1 c1 l1 (by omega)) (hH.vu hV1 (by decide) hO1) hH 1 (.keep (.nil _ [])) ?_)
  clear hH
  intro w hH
  refine ⟨pcons (hH.blk 4 rfl) pnil, ?_⟩
  refine rx1k 3 (rpc 3 Tryz.func37 (rxor_c (smW b q) (pdB n1 (cutF l1 0))) trivial hH 3 (pgo [] (.nil _ [])) ?_)
  clear hH
  intro w hH
  refine ⟨pnil, ?_⟩
  refine rx1k 4 ?_
  refine re0 4 4 hH rfl (.sw (cArr 16) (smW b q) (added (smW b q) (pdB n1 (cutF l1 0)))) trivial (.nil _ []) ?_
  clear hH
  rintro _ _ w rfl hH
  refine ⟨pnil, ?_⟩
  refine rn ?_
  have h0L : (lsB dl k21)[0]? = some dl := lsB_get (by omega)
  have hkL := lsB_len dl k21
  refine zx ?_
  replace hH := hH.drew
  refine rv 0 .mv 3 ?_
  refine rv 1 .mv 0 ?_
  refine rld 2 (hH.q 4 rfl) (.ld (cArr 16) (added (smW b q) (pdB n1 (cutF l1 0))) (fun _ hS => (holds_blk0 hS))) 4 ?_
  refine rld 3 (hH.q 2 rfl) (.ld (cArr 16) (added (ofs dl o q) st) (fun _ hS => (holds_blk0 hS))) 16 ?_
  refine rv 5 .mv 32 ?_
  refine rv 6 .nc 1 ?_
  refine rv 7 (.fld 17) 1 ?_
  refine rld 8 (hH.q 0 rfl) (.ld cSl (A22, k21, c23) (fun _ hS => ((holds_blk0 hS).snd).snd) (v := (.slice A22 k21 c23))) 1 ?_
  have hi53 : 0 < k21 := by omega
  obtain ⟨g54, cap55, cur56, hv58, rfl, hB57⟩ := hL27.open (by omega)
  obtain ⟨rfl, rfl⟩ : A22 = some ⟨g54, 0, none⟩ ∧ c23 = cap55 := by injection hv58 with h1 h2 h3; exact ⟨h1, h3⟩
  have := hB57.le
  have hj61 : 0 < (lsB dl k21).length := by first | exact hi53 | (simp only [List.length_drop]; omega) | (simp only [List.length_drop, List.length_take]; omega) | omega
  refine rv 9 (.ix 16 0 (hi := hi53)) 1 ?_
  refine rld 10 (hH.q 1 rfl) (.ld (cArr 16) dl (fun _ hS => ((hB57.holdsL hS) 0 _ h0L))) 1 ?_
  refine rx1k 4 (rpc 4 Tryz.func37 (rxor_c (added (smW b q) (pdB n1 (cutF l1 0))) (added (ofs dl o q) st)) trivial hH 6 (.keep (.keep (pgo [] (pgo [] (.nil _ []))))) ?_)
  clear hH
  intro w hH
  refine ⟨pcons (hH.blk 1 rfl) (pcons (hH.blk 0 rfl) pnil), ?_⟩
  refine rx1k 11 (rpc 11 Tryz.func37 (rxor_c (added (added (smW b q) (pdB n1 (cutF l1 0))) (added (ofs dl o q) st)) dl) trivial hH 3 (pgo [] (pgo [10, 9] (.nil _ []))) ?_)
  clear hH
  intro w hH
  refine ⟨pnil, ?_⟩
  refine rx1k 12 (rpc 12 Tryz.func50 (raes_c g gc l hk st ((some ⟨g54, 0, none⟩), k21, c23) (added (added (added (smW b q) (pdB n1 (cutF l1 0))) (added (ofs dl o q) st)) dl)) (⟨(hH.blk 0 rfl), (hH.oldBlk hR.1 hgc)⟩) hH 3 (.nil _ []) ?_)
  clear hH
  intro w hH
  refine ⟨pnil, ?_⟩
  refine rv 13 .mv 2 ?_
  refine rx1k 14 ?_
  refine re0 14 3 hH rfl (.sw (cArr 16) (fun _ => 0) (aeE l (added (added (added (smW b q) (pdB n1 (cutF l1 0))) (added (ofs dl o q) st)) dl))) trivial (.nil _ []) ?_
  clear hH
  rintro _ _ w rfl hH
  refine ⟨pnil, ?_⟩
  refine rn ?_
  refine cxRet ?_
  refine qxRetTC 2 0 (hH.blk 3 rfl) rfl rfl rfl (by kernel_rfl) (Cod.size _ _) (by kernel_rfl) ?_
  have e1 : ((thW (aeE l) dl o b q) ++ (lst n1 (added (cutF l1 0) (aeE l (added (ofs dl o q) st))))) = (thL (aeE l) (aeE l) st dl o b) := by
    show _ = thN (aeE l) (aeE l) st dl o b b.length
    unfold thN thR; rw [← hq, show b.length % 16 = n1 by omega]; exact congrArg (thW (aeE l) dl o b q ++ ·) (lst_congr fun j hj => by show xr _ _ = xr _ _; rw [hl1, cut_drop0])
  have e2 : E16 (aeE l (added (added (added (smW b q) (pdB n1 (cutF l1 0))) (added (ofs dl o q) st)) dl)) (aeE l (added (added (smL b) (ofE st dl o b.length)) dl)) := by
    refine aeE_E16 l (aeR_pos l) (E16.added (E16.added ?_ ?_) (E16.refl _))
    · intro j hj; unfold smL; rw [if_neg (by omega), ← hq, show b.length % 16 = n1 by omega]; exact E16.added (E16.refl _) (fun i hi => by rw [hl1]; exact pd_d hi) j hj
    · intro j hj; unfold ofE; rw [if_neg (by omega), ← hq]
  replace hH : HH w0 (bks E) [[bl g 88 (cOb.enc ((some ⟨gc, 0, none⟩), st, ((some ⟨g54, 0, none⟩), k21, c23)))], [bl g54 62 cur56], E51] w := hH.only [true, true, false, false, false, true, false, false]
  rw [e1] at hO52 ⊢
  exact ⟨_, _, rfl, ⟨_, _, _, congrArg (fun f => Value.tuple #[_, f]) (val16 e2), rfl, ⟨k21, _, c23, _, h125, h726, rfl, (hB57.own 62 g54 (lsB_len _ _))⟩, hO52⟩, by simpa [HH] using hH⟩
  refine cxSkip ?_
  refine qxThen ?_
  obtain ⟨k62, A63, c64, EL65, h166, h767, rfl, hL68⟩ := hOb
  replace hH : HH w0 (bks E) [[bl g 88 (cOb.enc ((some ⟨gc, 0, none⟩), st, (A63, k62, c64)))], EL65, [bl g1 62 ((cArr 16).enc (ofs dl o q))], [bl g2 62 ((cArr 16).enc (fun _ => 0))], [bl g3 62 ((cArr 16).enc (smW b q))], Eo] w := hH.cast (by simp)
  have h0L : (lsB dl k62)[0]? = some dl := lsB_get (by omega)
  have hkL := lsB_len dl k62
  refine zx ?_
  replace hH := hH.drew
  refine rv 0 .mv 99 ?_
  refine rv 1 .mv 0 ?_
  refine rld 2 (hH.q 4 rfl) (.ld (cArr 16) (smW b q) (fun _ hS => (holds_blk0 hS))) 4 ?_
  refine rld 3 (hH.q 2 rfl) (.ld (cArr 16) (ofs dl o q) (fun _ hS => (holds_blk0 hS))) 16 ?_
  refine rv 5 .mv 32 ?_
  refine rv 6 .nc 1 ?_
  refine rv 7 (.fld 17) 1 ?_
  refine rld 8 (hH.q 0 rfl) (.ld cSl (A63, k62, c64) (fun _ hS => ((holds_blk0 hS).snd).snd) (v := (.slice A63 k62 c64))) 1 ?_
  have hi69 : 0 < k62 := by omega
  obtain ⟨g70, cap71, cur72, hv74, rfl, hB73⟩ := hL68.open (by omega)
  obtain ⟨rfl, rfl⟩ : A63 = some ⟨g70, 0, none⟩ ∧ c64 = cap71 := by injection hv74 with h1 h2 h3; exact ⟨h1, h3⟩
  have := hB73.le
  have hj77 : 0 < (lsB dl k62).length := by first | exact hi69 | (simp only [List.length_drop]; omega) | (simp only [List.length_drop, List.length_take]; omega) | omega
  refine rv 9 (.ix 16 0 (hi := hi69)) 1 ?_
  refine rld 10 (hH.q 1 rfl) (.ld (cArr 16) dl (fun _ hS => ((hB73.holdsL hS) 0 _ h0L))) 1 ?_
  refine rx1k 4 (rpc 4 Tryz.func37 (rxor_c (smW b q) (ofs dl o q)) trivial hH 6 (.keep (.keep (pgo [] (pgo [] (.nil _ []))))) ?_)
  clear hH
  intro w hH
  refine ⟨pcons (hH.blk 1 rfl) (pcons (hH.blk 0 rfl) pnil), ?_⟩
  refine rx1k 11 (rpc 11 Tryz.func37 (rxor_c (added (smW b q) (ofs dl o q)) dl) trivial hH 3 (pgo [] (pgo [10, 9] (.nil _ []))) ?_)
  clear hH
  intro w hH
  refine ⟨pnil, ?_⟩
  refine rx1k 12 (rpc 12 Tryz.func50 (raes_c g gc l hk st ((some ⟨g70, 0, none⟩), k62, c64) (added (added (smW b q) (ofs dl o q)) dl)) (⟨(hH.blk 0 rfl), (hH.oldBlk hR.1 hgc)⟩) hH 3 (.nil _ []) ?_)
  clear hH
  intro w hH
  refine ⟨pnil, ?_⟩
  refine rv 13 .mv 2 ?_
  refine rx1k 14 ?_
  refine re0 14 3 hH rfl (.sw (cArr 16) (fun _ => 0) (aeE l (added (added (smW b q) (ofs dl o q)) dl))) trivial (.nil _ []) ?_
  clear hH
  rintro _ _ w rfl hH
  refine ⟨pnil, ?_⟩
  refine rn ?_
  refine cxRet ?_
  refine qxRetTC 2 0 (hH.blk 3 rfl) rfl rfl rfl (by kernel_rfl) (Cod.size _ _) (by kernel_rfl) ?_
  have e1 : (thW (aeE l) dl o b q) = (thL (aeE l) (aeE l) st dl o b) := by
    show _ = thN (aeE l) (aeE l) st dl o b b.length
    unfold thN; rw [← hq, show b.length % 16 = 0 by omega]; exact (List.append_nil _).symm
  have e2 : E16 (aeE l (added (added (smW b q) (ofs dl o q)) dl)) (aeE l (added (added (smL b) (ofE st dl o b.length)) dl)) := by
    refine aeE_E16 l (aeR_pos l) (E16.added (E16.added ?_ ?_) (E16.refl _))
    · intro j hj; unfold smL; rw [if_pos (by omega), ← hq]
    · intro j hj; unfold ofE; rw [if_pos (by omega), ← hq]
  replace hH : HH w0 (bks E) [[bl g 88 (cOb.enc ((some ⟨gc, 0, none⟩), st, ((some ⟨g70, 0, none⟩), k62, c64)))], [bl g70 62 cur72], Eo] w := hH.only [true, true, false, false, false, true]
  rw [e1] at hOo ⊢
  exact ⟨_, _, rfl, ⟨_, _, _, congrArg (fun f => Value.tuple #[_, f]) (val16 e2), rfl, ⟨k62, _, c64, _, h166, h767, rfl, (hB73.own 62 g70 (lsB_len _ _))⟩, hOo⟩, by simpa [HH] using hH⟩

set_option maxHeartbeats 8000000 in
theorem rthraeD_r (g gc : Nat) (l : List UInt8) (hk : l.length = 16 ∨ l.length = 32) (st dl : Nat → UInt8) (E : Hl) (hO : ObAt g gc st dl E) (hgc : gc ∉ bks E) (o : Nat → UInt8) (Aa : Option Addr) (ya : Nat) (b : List UInt8) (hb : b.length ≤ 140737488355328) : Does Tryz.prog 36 #[(.pointer (some ⟨g, 0, none⟩)), ((cArr 16).val o), (.slice Aa b.length ya), (.bool true)] E (fun w => w.heap[gc]? = some (.cells (cCi.enc (boxF, bk boxF 256, (upF (16 * (l.length / 4 + 7)) (aeW l) fun _ => 0), (l.length / 4 + 6))) 109 (0, 0)) ∧ Vu cByte w Aa b.length ya b ∧ Off Aa b.length (bks E)) (fun v E' => ∃ s E1 E2, v = .tuple #[s, (cArr 16).val (aeE l (added (added (smL (thL (aeD l) (aeE l) st dl o b)) (ofE st dl o b.length)) dl))] ∧ E' = E1 ++ E2 ∧ ObAt g gc st dl E1 ∧ OwnT cByte 5 s (thL (aeD l) (aeE l) st dl o b) E2) := by
  refine does_of (fn := Tryz.f36) Tryz.func36 rfl Tryz.ntmps36 (Nat.le_of_ble_eq_true rfl) rfl ?_
  intro w0 hH hR
  have hca := hR.2.1.cap
  obtain ⟨P, hP⟩ : ∃ P, P = (thL (aeD l) (aeE l) st dl o b) := ⟨_, rfl⟩
  have hPl : P.length = b.length := by rw [hP]; exact thL_len
  refine zr ?_
  refine zm hH (.bx (cArr 16) o) trivial 2 ?_
  clear hH
  rintro _ _ w ⟨g1, rfl, rfl⟩ hH
  refine zv .mv 0 ?_
  refine zm hH (.al (cArr 16) (fun _ => 0)) trivial 1 ?_
  clear hH
  rintro _ _ w ⟨g2, rfl, rfl⟩ hH
  refine zn ?_
  refine zr ?_
  refine zm hH (.al (cArr 16) (fun _ => 0)) trivial 0 ?_
  clear hH
  rintro _ _ w ⟨g3, rfl, rfl⟩ hH
  refine zn ?_
  refine zr ?_
  refine zv .mv 0 ?_
  refine zn ?_
  replace hH := HH.pad hH 1
  replace hH : HH w0 (bks E) [E, [bl g1 62 ((cArr 16).enc o)], [bl g2 62 ((cArr 16).enc (fun _ => 0))], [bl g3 62 ((cArr 16).enc (fun _ => 0))], []] w := hH
  refine zr ?_
  refine zv .mv 0 ?_
  refine zn ?_
  refine cxSeq ?_
  refine cxBlock ?_
  refine zL9 (fun (A1 : Option Addr) (n1 : Nat) (c1 : Nat) (_ : List UInt8) (q : Nat) (_ : Hl) (Ao : Option Addr) (co : Nat) (_ : Hl) => [(12, (.int .i64 (((q + 1) : Nat) : Int))), (11, (.slice Ao ((thW (aeD l) dl o b q).length) co)), (10, (.pointer (some ⟨g3, 0, none⟩))), (9, (.pointer (some ⟨g2, 0, none⟩))), (5, (.pointer (some ⟨g1, 0, none⟩))), (3, (.bool true)), (2, (.slice A1 n1 c1)), (0, (.pointer (some ⟨g, 0, none⟩)))]) (fun A1 n1 c1 l1 q E1 Ao co Eo w => HH w0 (bks E) [E1, [bl g1 62 ((cArr 16).enc (ofs dl o q))], [bl g2 62 ((cArr 16).enc (fun _ => 0))], [bl g3 62 ((cArr 16).enc (smW P q))], Eo] w ∧ (Vu cByte w0 A1 n1 c1 l1) ∧ (Off A1 n1 (bks E)) ∧ (l1 = b.drop (16 * q)) ∧ (n1 + 16 * q = b.length) ∧ (ObAt g gc st dl E1) ∧ (OwnT cByte 5 (.slice Ao (thW (aeD l) dl o b q).length co) (thW (aeD l) dl o b q) Eo)) (fun _ n1 _ _ _ _ _ _ _ => n1) Aa b.length ya b 0 E none 0 ([]) ⟨hH, hR.2.1, hR.2.2, (by rw [Nat.mul_zero, List.drop_zero]), (by omega), hO, (OwnT.nil _ _)⟩ ?_
  clear hH
  rintro A1 n1 c1 l1 q E1 Ao co Eo w ⟨hH, hV1, hO1, hl1, hn1, hOb, hOo⟩
  refine cxSeq ?_
  refine zr ?_
  refine zv .mv 0 ?_
  refine zv .len 1 ?_
  refine zv (.ge (n1 ≥ 16)) 1 ?_
  refine zn ?_
  refine zP (fun hc4 => ?_) (fun hc4 => ?_)
  refine cxSkip ?_
  refine qxThen ?_
  refine cxBlock ?_
  refine zx ?_
  replace hH := hH.drew
  refine rld 0 (hH.q 1 rfl) (.ld (cArr 16) (ofs dl o q) (fun _ hS => (holds_blk0 hS))) 1 ?_
  refine rv 1 .mv 0 ?_
  refine rv 2 .mv 0 ?_
  refine rx1k 3 ?_
  refine re 3 0 hH rfl (.call Tryz.func52 (at_r g gc st dl E1 hOb (q + 1) (by omega) (by omega))) trivial 3 (.keep (.nil _ [])) ?_
  clear hH
  rintro _ E5 w ⟨rfl, hOb6⟩ hH
  refine ⟨pcons (hH.blk 1 rfl) pnil, ?_⟩
  refine rx1k 4 (rpc 4 Tryz.func37 (rxor_c (ofs dl o q) (stp dl (q + 1))) trivial hH 3 (pgo [] (.nil _ [])) ?_)
  clear hH
  intro w hH
  refine ⟨pnil, ?_⟩
  refine rx1k 5 ?_
  refine re0 5 1 hH rfl (.sw (cArr 16) (ofs dl o q) (added (ofs dl o q) (stp dl (q + 1)))) trivial (.nil _ []) ?_
  clear hH
  rintro _ _ w rfl hH
  refine ⟨pnil, ?_⟩
  refine rn ?_
  have hn2 := hV1.len
  obtain ⟨b7, off8, rfl, hL9, hb10, hR11⟩ := hV1.blk (by decide) hO1 (by omega)
  have := hV1.cap
  refine zr ?_
  refine zv .mv 1 ?_
  refine zv (v := (.slice (some ⟨b7, off8, none⟩) 16 c1)) (fun _ _ hF => opCutH (h := 16) (e := 5) (sz := 1) rfl (by kernel_rfl) (by kernel_rfl) (hF.ev 0 rfl) rfl rfl (by omega)) 1 ?_
  refine zv (v := (.pointer (some ⟨b7, off8, none⟩))) (fun _ _ hF => opToArray (m := 16) (e := 5) rfl (by kernel_rfl) (hF.ev 0 rfl) (by omega)) 1 ?_
  refine zs (S := fun w => HoldsL cByte w b7 off8 l1) (hH.holdsL hL9 hb10 hR11) (.ld (cArr 16) (cutF (l1.take 16) 0) (fun _ hS => ((hS.cut 0 16).arr 0 16 (by first | omega | (rw [lst_len]; omega) | (simp only [List.length_drop, List.length_take]; omega) | (simp only [List.length_drop, List.length_take, lst_len]; omega))))) 1 ?_
  refine zm hH (.al (cArr 16) (fun _ => 0)) trivial 0 ?_
  clear hH
  rintro _ _ w ⟨g12, rfl, rfl⟩ hH
  refine ze0 5 hH rfl (.sw (cArr 16) (fun _ => 0) (cutF (l1.take 16) 0)) trivial ?_
  clear hH
  rintro _ _ w rfl hH
  refine zn ?_
  refine zr ?_
  refine zm hH (.al (cArr 16) (fun _ => 0)) trivial 2 ?_
  clear hH
  rintro _ _ w ⟨g13, rfl, rfl⟩ hH
  refine zn ?_
  refine cxSeq ?_
  refine zr ?_
  refine zv .mv 0 ?_
  refine zn ?_
  refine zT ?_
  obtain ⟨k14, A15, c16, EL17, h118, h719, rfl, hL20⟩ := hOb6
  replace hH : HH w0 (bks E) [[bl g 88 (cOb.enc ((some ⟨gc, 0, none⟩), st, (A15, k14, c16)))], EL17, [bl g1 62 ((cArr 16).enc (added (ofs dl o q) (stp dl (q + 1))))], [bl g2 62 ((cArr 16).enc (fun _ => 0))], [bl g3 62 ((cArr 16).enc (smW P q))], Eo, [bl g12 62 ((cArr 16).enc (cutF (l1.take 16) 0))], [bl g13 62 ((cArr 16).enc (fun _ => 0))]] w := hH.cast (by simp)
  refine zx ?_
  replace hH := hH.drew
  refine rld 0 (hH.q 2 rfl) (.ld (cArr 16) (added (ofs dl o q) (stp dl (q + 1))) (fun _ hS => (holds_blk0 hS))) 1 ?_
  refine rv 1 .mv 0 ?_
  refine rv 2 .nc 1 ?_
  refine rv 3 (.fld 0) 1 ?_
  refine rld 4 (hH.q 0 rfl) (.ld cPtr (some ⟨gc, 0, none⟩) (fun _ hS => (holds_blk0 hS).fst)) 1 ?_
  refine rld 5 (hH.q 6 rfl) (.ld (cArr 16) (cutF (l1.take 16) 0) (fun _ hS => (holds_blk0 hS))) 8 ?_
  refine rld 6 (hH.q 2 rfl) (.ld (cArr 16) (added (ofs dl o q) (stp dl (q + 1))) (fun _ hS => (holds_blk0 hS))) 0 ?_
  refine rx1k 7 (rpc 7 Tryz.func37 (rxor_c (cutF (l1.take 16) 0) (added (ofs dl o q) (stp dl (q + 1)))) trivial hH 3 (pgo [] (pgo [] (.keep (.keep (.nil _ []))))) ?_)
  clear hH
  intro w hH
  refine ⟨pcons (hH.blk 0 rfl) (pcons (hH.blk 2 rfl) pnil), ?_⟩
  refine rx1k 8 (rpc 8 Tryz.func53 (dec_r gc l hk (added (cutF (l1.take 16) 0) (added (ofs dl o q) (stp dl (q + 1))))) (hH.oldBlk hR.1 hgc) hH 3 (pgo [] (.keep (.nil _ []))) ?_)
  clear hH
  intro w hH
  refine ⟨pcons (hH.blk 2 rfl) pnil, ?_⟩
  refine rx1k 9 (rpc 9 Tryz.func37 (rxor_c (added (ofs dl o q) (stp dl (q + 1))) (aeD l (added (cutF (l1.take 16) 0) (added (ofs dl o q) (stp dl (q + 1)))))) trivial hH 3 (pgo [] (.nil _ [])) ?_)
  clear hH
  intro w hH
  refine ⟨pnil, ?_⟩
  refine rx1k 10 ?_
  refine re0 10 7 hH rfl (.sw (cArr 16) (fun _ => 0) (added (added (ofs dl o q) (stp dl (q + 1))) (aeD l (added (cutF (l1.take 16) 0) (added (ofs dl o q) (stp dl (q + 1))))))) trivial (.nil _ []) ?_
  clear hH
  rintro _ _ w rfl hH
  refine ⟨pnil, ?_⟩
  refine rn ?_
  obtain ⟨E21, hE22, hOb23⟩ : ∃ E, E = bl g 88 (cOb.enc ((some ⟨gc, 0, none⟩), st, (A15, k14, c16))) :: EL17 ∧ ObAt g gc st dl E := ⟨_, rfl, k14, _, c16, _, h118, h719, rfl, hL20⟩
  replace hH : HH w0 (bks E) [E21, [bl g1 62 ((cArr 16).enc (added (ofs dl o q) (stp dl (q + 1))))], [bl g2 62 ((cArr 16).enc (fun _ => 0))], [bl g3 62 ((cArr 16).enc (smW P q))], Eo, [bl g12 62 ((cArr 16).enc (cutF (l1.take 16) 0))], [bl g13 62 ((cArr 16).enc (added (added (ofs dl o q) (stp dl (q + 1))) (aeD l (added (cutF (l1.take 16) 0) (added (ofs dl o q) (stp dl (q + 1)))))))]] w := hH.cast (by rw [hE22]; simp)
  refine cxReg ?_
  refine zs (hH.q 3 rfl) (.ld (cArr 16) (smW P q) (fun _ hS => (holds_blk0 hS))) 1 ?_
  refine zs (hH.q 6 rfl) (.ld (cArr 16) (added (added (ofs dl o q) (stp dl (q + 1))) (aeD l (added (cutF (l1.take 16) 0) (added (ofs dl o q) (stp dl (q + 1)))))) (fun _ hS => (holds_blk0 hS))) 0 ?_
  refine zc Tryz.func37 (rxor_c (smW P q) (added (added (ofs dl o q) (stp dl (q + 1))) (aeD l (added (cutF (l1.take 16) 0) (added (ofs dl o q) (stp dl (q + 1))))))) trivial hH 3 ?_
  clear hH
  intro w hH
  refine ze0 3 hH rfl (.sw (cArr 16) (smW P q) (added (smW P q) (added (added (ofs dl o q) (stp dl (q + 1))) (aeD l (added (cutF (l1.take 16) 0) (added (ofs dl o q) (stp dl (q + 1)))))))) trivial ?_
  clear hH
  rintro _ _ w rfl hH
  refine zn ?_
  have htw := thW_len (C := (aeD l)) (dl := dl) (o := o) (T := b) q
  refine zr ?_
  refine zv .mv 9 ?_
  refine zv (v := (.slice (some ⟨g13, 0, none⟩) 16 16)) (fun _ _ hF => opSliceA (n := 16) (e := 5) (sz := 1) rfl (by kernel_rfl) (by kernel_rfl) (hF.ev 1 rfl)) 2 ?_
  refine ze 4 hH rfl (fun _ hF => smAppT (C := cByte) (l := (thW (aeD l) dl o b q)) (m := (lst 16 (added (added (ofs dl o q) (stp dl (q + 1))) (aeD l (added (cutF (l1.take 16) 0) (added (ofs dl o q) (stp dl (q + 1)))))))) (e := 5) (z := (.int .u8 0)) (by_ := 1) rfl (by kernel_rfl) (by kernel_rfl) rfl (ltb rfl) (hF.ev 1 rfl) hOo (hF.ev 0 rfl) rfl (fun h => by cases h) (by unfold maxLen; omega) (by omega)) (vu_arr (hH.blk 6 rfl)) 3 ?_
  clear hH
  rintro v26 E27 w ⟨hO28, _⟩ hH
  replace hO28 : OwnT cByte 5 v26 ((thW (aeD l) dl o b q) ++ (lst 16 (added (added (ofs dl o q) (stp dl (q + 1))) (aeD l (added (cutF (l1.take 16) 0) (added (ofs dl o q) (stp dl (q + 1)))))))) E27 := hO28
  obtain ⟨A24, c25, rfl⟩ := hO28.slice
  refine zv .mv 1 ?_
  refine zn ?_
  refine zr ?_
  refine zv .mv 64 ?_
  refine zv (v := (.slice (cutA (some ⟨b7, off8, none⟩) c1 16 1) (n1 - 16) (c1 - 16))) (fun _ _ hF => opCutL (k := 16) (e := 5) (sz := 1) rfl (by kernel_rfl) (by kernel_rfl) (hF.ev 0 rfl) rfl rfl (by omega)) 1 ?_
  refine zv .mv 1 ?_
  refine zn ?_
  refine cxReg ?_
  refine zv .mv 4 ?_
  refine zv (.add (((q + 1) + 1 : Nat) : Int)) 1 ?_
  refine zv .mv 1 ?_
  refine pxEnd ?_
  refine qxInN ?_
  replace hH : HH w0 (bks E) [E21, [bl g1 62 ((cArr 16).enc (added (ofs dl o q) (stp dl (q + 1))))], [bl g2 62 ((cArr 16).enc (fun _ => 0))], [bl g3 62 ((cArr 16).enc (added (smW P q) (added (added (ofs dl o q) (stp dl (q + 1))) (aeD l (added (cutF (l1.take 16) 0) (added (ofs dl o q) (stp dl (q + 1))))))))], E27] w := hH.only [true, true, true, true, true, false, false]
  have he29 : (cArr 16).enc (smW P (q + 1)) = (cArr 16).enc (added (smW P q) (added (added (ofs dl o q) (stp dl (q + 1))) (aeD l (added (cutF (l1.take 16) 0) (added (ofs dl o q) (stp dl (q + 1))))))) := arr_congr (fun j hj => E16.added (E16.refl _) (fun i hi => by rw [hP, show cutF (thL (aeD l) (aeE l) st dl o b) (16 * q) i = _ from cut_of (thN_get (by omega) hi), hl1]; exact wb_in (aeD_E16 l ) i hi) j hj)
  replace hH : HH w0 (bks E) [E21, [bl g1 62 ((cArr 16).enc (added (ofs dl o q) (stp dl (q + 1))))], [bl g2 62 ((cArr 16).enc (fun _ => 0))], [bl g3 62 ((cArr 16).enc (smW P (q + 1)))], E27] w := by rw [he29]; exact hH
  have eo : ((thW (aeD l) dl o b q) ++ (lst 16 (added (added (ofs dl o q) (stp dl (q + 1))) (aeD l (added (cutF (l1.take 16) 0) (added (ofs dl o q) (stp dl (q + 1)))))))) = thW (aeD l) dl o b (q + 1) := congrArg (thW (aeD l) dl o b q ++ ·) (lst_congr fun j hj => by rw [hl1]; exact (wb_in (aeD_E16 l ) j hj).symm)
  rw [eo] at hO28 ⊢
  exact zR9 (cutA (some ⟨b7, off8, none⟩) c1 16 1) (n1 - 16) (c1 - 16) (l1.drop 16) (q + 1) E21 A24 c25 E27 ⟨hH, (hV1.from (show 16 ≤ n1 by omega)), (hO1.cut hV1 _ (fun _ => by omega)), (by rw [hl1, List.drop_drop, Nat.mul_add]), (by omega), hOb23, hO28⟩ (by omega)
  refine cxExit ?_
  refine qxThenE ?_
  refine qxThenE ?_
  refine qxInE ?_
  refine qxThen ?_
  refine cxSeq ?_
  have hq : q = b.length / 16 := by omega
  have htw := thW_len (C := (aeD l)) (dl := dl) (o := o) (T := b) q
  refine zr ?_
  refine zv .mv 3 ?_
  refine zv .len 1 ?_
  refine zv (.gt (n1 > 0)) 1 ?_
  refine zn ?_
  refine zP (fun hc30 => ?_) (fun hc30 => ?_)
  obtain ⟨k31, A32, c33, EL34, h135, h736, rfl, hL37⟩ := hOb
  replace hH : HH w0 (bks E) [[bl g 88 (cOb.enc ((some ⟨gc, 0, none⟩), st, (A32, k31, c33)))], EL34, [bl g1 62 ((cArr 16).enc (ofs dl o q))], [bl g2 62 ((cArr 16).enc (fun _ => 0))], [bl g3 62 ((cArr 16).enc (smW P q))], Eo] w := hH.cast (by simp)
  refine zx ?_
  replace hH := hH.drew
  refine rld 0 (hH.q 2 rfl) (.ld (cArr 16) (ofs dl o q) (fun _ hS => (holds_blk0 hS))) 1 ?_
  refine rv 1 .mv 0 ?_
  refine rv 2 .nc 1 ?_
  refine rv 3 (.fld 1) 1 ?_
  refine rld 4 (hH.q 0 rfl) (.ld (cArr 16) st (fun _ hS => ((holds_blk0 hS).snd).fst)) 1 ?_
  refine rx1k 5 (rpc 5 Tryz.func37 (rxor_c (ofs dl o q) st) trivial hH 3 (pgo [] (pgo [] (.nil _ []))) ?_)
  clear hH
  intro w hH
  refine ⟨pnil, ?_⟩
  refine rx1k 6 ?_
  refine re0 6 2 hH rfl (.sw (cArr 16) (ofs dl o q) (added (ofs dl o q) st)) trivial (.nil _ []) ?_
  clear hH
  rintro _ _ w rfl hH
  refine ⟨pnil, ?_⟩
  refine rn ?_
  refine zr ?_
  refine zv .mv 1 ?_
  refine zs (hH.q 2 rfl) (.ld (cArr 16) (added (ofs dl o q) st) (fun _ hS => (holds_blk0 hS))) 0 ?_
  refine zc Tryz.func50 (raes_c g gc l hk st (A32, k31, c33) (added (ofs dl o q) st)) (⟨(hH.blk 0 rfl), (hH.oldBlk hR.1 hgc)⟩) hH 3 ?_
  clear hH
  intro w hH
  refine zm hH (.al (cArr 16) (fun _ => 0)) trivial 0 ?_
  clear hH
  rintro _ _ w ⟨g38, rfl, rfl⟩ hH
  refine ze0 6 hH rfl (.sw (cArr 16) (fun _ => 0) (aeE l (added (ofs dl o q) st))) trivial ?_
  clear hH
  rintro _ _ w rfl hH
  refine zn ?_
  refine zr ?_
  refine zm hH (fun _ hF => smLit0 (e := 5) rfl (by kernel_rfl) (by kernel_rfl)) trivial 2 ?_
  clear hH
  rintro _ _ w ⟨g39, rfl, rfl⟩ hH
  refine zv .mv 1 ?_
  refine zn ?_
  refine cxSeq ?_
  have hn3 := hV1.len
  obtain ⟨b40, off41, rfl, hL42, hb43, hR44⟩ := hV1.blk (by decide) hO1 (by omega)
  have := hV1.cap
  -- (.slice (some ⟨g39, 0, none⟩) 0 0) [] g39 [[bl g 88 (cOb.enc ((some ⟨gc, 0, none⟩), st, (A32, k31, c33)))], EL34, [bl g1 62 ((cArr 16).enc (added (ofs dl o q) st))], [bl g2 62 ((cArr 16).enc (fun _ => 0))], [bl g3 62 ((cArr 16).enc (smW P q))], Eo, [bl g38 62 ((cArr 16).enc (aeE l (added (ofs dl o q) st)))], [bl g39 5 #[]]]
  refine zr ?_
  refine zv .mv 0 ?_
  refine zv .len 1 ?_
  refine zv .mv 0 ?_
  refine zn ?_
  refine cxBlock ?_
  refine zL4 (fun (i : Nat) (Ar : Option Addr) (cr : Nat) (_ : Hl) => [(76, (.int .i64 (((i) : Nat) : Int))), (75, (.int .i64 (((n1) : Nat) : Int))), (16, (.slice Ar ((lst i (added (cutF l1 0) (aeE l (added (ofs dl o q) st)))).length) cr)), (15, (.pointer (some ⟨g38, 0, none⟩))), (11, (.slice Ao ((thW (aeD l) dl o b q).length) co)), (10, (.pointer (some ⟨g3, 0, none⟩))), (9, (.pointer (some ⟨g2, 0, none⟩))), (5, (.pointer (some ⟨g1, 0, none⟩))), (3, (.bool true)), (2, (.slice (some ⟨b40, off41, none⟩) n1 c1)), (0, (.pointer (some ⟨g, 0, none⟩)))]) (fun i Ar cr Er w => HH w0 (bks E) [[bl g 88 (cOb.enc ((some ⟨gc, 0, none⟩), st, (A32, k31, c33)))], EL34, [bl g1 62 ((cArr 16).enc (added (ofs dl o q) st))], [bl g2 62 ((cArr 16).enc (fun _ => 0))], [bl g3 62 ((cArr 16).enc (smW P q))], Eo, [bl g38 62 ((cArr 16).enc (aeE l (added (ofs dl o q) st)))], Er] w ∧ (i ≤ n1) ∧ (OwnT cByte 5 (.slice Ar (lst i (added (cutF l1 0) (aeE l (added (ofs dl o q) st)))).length cr) (lst i (added (cutF l1 0) (aeE l (added (ofs dl o q) st)))) Er)) (fun i _ _ _ => n1 - i) 0 (some ⟨g39, 0, none⟩) 0 ([bl g39 5 #[]]) ⟨hH, (Nat.zero_le _), ((Bk.lit0 (C := cByte)).own 5 g39 rfl)⟩ ?_
  clear hH
  rintro i Ar cr Er w ⟨hH, hi, hOr⟩
  refine zr ?_
  refine zv (.lt (i < n1)) 0 ?_
  refine zn ?_
  refine cxSeq ?_
  refine zP (fun hc45 => ?_) (fun hc45 => ?_)
  refine cxSkip ?_
  refine qxThen ?_
  refine cxSeq ?_
  refine cxBlock ?_
  refine zr ?_
  refine zv .mv 1 ?_
  refine zv .mv 1 ?_
  refine zn ?_
  have hrl := lst_len i (added (cutF l1 0) (aeE l (added (ofs dl o q) st)))
  refine cxRegX mixedOrders (by kernel_rfl) ?_
  replace hH := hH.drew
  refine rv 0 .mv 0 ?_
  refine rv 1 .mv 0 ?_
  refine rv 2 .mv 0 ?_
  have hi46 : i < n1 := by omega
  have hj49 : i < l1.length := by first | exact hi46 | (simp only [List.length_drop]; omega) | (simp only [List.length_drop, List.length_take]; omega) | omega
  obtain ⟨x47, hx48⟩ := get_at l1 i hj49
  have hb50 := UInt8.toNat_lt x47
  refine rv 3 (.ix 1 i (hi := hi46)) 3 ?_
  refine rld 4 (S := fun w => HoldsL cByte w b40 off41 l1) (hH.holdsL hL42 hb43 hR44) (.ld cByte x47 (fun _ hS => (hS i _ hx48))) 1 ?_
  refine rv 5 .mv 4 ?_
  have hi51 : i < 16 := by omega
  refine rv 6 (.ia 1 16 i (hi := hi51)) 1 ?_
  refine rld 7 (hH.q 6 rfl) (.ld cByte ((aeE l (added (ofs dl o q) st)) i) (fun _ hS => ((holds_blk0 hS).elt hi51))) 1 ?_
  refine rv 8 (.xb (x47 ^^^ ((aeE l (added (ofs dl o q) st)) i)) (u := x47) (v := ((aeE l (added (ofs dl o q) st)) i))) 3 ?_
  refine rx1k 9 ?_
  refine rm 9 hH (fun _ hF => smLit1 (e := 5) (sz := 1) (z := (.int .u8 0)) (by_ := 1) (cs := cByte.enc (x47 ^^^ ((aeE l (added (ofs dl o q) st)) i))) rfl (by kernel_rfl) (by kernel_rfl) (hF.ev 0 rfl) (cByte.len (x47 ^^^ ((aeE l (added (ofs dl o q) st)) i))) (ltb rfl) (leb rfl) rfl) trivial 1 (pgo [8] (pgo [8] (.nil _ []))) ?_
  clear hH
  rintro _ _ w ⟨g52, rfl, rfl⟩ hH
  refine ⟨pnil, ?_⟩
  refine rx1k 10 ?_
  refine re 10 7 hH rfl (fun _ hF => smAppT (C := cByte) (l := (lst i (added (cutF l1 0) (aeE l (added (ofs dl o q) st))))) (m := [(x47 ^^^ ((aeE l (added (ofs dl o q) st)) i))]) (e := 5) (z := (.int .u8 0)) (by_ := 1) rfl (by kernel_rfl) (by kernel_rfl) rfl (ltb rfl) (hF.ev 1 rfl) hOr (hF.ev 0 rfl) rfl (fun h => by cases h) (by unfold maxLen; omega) (by omega)) ((Bk.lit1 (C := cByte) (x47 ^^^ ((aeE l (added (ofs dl o q) st)) i))).vu (n := 1) (hH.blk 8 rfl) rfl) 3 (.nil _ []) ?_
  clear hH
  rintro v55 E56 w ⟨hO57, _⟩ hH
  replace hO57 : OwnT cByte 5 v55 ((lst i (added (cutF l1 0) (aeE l (added (ofs dl o q) st)))) ++ [(x47 ^^^ ((aeE l (added (ofs dl o q) st)) i))]) E56 := hO57
  obtain ⟨A53, c54, rfl⟩ := hO57.slice
  refine ⟨pnil, ?_⟩
  refine rv 11 .mv 9 ?_
  refine rxEnd (by kernel_rfl) ?_
  refine qxInN ?_
  refine qxThen ?_
  refine cxReg ?_
  refine zv (.add ((i + 1 : Nat) : Int)) 2 ?_
  refine zv .mv 1 ?_
  refine pxEnd ?_
  replace hH : HH w0 (bks E) [[bl g 88 (cOb.enc ((some ⟨gc, 0, none⟩), st, (A32, k31, c33)))], EL34, [bl g1 62 ((cArr 16).enc (added (ofs dl o q) st))], [bl g2 62 ((cArr 16).enc (fun _ => 0))], [bl g3 62 ((cArr 16).enc (smW P q))], Eo, [bl g38 62 ((cArr 16).enc (aeE l (added (ofs dl o q) st)))], E56] w := hH.only [true, true, true, true, true, true, true, true, false]
  have eo2 : ((lst i (added (cutF l1 0) (aeE l (added (ofs dl o q) st)))) ++ [(x47 ^^^ ((aeE l (added (ofs dl o q) st)) i))]) = (lst (i + 1) (added (cutF l1 0) (aeE l (added (ofs dl o q) st)))) := by
    rw [show x47 = cutF l1 0 i from (cut_of (by rw [Nat.zero_add]; exact hx48)).symm]; simp [lst, List.range_succ]; rfl
  rw [eo2] at hO57 ⊢
  exact zR4 (i + 1) A53 c54 E56 ⟨hH, (by omega), hO57⟩ (by omega)
  refine cxExit ?_
  refine qxThenE ?_
  refine qxThenE ?_
  refine qxInE ?_
  refine qxThen ?_
  obtain rfl : n1 = i := by omega
  have hrl := lst_len n1 (added (cutF l1 0) (aeE l (added (ofs dl o q) st)))
  refine zr ?_
  refine zv .mv 55 ?_
  refine zv .mv 0 ?_
  refine ze 5 hH rfl (fun _ hF => smAppT (C := cByte) (l := (thW (aeD l) dl o b q)) (m := (lst n1 (added (cutF l1 0) (aeE l (added (ofs dl o q) st))))) (e := 5) (z := (.int .u8 0)) (by_ := 1) rfl (by kernel_rfl) (by kernel_rfl) rfl (ltb rfl) (hF.ev 1 rfl) hOo (hF.ev 0 rfl) rfl hOr.nilA (by unfold maxLen; omega) (by omega)) (hOr.vuAt (hH.has 7 rfl)) 3 ?_
  clear hH
  rintro v60 E61 w ⟨hO62, _⟩ hH
  replace hO62 : OwnT cByte 5 v60 ((thW (aeD l) dl o b q) ++ (lst n1 (added (cutF l1 0) (aeE l (added (ofs dl o q) st))))) E61 := hO62
  obtain ⟨A58, c59, rfl⟩ := hO62.slice
  refine zv .mv 1 ?_
  refine zn ?_
  refine zr ?_
  refine zv .mv 32 ?_
  refine zn ?_
  refine zT ?_
  refine cxRegX mixedOrders (by kernel_rfl) ?_
  replace hH := hH.drew
  refine rld 0 (hH.q 4 rfl) (.ld (cArr 16) (smW P q) (fun _ hS => (holds_blk0 hS))) 65 ?_
  refine rv 1 .mv 4 ?_
  refine rx1k 2 (rpc 2 Tryz.func54 (rpad_n Ar ((lst n1 (added (cutF l1 0) (aeE l (added (ofs dl o q) st)))).length) cr (lst n1 (added (cutF l1 0) (aeE l (added (ofs dl o q) st)))) (by omega)) (hOr.vuAt (hH.has 7 rfl)) hH 1 (.keep (.nil _ [])) ?_)
  clear hH
  intro w hH
  refine ⟨pcons (hH.blk 4 rfl) pnil, ?_⟩
  refine rx1k 3 (rpc 3 Tryz.func37 (rxor_c (smW P q) (pdB ((lst n1 (added (cutF l1 0) (aeE l (added (ofs dl o q) st)))).length) (cutF (lst n1 (added (cutF l1 0) (aeE l (added (ofs dl o q) st)))) 0))) trivial hH 3 (pgo [] (.nil _ [])) ?_)
  clear hH
  intro w hH
  refine ⟨pnil, ?_⟩
  refine rx1k 4 ?_
  refine re0 4 4 hH rfl (.sw (cArr 16) (smW P q) (added (smW P q) (pdB ((lst n1 (added (cutF l1 0) (aeE l (added (ofs dl o q) st)))).length) (cutF (lst n1 (added (cutF l1 0) (aeE l (added (ofs dl o q) st)))) 0)))) trivial (.nil _ []) ?_
  clear hH
  rintro _ _ w rfl hH
  refine ⟨pnil, ?_⟩
  refine rn ?_
  have h0L : (lsB dl k31)[0]? = some dl := lsB_get (by omega)
  have hkL := lsB_len dl k31
  refine zx ?_
  replace hH := hH.drew
  refine rv 0 .mv 3 ?_
  refine rv 1 .mv 0 ?_
  refine rld 2 (hH.q 4 rfl) (.ld (cArr 16) (added (smW P q) (pdB ((lst n1 (added (cutF l1 0) (aeE l (added (ofs dl o q) st)))).length) (cutF (lst n1 (added (cutF l1 0) (aeE l (added (ofs dl o q) st)))) 0))) (fun _ hS => (holds_blk0 hS))) 4 ?_
  refine rld 3 (hH.q 2 rfl) (.ld (cArr 16) (added (ofs dl o q) st) (fun _ hS => (holds_blk0 hS))) 16 ?_
  refine rv 5 .mv 32 ?_
  refine rv 6 .nc 1 ?_
  refine rv 7 (.fld 17) 1 ?_
  refine rld 8 (hH.q 0 rfl) (.ld cSl (A32, k31, c33) (fun _ hS => ((holds_blk0 hS).snd).snd) (v := (.slice A32 k31 c33))) 1 ?_
  have hi63 : 0 < k31 := by omega
  obtain ⟨g64, cap65, cur66, hv68, rfl, hB67⟩ := hL37.open (by omega)
  obtain ⟨rfl, rfl⟩ : A32 = some ⟨g64, 0, none⟩ ∧ c33 = cap65 := by injection hv68 with h1 h2 h3; exact ⟨h1, h3⟩
  have := hB67.le
  have hj71 : 0 < (lsB dl k31).length := by first | exact hi63 | (simp only [List.length_drop]; omega) | (simp only [List.length_drop, List.length_take]; omega) | omega
  refine rv 9 (.ix 16 0 (hi := hi63)) 1 ?_
  refine rld 10 (hH.q 1 rfl) (.ld (cArr 16) dl (fun _ hS => ((hB67.holdsL hS) 0 _ h0L))) 1 ?_
  refine rx1k 4 (rpc 4 Tryz.func37 (rxor_c (added (smW P q) (pdB ((lst n1 (added (cutF l1 0) (aeE l (added (ofs dl o q) st)))).length) (cutF (lst n1 (added (cutF l1 0) (aeE l (added (ofs dl o q) st)))) 0))) (added (ofs dl o q) st)) trivial hH 6 (.keep (.keep (pgo [] (pgo [] (.nil _ []))))) ?_)
  clear hH
  intro w hH
  refine ⟨pcons (hH.blk 1 rfl) (pcons (hH.blk 0 rfl) pnil), ?_⟩
  refine rx1k 11 (rpc 11 Tryz.func37 (rxor_c (added (added (smW P q) (pdB ((lst n1 (added (cutF l1 0) (aeE l (added (ofs dl o q) st)))).length) (cutF (lst n1 (added (cutF l1 0) (aeE l (added (ofs dl o q) st)))) 0))) (added (ofs dl o q) st)) dl) trivial hH 3 (pgo [] (pgo [10, 9] (.nil _ []))) ?_)
  clear hH
  intro w hH
  refine ⟨pnil, ?_⟩
  refine rx1k 12 (rpc 12 Tryz.func50 (raes_c g gc l hk st ((some ⟨g64, 0, none⟩), k31, c33) (added (added (added (smW P q) (pdB ((lst n1 (added (cutF l1 0) (aeE l (added (ofs dl o q) st)))).length) (cutF (lst n1 (added (cutF l1 0) (aeE l (added (ofs dl o q) st)))) 0))) (added (ofs dl o q) st)) dl)) (⟨(hH.blk 0 rfl), (hH.oldBlk hR.1 hgc)⟩) hH 3 (.nil _ []) ?_)
  clear hH
  intro w hH
  refine ⟨pnil, ?_⟩
  refine rv 13 .mv 2 ?_
  refine rx1k 14 ?_
  refine re0 14 3 hH rfl (.sw (cArr 16) (fun _ => 0) (aeE l (added (added (added (smW P q) (pdB ((lst n1 (added (cutF l1 0) (aeE l (added (ofs dl o q) st)))).length) (cutF (lst n1 (added (cutF l1 0) (aeE l (added (ofs dl o q) st)))) 0))) (added (ofs dl o q) st)) dl))) trivial (.nil _ []) ?_
  clear hH
  rintro _ _ w rfl hH
  refine ⟨pnil, ?_⟩
  refine rn ?_
  refine cxRet ?_
  refine qxRetTC 2 0 (hH.blk 3 rfl) rfl rfl rfl (by kernel_rfl) (Cod.size _ _) (by kernel_rfl) ?_
  have e1 : ((thW (aeD l) dl o b q) ++ (lst n1 (added (cutF l1 0) (aeE l (added (ofs dl o q) st))))) = (thL (aeD l) (aeE l) st dl o b) := by
    show _ = thN (aeD l) (aeE l) st dl o b b.length
    unfold thN thR; rw [← hq, show b.length % 16 = n1 by omega]; exact congrArg (thW (aeD l) dl o b q ++ ·) (lst_congr fun j hj => by show xr _ _ = xr _ _; rw [hl1, cut_drop0])
  have e2 : E16 (aeE l (added (added (added (smW P q) (pdB ((lst n1 (added (cutF l1 0) (aeE l (added (ofs dl o q) st)))).length) (cutF (lst n1 (added (cutF l1 0) (aeE l (added (ofs dl o q) st)))) 0))) (added (ofs dl o q) st)) dl)) (aeE l (added (added (smL (thL (aeD l) (aeE l) st dl o b)) (ofE st dl o b.length)) dl)) := by
    refine aeE_E16 l (aeR_pos l) (E16.added (E16.added ?_ ?_) (E16.refl _))
    · intro j hj; rw [← hP]; unfold smL; rw [if_neg (by omega), hPl, ← hq, show b.length % 16 = n1 by omega]; exact E16.added (E16.refl _) (fun i _ => by rw [lst_len]; exact pd_thL hP hq (by omega) hl1 i) j hj
    · intro j hj; unfold ofE; rw [if_neg (by omega), ← hq]
  replace hH : HH w0 (bks E) [[bl g 88 (cOb.enc ((some ⟨gc, 0, none⟩), st, ((some ⟨g64, 0, none⟩), k31, c33)))], [bl g64 62 cur66], E61] w := hH.only [true, true, false, false, false, true, false, false]
  rw [e1] at hO62 ⊢
  exact ⟨_, _, rfl, ⟨_, _, _, congrArg (fun f => Value.tuple #[_, f]) (val16 e2), rfl, ⟨k31, _, c33, _, h135, h736, rfl, (hB67.own 62 g64 (lsB_len _ _))⟩, hO62⟩, by simpa [HH] using hH⟩
  refine cxSkip ?_
  refine qxThen ?_
  obtain ⟨k72, A73, c74, EL75, h176, h777, rfl, hL78⟩ := hOb
  replace hH : HH w0 (bks E) [[bl g 88 (cOb.enc ((some ⟨gc, 0, none⟩), st, (A73, k72, c74)))], EL75, [bl g1 62 ((cArr 16).enc (ofs dl o q))], [bl g2 62 ((cArr 16).enc (fun _ => 0))], [bl g3 62 ((cArr 16).enc (smW P q))], Eo] w := hH.cast (by simp)
  have h0L : (lsB dl k72)[0]? = some dl := lsB_get (by omega)
  have hkL := lsB_len dl k72
  refine zx ?_
  replace hH := hH.drew
  refine rv 0 .mv 99 ?_
  refine rv 1 .mv 0 ?_
  refine rld 2 (hH.q 4 rfl) (.ld (cArr 16) (smW P q) (fun _ hS => (holds_blk0 hS))) 4 ?_
  refine rld 3 (hH.q 2 rfl) (.ld (cArr 16) (ofs dl o q) (fun _ hS => (holds_blk0 hS))) 16 ?_
  refine rv 5 .mv 32 ?_
  refine rv 6 .nc 1 ?_
  refine rv 7 (.fld 17) 1 ?_
  refine rld 8 (hH.q 0 rfl) (.ld cSl (A73, k72, c74) (fun _ hS => ((holds_blk0 hS).snd).snd) (v := (.slice A73 k72 c74))) 1 ?_
  have hi79 : 0 < k72 := by omega
  obtain ⟨g80, cap81, cur82, hv84, rfl, hB83⟩ := hL78.open (by omega)
  obtain ⟨rfl, rfl⟩ : A73 = some ⟨g80, 0, none⟩ ∧ c74 = cap81 := by injection hv84 with h1 h2 h3; exact ⟨h1, h3⟩
  have := hB83.le
  have hj87 : 0 < (lsB dl k72).length := by first | exact hi79 | (simp only [List.length_drop]; omega) | (simp only [List.length_drop, List.length_take]; omega) | omega
  refine rv 9 (.ix 16 0 (hi := hi79)) 1 ?_
  refine rld 10 (hH.q 1 rfl) (.ld (cArr 16) dl (fun _ hS => ((hB83.holdsL hS) 0 _ h0L))) 1 ?_
  refine rx1k 4 (rpc 4 Tryz.func37 (rxor_c (smW P q) (ofs dl o q)) trivial hH 6 (.keep (.keep (pgo [] (pgo [] (.nil _ []))))) ?_)
  clear hH
  intro w hH
  refine ⟨pcons (hH.blk 1 rfl) (pcons (hH.blk 0 rfl) pnil), ?_⟩
  refine rx1k 11 (rpc 11 Tryz.func37 (rxor_c (added (smW P q) (ofs dl o q)) dl) trivial hH 3 (pgo [] (pgo [10, 9] (.nil _ []))) ?_)
  clear hH
  intro w hH
  refine ⟨pnil, ?_⟩
  refine rx1k 12 (rpc 12 Tryz.func50 (raes_c g gc l hk st ((some ⟨g80, 0, none⟩), k72, c74) (added (added (smW P q) (ofs dl o q)) dl)) (⟨(hH.blk 0 rfl), (hH.oldBlk hR.1 hgc)⟩) hH 3 (.nil _ []) ?_)
  clear hH
  intro w hH
  refine ⟨pnil, ?_⟩
  refine rv 13 .mv 2 ?_
  refine rx1k 14 ?_
  refine re0 14 3 hH rfl (.sw (cArr 16) (fun _ => 0) (aeE l (added (added (smW P q) (ofs dl o q)) dl))) trivial (.nil _ []) ?_
  clear hH
  rintro _ _ w rfl hH
  refine ⟨pnil, ?_⟩
  refine rn ?_
  refine cxRet ?_
  refine qxRetTC 2 0 (hH.blk 3 rfl) rfl rfl rfl (by kernel_rfl) (Cod.size _ _) (by kernel_rfl) ?_
  have e1 : (thW (aeD l) dl o b q) = (thL (aeD l) (aeE l) st dl o b) := by
    show _ = thN (aeD l) (aeE l) st dl o b b.length
    unfold thN; rw [← hq, show b.length % 16 = 0 by omega]; exact (List.append_nil _).symm
  have e2 : E16 (aeE l (added (added (smW P q) (ofs dl o q)) dl)) (aeE l (added (added (smL (thL (aeD l) (aeE l) st dl o b)) (ofE st dl o b.length)) dl)) := by
    refine aeE_E16 l (aeR_pos l) (E16.added (E16.added ?_ ?_) (E16.refl _))
    · intro j hj; rw [← hP]; unfold smL; rw [if_pos (by omega), hPl, ← hq]
    · intro j hj; unfold ofE; rw [if_pos (by omega), ← hq]
  replace hH : HH w0 (bks E) [[bl g 88 (cOb.enc ((some ⟨gc, 0, none⟩), st, ((some ⟨g80, 0, none⟩), k72, c74)))], [bl g80 62 cur82], Eo] w := hH.only [true, true, false, false, false, true]
  rw [e1] at hOo ⊢
  exact ⟨_, _, rfl, ⟨_, _, _, congrArg (fun f => Value.tuple #[_, f]) (val16 e2), rfl, ⟨k72, _, c74, _, h176, h777, rfl, (hB83.own 62 g80 (lsB_len _ _))⟩, hOo⟩, by simpa [HH] using hH⟩
end Go.Proofs.YtfloiekaiiapnaaGreatDoor

namespace Go.Proofs.YtfloiekaiiapnaaGreatDoor
open Go Go.RowKit

/-- The bit k. -/
def bitv (x : UInt8) (k : Nat) : UInt8 := sr8 x k &&& 1
/-- The first r bits. -/
def msk (r : Nat) : UInt8 := UInt8.ofNat (256 - 2 ^ (8 - r))
/-- The first m bits of a block. -/
def bitsB (C : Nat → UInt8) (m : Nat) : Nat → UInt8 := fun j => if j < m / 8 then C j else if j = m / 8 then C j &&& msk (m % 8) else 0
theorem bits_zero (C : Nat → UInt8) : bitsB C 0 = fun _ => 0 := by
  funext j
  unfold bitsB
  rw [if_neg (by omega)]
  by_cases h : j = 0
  · rw [if_pos (by omega), show msk (0 % 8) = 0 from by decide]
    simp
  · rw [if_neg (by omega)]
theorem bits_all (C : Nat → UInt8) (j : Nat) (h : j < 16) : bitsB C 128 j = C j := if_pos (by omega)
theorem u8r_all {Q : UInt8 → Nat → Prop} (h : ∀ n : Fin 256, ∀ r : Fin 8, Q (UInt8.ofNat n.val) r.val) (x : UInt8) (r : Nat) (hr : r < 8) : Q x r := by
  have := h ⟨x.toNat, x.toNat_lt⟩ ⟨r, hr⟩
  simpa using this
theorem u8rs_all {Q : UInt8 → Nat → Nat → Prop} (h : ∀ n : Fin 256, ∀ r s : Fin 8, Q (UInt8.ofNat n.val) r.val s.val) (x : UInt8) (r s : Nat) (hr : r < 8) (hs : s < 8) : Q x r s := by
  have := h ⟨x.toNat, x.toNat_lt⟩ ⟨r, hr⟩ ⟨s, hs⟩
  simpa using this
theorem msk_step (c : UInt8) (r : Nat) (hr : r < 8) : (c &&& msk r ||| sl8 (bitv c (7 - r)) (7 - r)) = if r = 7 then c else c &&& msk (r + 1) :=
  u8r_all (Q := fun c r => (c &&& msk r ||| sl8 (bitv c (7 - r)) (7 - r)) = if r = 7 then c else c &&& msk (r + 1)) (by decide +kernel) c r hr
theorem bitv_test (x : UInt8) (k : Nat) (hk : k < 8) : bitv x k = if x.toNat.testBit k then 1 else 0 :=
  u8r_all (Q := fun x k => bitv x k = if x.toNat.testBit k then 1 else 0) (by decide +kernel) x k hk
theorem bitv_or (a b : UInt8) (k : Nat) (hk : k < 8) : bitv (a ||| b) k = bitv a k ||| bitv b k := by
  rw [bitv_test _ k hk, bitv_test _ k hk, bitv_test _ k hk, UInt8.toNat_or, Nat.testBit_or]
  cases a.toNat.testBit k <;> cases b.toNat.testBit k <;> decide
theorem bitv_shl (x : UInt8) (s r : Nat) (hs : s < 8) (hr : r < 8) : bitv (sl8 x s) (7 - r) = if s + r < 8 then bitv x (7 - (s + r)) else 0 :=
  u8rs_all (Q := fun x s r => bitv (sl8 x s) (7 - r) = if s + r < 8 then bitv x (7 - (s + r)) else 0) (by decide +kernel) x s r hs hr
theorem bitv_shr (x : UInt8) (s r : Nat) (hs : s < 8) (hr : r < 8) : bitv (sr8 x (8 - s)) (7 - r) = if s + r < 8 then 0 else bitv x (15 - (s + r)) :=
  u8rs_all (Q := fun x s r => bitv (sr8 x (8 - s)) (7 - r) = if s + r < 8 then 0 else bitv x (15 - (s + r))) (by decide +kernel) x s r hs hr
theorem cut_bit (S : Nat → UInt8) (bt q r q2 r2 : Nat) (hr : r < 8) (hr2 : r2 < 8) (h : bt + (8 * q + r) = 8 * q2 + r2) : bitv (ctB S bt q) (7 - r) = bitv (S q2) (7 - r2) := by
  have hs : bt % 8 < 8 := Nat.mod_lt _ (by omega)
  unfold ctB
  rw [bitv_or _ _ _ (by omega), bitv_shl _ _ _ hs hr, bitv_shr _ _ _ hs hr]
  by_cases h8 : bt % 8 + r < 8
  · rw [if_pos h8, if_pos h8, show bt / 8 + q = q2 by omega, show bt % 8 + r = r2 by omega]
    simp
  · rw [if_neg h8, if_neg h8, show bt / 8 + q + 1 = q2 by omega, show 15 - (bt % 8 + r) = 7 - r2 by omega]
    simp
theorem bits_step (C : Nat → UInt8) (q r : Nat) (hr : r < 8) : bitsB C (8 * q + r + 1) = stF (bitsB C (8 * q + r)) q (bitsB C (8 * q + r) q ||| sl8 (bitv (C q) (7 - r)) (7 - r)) := by
  have e : bitsB C (8 * q + r) q = C q &&& msk r := by
    unfold bitsB
    rw [if_neg (by omega), if_pos (by omega), show (8 * q + r) % 8 = r by omega]
  funext j
  unfold stF
  rw [e, msk_step _ r hr]
  unfold bitsB
  by_cases h7 : r = 7
  · subst h7
    rw [if_pos rfl, show (8 * q + 7 + 1) / 8 = q + 1 by omega, show (8 * q + 7 + 1) % 8 = 0 by omega, show (8 * q + 7) / 8 = q by omega, show (8 * q + 7) % 8 = 7 by omega]
    by_cases h : j = q
    · rw [if_pos (by omega), if_pos h, h]
    · rw [if_neg h]
      by_cases h1 : j < q
      · rw [if_pos (by omega), if_pos h1]
      · rw [if_neg (by omega), if_neg h1, if_neg h]
        by_cases h2 : j = q + 1
        · rw [if_pos h2, show msk 0 = 0 from by decide]
          simp
        · rw [if_neg h2]
  · rw [if_neg h7, show (8 * q + r + 1) / 8 = q by omega, show (8 * q + r + 1) % 8 = r + 1 by omega, show (8 * q + r) / 8 = q by omega, show (8 * q + r) % 8 = r by omega]
    by_cases h : j = q
    · rw [if_neg (by omega), if_pos h, if_pos h, h]
    · rw [if_neg h, if_neg h, if_neg h]
theorem bits_next (S : Nat → UInt8) (bt i : Nat) : bitsB (ctB S bt) (i + 1) = stF (bitsB (ctB S bt) i) (i / 8) (bitsB (ctB S bt) i (i / 8) ||| sl8 (sr8 (S ((bt + i) / 8)) (7 - (bt + i) % 8) &&& 1) (7 - i % 8)) := by
  obtain ⟨q, r, rfl, hr⟩ : ∃ q r, i = 8 * q + r ∧ r < 8 := ⟨i / 8, i % 8, by omega, by omega⟩
  rw [bits_step _ q r hr, cut_bit S bt q r ((bt + (8 * q + r)) / 8) ((bt + (8 * q + r)) % 8) hr (by omega) (by omega), show (8 * q + r) / 8 = q by omega, show (8 * q + r) % 8 = r by omega]
  rfl
theorem nc_is2 {N : List UInt8} (h1 : 1 ≤ N.length) (h15 : N.length ≤ 15) {j : Nat} (hj : j < 16) : ncB N j = stF (ovA (16 - N.length) (N.take N.length) fun _ => 0) (15 - N.length) (ovA (16 - N.length) (N.take N.length) (fun _ => 0) (15 - N.length) ||| 1) j := by
  unfold ncB stF ovA cutF
  rw [List.take_length, Nat.zero_add, if_neg (show ¬ (16 - N.length ≤ 15 - N.length ∧ _) by omega)]
  by_cases h : j < 15 - N.length
  · rw [if_pos h, if_neg (by omega), if_neg (by omega)]
  · rw [if_neg h]
    by_cases h2 : j = 15 - N.length
    · rw [if_pos h2, if_pos h2]; show (1 : UInt8) = 0 ||| 1; decide
    · rw [if_neg h2, if_neg h2, if_pos (by omega)]
end Go.Proofs.YtfloiekaiiapnaaGreatDoor

namespace Go.Proofs.YtfloiekaiiapnaaGreatDoor
open Go Go.RowKit
set_option maxRecDepth 100000

theorem btm_lt2 (N : List UInt8) : (ncB N 15 &&& 63).toNat < 64 := by
  rw [UInt8.toNat_and]
  exact Nat.lt_of_le_of_lt Nat.and_le_right (by decide)
theorem sr_at2 {t : Nat → UInt8} {i : Nat} : t i ^^^ t (i + 1) = srB t (16 + i) := by
  unfold srB
  rw [if_neg (by omega), show 16 + i - 16 = i by omega, show 16 + i - 15 = i + 1 by omega]
  rfl
theorem sr_first {K : Nat → UInt8} : lst 16 K = lst (16 + 0) (srB K) := lst_congr fun j hj => by unfold srB; rw [if_pos hj]

set_option maxHeartbeats 8000000 in
theorem begun_r (A : Option Addr) (z : Nat) (l : List UInt8) (hk : l.length = 16 ∨ l.length = 32) (B : Option Addr) (y : Nat) (N : List UInt8) (h1 : 1 ≤ N.length) (h15 : N.length ≤ 15) : Does Tryz.prog 35 #[(.slice A l.length z), (.slice B N.length y)] [] (fun w => Vu cByte w A l.length z l ∧ Vu cByte w B N.length y N) (fun v E' => ∃ g gc E1, v = .tuple #[.pointer (some ⟨g, 0, none⟩), (cArr 16).val (of0 (aeE l) N), .bool true] ∧ E' = bl gc 109 (cCi.enc (boxF, bk boxF 256, (upF (16 * (l.length / 4 + 7)) (aeW l) fun _ => 0), (l.length / 4 + 6))) :: E1 ∧ ObAt g gc (ocSt l) (ocDl l) E1) := by
  refine does_of (fn := Tryz.f35) Tryz.func35 rfl Tryz.ntmps35 (Nat.le_of_ble_eq_true rfl) rfl ?_
  intro w0 hH hR
  replace hH : HH w0 [] [] w0 := hH.only [false]
  refine zr ?_
  refine zv .mv 0 ?_
  refine zm hH (.al (cArr 16) (fun _ => 0)) trivial 1 ?_
  clear hH
  rintro _ _ w ⟨g1, rfl, rfl⟩ hH
  refine zv .mv 0 ?_
  refine zn ?_
  refine zr ?_
  refine zv .mv 5 ?_
  refine zm hH (.call Tryz.func49 (new_r A z l hk)) (hH.vu hR.1 (by decide) (Off.nil _ _)) 1 ?_
  clear hH
  rintro _ _ w ⟨gc, rfl, rfl⟩ hH
  refine zv .mv 1 ?_
  refine zv .ext 0 ?_
  refine zv .ext 2 ?_
  refine zv .mv 2 ?_
  refine zv .mv 2 ?_
  refine zn ?_
  refine cxSeq ?_
  refine zr ?_
  refine zv .mv 1 ?_
  refine zv (v := (.bool false)) (fun _ _ hF => opNot rfl (hF.ev 0 rfl) rfl) 1 ?_
  refine zv .mv 1 ?_
  refine pxV (v := (.slice B N.length y)) (fun _ _ hF => opMove rfl (hF.ev 3 rfl)) rfl (gOn 0 rfl rfl rfl (by decide)) (kA rfl) (by decide) ?_
  refine pxV (v := (.int .i64 (((N.length) : Nat) : Int))) (fun _ _ hF => opLen (e := 5) rfl (by kernel_rfl) (hF.ev 0 rfl)) rfl (gOn 1 rfl rfl rfl (by decide)) (kM [false, true, true, true, true] rfl rfl) (by decide) ?_
  refine pxV (v := (.bool false)) (fun _ _ hF => opLss rfl (hF.ev 0 rfl) rfl (decide_eq_false (by omega))) rfl (gOn 1 rfl rfl rfl (by decide)) (kM [false, true, true, true, true] rfl rfl) (by decide) ?_
  refine zv (v := (.bool false)) (fun _ _ hF => opPickF rfl (hF.ev 1 rfl) (hF.ev 0 rfl)) 3 ?_
  refine zv .mv 1 ?_
  refine pxV (v := (.slice B N.length y)) (fun _ _ hF => opMove rfl (hF.ev 3 rfl)) rfl (gOn 0 rfl rfl rfl (by decide)) (kA rfl) (by decide) ?_
  refine pxV (v := (.int .i64 (((N.length) : Nat) : Int))) (fun _ _ hF => opLen (e := 5) rfl (by kernel_rfl) (hF.ev 0 rfl)) rfl (gOn 1 rfl rfl rfl (by decide)) (kM [false, true, true, true, true] rfl rfl) (by decide) ?_
  refine pxV (v := (.bool false)) (fun _ _ hF => opGtr rfl (hF.ev 0 rfl) rfl (decide_eq_false (by omega))) rfl (gOn 1 rfl rfl rfl (by decide)) (kM [false, true, true, true, true] rfl rfl) (by decide) ?_
  refine zv (v := (.bool false)) (fun _ _ hF => opPickF rfl (hF.ev 1 rfl) (hF.ev 0 rfl)) 3 ?_
  refine zn ?_
  refine zF ?_
  refine cxSkip ?_
  refine qxThen ?_
  refine zr ?_
  refine zv .mv 3 ?_
  refine zv (v := (cOb.val ((some ⟨gc, 0, none⟩), (fun _ => 0), (none, 0, 0)))) (fun _ _ hF => opBuildP (cells := cOb.enc ((some ⟨gc, 0, none⟩), (fun _ => 0), (none, 0, 0))) rfl (EvP.cons (v := (.pointer (some ⟨gc, 0, none⟩))) (hF.ev 0 rfl) EvP.nil) (built_1of3 (A := cPtr) (B := cArr 16) (C := cSl) none (fun _ => 0) (none, 0, 0) (by kernel_rfl) (by kernel_rfl) rfl) _) 1 ?_
  refine zm hH (.bx cOb ((some ⟨gc, 0, none⟩), (fun _ => 0), (none, 0, 0))) trivial 1 ?_
  clear hH
  rintro _ _ w ⟨g2, rfl, rfl⟩ hH
  refine zv .mv 1 ?_
  refine zn ?_
  refine zr ?_
  refine zv .mv 0 ?_
  refine zv .mv 0 ?_
  refine zv (v := ((cArr 16).val (fun _ => 0))) (fun _ _ hF => opBuildP (cells := (cArr 16).enc (fun _ => 0)) (vals := []) rfl EvP.nil (by kernel_rfl) _) 0 ?_
  refine zc Tryz.func50 (raes_c g2 gc l hk (fun _ => 0) (none, 0, 0) (fun _ => 0)) (⟨(hH.blk 2 rfl), (hH.blk 1 rfl)⟩) hH 3 ?_
  clear hH
  intro w hH
  refine zv .nc 2 ?_
  refine zv (.fld 1) 1 ?_
  refine ze0 2 hH rfl (fun _ hF => smStoreT (C := (cArr 16)) (z := (aeE l (fun _ => 0))) rfl (hF.ev 0 rfl) (hF.ev 1 rfl) rfl (by kernel_rfl) (by rw [Cod.size]; exact leb rfl) (put_snd (put_fst (put_whole (cArr 16) _ _) (by rw [Array.length_toList, Cod.size]; exact leb rfl)) rfl)) trivial ?_
  clear hH
  rintro _ _ w rfl hH
  refine zn ?_
  refine zr ?_
  refine zv .mv 3 ?_
  refine zv .mv 0 ?_
  refine zv .nc 1 ?_
  refine zv (.fld 1) 1 ?_
  refine zs (hH.q 2 rfl) (.ld (cArr 16) (aeE l (fun _ => 0)) (fun _ hS => ((holds_blk0 hS).snd).fst)) 1 ?_
  refine zc Tryz.func51 (rdbl_c (aeE l (fun _ => 0))) trivial hH 1 ?_
  clear hH
  intro w hH
  refine zm hH (fun _ hF => smLit1 (e := 62) (sz := 16) (z := ((cArr 16).val (fun _ => 0))) (by_ := 16) (cs := (cArr 16).enc (dbB (aeE l (fun _ => 0)))) rfl (by kernel_rfl) (by kernel_rfl) (hF.ev 0 rfl) ((cArr 16).len (dbB (aeE l (fun _ => 0)))) (ltb rfl) (leb rfl) rfl) trivial 1 ?_
  clear hH
  rintro _ _ w ⟨g3, rfl, rfl⟩ hH
  refine zv .nc 2 ?_
  refine zv (.fld 17) 1 ?_
  refine ze0 2 hH rfl (fun _ hF => smStoreT (C := cSl) (z := ((some ⟨g3, 0, none⟩), 1, 1)) rfl (hF.ev 0 rfl) (hF.ev 1 rfl) rfl (by kernel_rfl) (by rw [Cod.size]; exact leb rfl) (put_snd (put_snd (put_whole cSl _ _) rfl) rfl)) trivial ?_
  clear hH
  rintro _ _ w rfl hH
  refine zn ?_
  refine zr ?_
  refine zm hH (.al (cArr 16) (fun _ => 0)) trivial 3 ?_
  clear hH
  rintro _ _ w ⟨g4, rfl, rfl⟩ hH
  refine zn ?_
  refine zr ?_
  refine zv .mv 0 ?_
  refine zv .len 1 ?_
  refine zv (.sub (((16 - N.length) : Nat) : Int)) 1 ?_
  refine zv (v := (.slice (some ⟨g4, 0 + (16 - N.length) * 1, none⟩) (16 - (16 - N.length)) (16 - (16 - N.length)))) (fun _ _ hF => opSliceAL (m := 16) (l := 16 - N.length) (e := 5) (sz := 1) rfl (by kernel_rfl) (by kernel_rfl) (hF.ev 1 rfl) (hF.ev 0 rfl) rfl (by omega)) 1 ?_
  refine zv .mv 0 ?_
  refine ze 4 hH rfl (fun _ hF => smCopyK (C := cByte) (m := N) (e := 5) N.length (show min N.length (16 - (16 - N.length)) = N.length by omega) rfl (by kernel_rfl) (by kernel_rfl) (ltb rfl) (hF.ev 1 rfl) (hF.ev 0 rfl) rfl (by rw [Cod.size]; show 0 + (16 - N.length) * 1 + N.length * 1 ≤ 16; omega) (arr_ovA (16 - N.length) _ _)) (hH.vu hR.2 (by decide) (Off.nil _ _)) 3 ?_
  clear hH
  rintro _ _ w ⟨rfl, rfl⟩ hH
  refine zn ?_
  refine zr ?_
  refine zv .mv 1 ?_
  refine zv .len 1 ?_
  refine zv (.sub (((15 - N.length) : Nat) : Int)) 1 ?_
  refine zv .mv 16 ?_
  refine zv .len 1 ?_
  refine zv (.sub (((15 - N.length) : Nat) : Int)) 1 ?_
  have hi5 : 15 - N.length < 16 := by omega
  refine zv (.ia 1 16 (15 - N.length) (hi := hi5)) 1 ?_
  refine zs (hH.q 4 rfl) (.ld cByte ((ovA (16 - N.length) (N.take N.length) (fun _ => 0)) (15 - N.length)) (fun _ hS => ((holds_blk0 hS).elt hi5))) 1 ?_
  refine zv (.ob (((ovA (16 - N.length) (N.take N.length) (fun _ => 0)) (15 - N.length)) ||| (1 : UInt8)) (u := ((ovA (16 - N.length) (N.take N.length) (fun _ => 0)) (15 - N.length))) (v := (1 : UInt8))) 1 ?_
  have hi6 : 15 - N.length < 16 := by omega
  refine zv (.ia 1 16 (15 - N.length) (hi := hi6)) 2 ?_
  refine ze0 4 hH rfl (.st cByte (((ovA (16 - N.length) (N.take N.length) (fun _ => 0)) (15 - N.length)) ||| (1 : UInt8)) (room_1 (S := sBy) (C := (cArr 16)) rfl hi6) (arr_set0 (ovA (16 - N.length) (N.take N.length) (fun _ => 0)) (((ovA (16 - N.length) (N.take N.length) (fun _ => 0)) (15 - N.length)) ||| (1 : UInt8)) hi6)) trivial ?_
  clear hH
  rintro _ _ w rfl hH
  refine zn ?_
  have he7 : (cArr 16).enc (ncB N) = (cArr 16).enc (stF (ovA (16 - N.length) (N.take N.length) (fun _ => 0)) (15 - N.length) (((ovA (16 - N.length) (N.take N.length) (fun _ => 0)) (15 - N.length)) ||| (1 : UInt8))) := arr_congr (fun j hj => nc_is2 h1 h15 hj)
  replace hH : HH w0 [] [[bl g1 62 ((cArr 16).enc (fun _ => 0))], [bl gc 109 (cCi.enc (boxF, bk boxF 256, (upF (16 * (l.length / 4 + 7)) (aeW l) fun _ => 0), (l.length / 4 + 6)))], [bl g2 88 (cOb.enc ((some ⟨gc, 0, none⟩), (aeE l (fun _ => 0)), ((some ⟨g3, 0, none⟩), 1, 1)))], [bl g3 62 ((cArr 16).enc (dbB (aeE l (fun _ => 0))))], [bl g4 62 ((cArr 16).enc (ncB N))]] w := by rw [he7]; exact hH
  have hbt : (ncB N 15 &&& 63).toNat < 64 := btm_lt2 N
  refine zr ?_
  have hi8 : 15 < 16 := by omega
  refine zv (.ia 1 16 15 (hi := hi8)) 3 ?_
  refine zs (hH.q 4 rfl) (.ld cByte ((ncB N) 15) (fun _ hS => ((holds_blk0 hS).elt hi8))) 1 ?_
  refine zv (.ab (((ncB N) 15) &&& (63 : UInt8)) (u := ((ncB N) 15)) (v := (63 : UInt8))) 1 ?_
  refine zv .ci 1 ?_
  refine zv .mv 1 ?_
  refine zn ?_
  refine zr ?_
  have hi9 : 15 < 16 := by omega
  refine zv (.ia 1 16 15 (hi := hi9)) 0 ?_
  refine zs (hH.q 4 rfl) (.ld cByte ((ncB N) 15) (fun _ hS => ((holds_blk0 hS).elt hi9))) 1 ?_
  refine zv (.ab (((ncB N) 15) &&& (192 : UInt8)) (u := ((ncB N) 15)) (v := (192 : UInt8))) 1 ?_
  have hi10 : 15 < 16 := by omega
  refine zv (.ia 1 16 15 (hi := hi10)) 0 ?_
  refine ze0 4 hH rfl (.st cByte (((ncB N) 15) &&& (192 : UInt8)) (room_1 (S := sBy) (C := (cArr 16)) rfl hi10) (arr_set0 (ncB N) (((ncB N) 15) &&& (192 : UInt8)) hi10)) trivial ?_
  clear hH
  rintro _ _ w rfl hH
  refine zn ?_
  have he11 : (cArr 16).enc (ncT N) = (cArr 16).enc (stF (ncB N) 15 (((ncB N) 15) &&& (192 : UInt8))) := arr_congr (fun j _ => rfl)
  replace hH : HH w0 [] [[bl g1 62 ((cArr 16).enc (fun _ => 0))], [bl gc 109 (cCi.enc (boxF, bk boxF 256, (upF (16 * (l.length / 4 + 7)) (aeW l) fun _ => 0), (l.length / 4 + 6)))], [bl g2 88 (cOb.enc ((some ⟨gc, 0, none⟩), (aeE l (fun _ => 0)), ((some ⟨g3, 0, none⟩), 1, 1)))], [bl g3 62 ((cArr 16).enc (dbB (aeE l (fun _ => 0))))], [bl g4 62 ((cArr 16).enc (ncT N))]] w := by rw [he11]; exact hH
  refine zr ?_
  refine zv .mv 3 ?_
  refine zs (hH.q 4 rfl) (.ld (cArr 16) (ncT N) (fun _ hS => (holds_blk0 hS))) 4 ?_
  refine zc Tryz.func50 (raes_c g2 gc l hk (aeE l (fun _ => 0)) ((some ⟨g3, 0, none⟩), 1, 1) (ncT N)) (⟨(hH.blk 2 rfl), (hH.blk 1 rfl)⟩) hH 3 ?_
  clear hH
  intro w hH
  refine zm hH (.al (cArr 16) (fun _ => 0)) trivial 0 ?_
  clear hH
  rintro _ _ w ⟨g12, rfl, rfl⟩ hH
  refine ze0 5 hH rfl (.sw (cArr 16) (fun _ => 0) (aeE l (ncT N))) trivial ?_
  clear hH
  rintro _ _ w rfl hH
  refine zn ?_
  obtain ⟨K, hK⟩ : ∃ K, K = (aeE l (ncT N)) := ⟨_, rfl⟩
  rw [← hK] at hH
  refine zr ?_
  refine zm hH (fun _ hF => smLit0 (e := 5) rfl (by kernel_rfl) (by kernel_rfl)) trivial 2 ?_
  clear hH
  rintro _ _ w ⟨g13, rfl, rfl⟩ hH
  refine zv (v := (.slice (some ⟨g12, 0, none⟩) 16 16)) (fun _ _ hF => opSliceA (n := 16) (e := 5) (sz := 1) rfl (by kernel_rfl) (by kernel_rfl) (hF.ev 1 rfl)) 0 ?_
  refine ze 6 hH rfl (fun _ hF => smAppT (C := cByte) (l := []) (m := (lst 16 K)) (e := 5) (z := (.int .u8 0)) (by_ := 1) rfl (by kernel_rfl) (by kernel_rfl) rfl (ltb rfl) (hF.ev 1 rfl) ((Bk.lit0 (C := cByte)).own 5 g13 rfl) (hF.ev 0 rfl) rfl (fun h => by cases h) (by rw [List.length_nil]; unfold maxLen; omega) (by rw [List.length_nil]; omega)) (vu_arr (hH.blk 5 rfl)) 3 ?_
  clear hH
  rintro v16 E17 w ⟨hO18, _⟩ hH
  replace hO18 : OwnT cByte 5 v16 (lst 16 K) E17 := hO18
  obtain ⟨A14, c15, rfl⟩ := hO18.slice
  refine zv .mv 1 ?_
  refine zn ?_
  refine cxSeq ?_
  refine zr ?_
  refine zv .mv 0 ?_
  refine zn ?_
  refine cxBlock ?_
  have eo : (lst 16 K) = lst (16 + 0) (srB K) := sr_first
  rw [eo] at hO18 ⊢
  refine zL4 (fun (i : Nat) (As : Option Addr) (cs : Nat) (_ : Hl) => [(85, (.int .i64 (((i) : Nat) : Int))), (13, (.slice As ((lst (16 + i) (srB K)).length) cs)), (12, (.pointer (some ⟨g12, 0, none⟩))), (11, (.int .i64 ((((((ncB N) 15) &&& (63 : UInt8)).toNat) : Nat) : Int))), (9, (.pointer (some ⟨g2, 0, none⟩))), (5, (.pointer (some ⟨g1, 0, none⟩)))]) (fun i As cs Es w => HH w0 [] [[bl g1 62 ((cArr 16).enc (fun _ => 0))], [bl gc 109 (cCi.enc (boxF, bk boxF 256, (upF (16 * (l.length / 4 + 7)) (aeW l) fun _ => 0), (l.length / 4 + 6)))], [bl g2 88 (cOb.enc ((some ⟨gc, 0, none⟩), (aeE l (fun _ => 0)), ((some ⟨g3, 0, none⟩), 1, 1)))], [bl g3 62 ((cArr 16).enc (dbB (aeE l (fun _ => 0))))], [bl g4 62 ((cArr 16).enc (ncT N))], [bl g12 62 ((cArr 16).enc K)], Es] w ∧ (i ≤ 8) ∧ (OwnT cByte 5 (.slice As (lst (16 + i) (srB K)).length cs) (lst (16 + i) (srB K)) Es)) (fun i _ _ _ => 8 - i) 0 A14 c15 E17 ⟨hH, (Nat.zero_le _), hO18⟩ ?_
  clear hH
  rintro i As cs Es w ⟨hH, hi, hOs⟩
  refine zr ?_
  refine zv (.lt (i < 8)) 0 ?_
  refine zn ?_
  refine cxSeq ?_
  refine zP (fun hc19 => ?_) (fun hc19 => ?_)
  refine cxSkip ?_
  refine qxThen ?_
  refine cxSeq ?_
  refine cxBlock ?_
  refine zr ?_
  refine zv .mv 1 ?_
  refine zv .mv 1 ?_
  refine zn ?_
  have hsl := lst_len (16 + i) (srB K)
  refine cxRegX mixedOrders (by kernel_rfl) ?_
  replace hH := hH.drew
  refine rv 0 .mv 0 ?_
  refine rv 1 .mv 0 ?_
  have hi20 : i < 16 := by omega
  refine rv 2 (.ia 1 16 i (hi := hi20)) 1 ?_
  refine rld 3 (hH.q 5 rfl) (.ld cByte (K i) (fun _ hS => ((holds_blk0 hS).elt hi20))) 1 ?_
  refine rv 4 .mv 4 ?_
  refine rv 5 (.add ((i + 1 : Nat) : Int)) 1 ?_
  have hi21 : i + 1 < 16 := by omega
  refine rv 6 (.ia 1 16 (i + 1) (hi := hi21)) 1 ?_
  refine rld 7 (hH.q 5 rfl) (.ld cByte (K (i + 1)) (fun _ hS => ((holds_blk0 hS).elt hi21))) 1 ?_
  refine rv 8 (.xb ((K i) ^^^ (K (i + 1))) (u := (K i)) (v := (K (i + 1)))) 3 ?_
  refine rx1k 9 ?_
  refine rm 9 hH (fun _ hF => smLit1 (e := 5) (sz := 1) (z := (.int .u8 0)) (by_ := 1) (cs := cByte.enc ((K i) ^^^ (K (i + 1)))) rfl (by kernel_rfl) (by kernel_rfl) (hF.ev 0 rfl) (cByte.len ((K i) ^^^ (K (i + 1)))) (ltb rfl) (leb rfl) rfl) trivial 1 (pgo [8] (pgo [8] (.nil _ []))) ?_
  clear hH
  rintro _ _ w ⟨g22, rfl, rfl⟩ hH
  refine ⟨pnil, ?_⟩
  refine rx1k 10 ?_
  refine re 10 6 hH rfl (fun _ hF => smAppT (C := cByte) (l := (lst (16 + i) (srB K))) (m := [((K i) ^^^ (K (i + 1)))]) (e := 5) (z := (.int .u8 0)) (by_ := 1) rfl (by kernel_rfl) (by kernel_rfl) rfl (ltb rfl) (hF.ev 1 rfl) hOs (hF.ev 0 rfl) rfl (fun h => by cases h) (by unfold maxLen; omega) (by omega)) ((Bk.lit1 (C := cByte) ((K i) ^^^ (K (i + 1)))).vu (n := 1) (hH.blk 7 rfl) rfl) 3 (.nil _ []) ?_
  clear hH
  rintro v25 E26 w ⟨hO27, _⟩ hH
  replace hO27 : OwnT cByte 5 v25 ((lst (16 + i) (srB K)) ++ [((K i) ^^^ (K (i + 1)))]) E26 := hO27
  obtain ⟨A23, c24, rfl⟩ := hO27.slice
  refine ⟨pnil, ?_⟩
  refine rv 11 .mv 5 ?_
  refine rxEnd (by kernel_rfl) ?_
  refine qxInN ?_
  refine qxThen ?_
  refine cxReg ?_
  refine zv (.add ((i + 1 : Nat) : Int)) 2 ?_
  refine zv .mv 1 ?_
  refine pxEnd ?_
  replace hH : HH w0 [] [[bl g1 62 ((cArr 16).enc (fun _ => 0))], [bl gc 109 (cCi.enc (boxF, bk boxF 256, (upF (16 * (l.length / 4 + 7)) (aeW l) fun _ => 0), (l.length / 4 + 6)))], [bl g2 88 (cOb.enc ((some ⟨gc, 0, none⟩), (aeE l (fun _ => 0)), ((some ⟨g3, 0, none⟩), 1, 1)))], [bl g3 62 ((cArr 16).enc (dbB (aeE l (fun _ => 0))))], [bl g4 62 ((cArr 16).enc (ncT N))], [bl g12 62 ((cArr 16).enc K)], E26] w := hH.only [true, true, true, true, true, true, true, false]
  have eo : ((lst (16 + i) (srB K)) ++ [((K i) ^^^ (K (i + 1)))]) = lst (16 + (i + 1)) (srB K) := by rw [show (16 + (i + 1)) = (16 + i) + 1 from rfl]; simp only [lst, List.range_succ, List.map_append, List.map_cons, List.map_nil]; rw [show srB K (16 + i) = _ from sr_at2.symm]
  rw [eo] at hO27 ⊢
  exact zR4 (i + 1) A23 c24 E26 ⟨hH, (by omega), hO27⟩ (by omega)
  refine cxExit ?_
  refine qxThenE ?_
  refine qxThenE ?_
  refine qxInE ?_
  refine qxThen ?_
  obtain rfl : i = 8 := by omega
  have hsl := lst_len (16 + 8) (srB K)
  refine zr ?_
  refine zm hH (.al (cArr 16) (fun _ => 0)) trivial 11 ?_
  clear hH
  rintro _ _ w ⟨g28, rfl, rfl⟩ hH
  refine zn ?_
  refine cxSeq ?_
  refine zr ?_
  refine zv .mv 0 ?_
  refine zn ?_
  refine cxBlock ?_
  have he29 : (cArr 16).enc (bitsB (ctB (srB K) ((ncB N 15 &&& 63).toNat)) 0) = (cArr 16).enc (fun _ => 0) := arr_congr (fun u _ => by rw [bits_zero])
  replace hH : HH w0 [] [[bl g1 62 ((cArr 16).enc (fun _ => 0))], [bl gc 109 (cCi.enc (boxF, bk boxF 256, (upF (16 * (l.length / 4 + 7)) (aeW l) fun _ => 0), (l.length / 4 + 6)))], [bl g2 88 (cOb.enc ((some ⟨gc, 0, none⟩), (aeE l (fun _ => 0)), ((some ⟨g3, 0, none⟩), 1, 1)))], [bl g3 62 ((cArr 16).enc (dbB (aeE l (fun _ => 0))))], [bl g4 62 ((cArr 16).enc (ncT N))], [bl g12 62 ((cArr 16).enc K)], Es, [bl g28 62 ((cArr 16).enc (bitsB (ctB (srB K) ((ncB N 15 &&& 63).toNat)) 0))]] w := by rw [he29]; exact hH
  refine zL1 (fun (j : Nat) => [(100, (.int .i64 (((j) : Nat) : Int))), (15, (.pointer (some ⟨g28, 0, none⟩))), (13, (.slice As ((lst (16 + 8) (srB K)).length) cs)), (11, (.int .i64 ((((((ncB N) 15) &&& (63 : UInt8)).toNat) : Nat) : Int))), (9, (.pointer (some ⟨g2, 0, none⟩))), (5, (.pointer (some ⟨g1, 0, none⟩)))]) (fun j w => HH w0 [] [[bl g1 62 ((cArr 16).enc (fun _ => 0))], [bl gc 109 (cCi.enc (boxF, bk boxF 256, (upF (16 * (l.length / 4 + 7)) (aeW l) fun _ => 0), (l.length / 4 + 6)))], [bl g2 88 (cOb.enc ((some ⟨gc, 0, none⟩), (aeE l (fun _ => 0)), ((some ⟨g3, 0, none⟩), 1, 1)))], [bl g3 62 ((cArr 16).enc (dbB (aeE l (fun _ => 0))))], [bl g4 62 ((cArr 16).enc (ncT N))], [bl g12 62 ((cArr 16).enc K)], Es, [bl g28 62 ((cArr 16).enc (bitsB (ctB (srB K) ((ncB N 15 &&& 63).toNat)) j))]] w ∧ (j ≤ 128)) (fun j => 128 - j) 0 ⟨hH, (Nat.zero_le _)⟩ ?_
  clear hH
  rintro j w ⟨hH, hj⟩
  refine zr ?_
  refine zv (.lt (j < 128)) 0 ?_
  refine zn ?_
  refine cxSeq ?_
  refine zP (fun hc30 => ?_) (fun hc30 => ?_)
  refine cxSkip ?_
  refine qxThen ?_
  refine cxSeq ?_
  refine cxBlock ?_
  refine zr ?_
  refine zv .mv 1 ?_
  refine zv .mv 1 ?_
  refine zn ?_
  refine zr ?_
  refine zv .mv 0 ?_
  refine zv .mv 0 ?_
  refine zv (.add ((((((ncB N) 15) &&& (63 : UInt8)).toNat) + j : Nat) : Int)) 3 ?_
  refine zv .mv 1 ?_
  refine zn ?_
  refine zr ?_
  refine zv .mv 0 ?_
  refine zv .mv 0 ?_
  refine zv (v := (.int .i64 ((((((((ncB N) 15) &&& (63 : UInt8)).toNat) + j) / 8) : Nat) : Int))) (fun _ _ hF => opQuo (z := (((((((ncB N) 15) &&& (63 : UInt8)).toNat) + j) / 8 : Nat) : Int)) rfl (hF.ev 0 rfl) rfl (by omega) (wI quoN (by omega) (by omega))) 1 ?_
  have hi31 : (((((ncB N) 15) &&& (63 : UInt8)).toNat) + j) / 8 < (lst (16 + 8) (srB K)).length := by omega
  obtain ⟨g32, cap33, cur34, hv36, rfl, hB35⟩ := hOs.open (by omega)
  obtain ⟨rfl, rfl⟩ : As = some ⟨g32, 0, none⟩ ∧ cs = cap33 := by injection hv36 with h1 h2 h3; exact ⟨h1, h3⟩
  have := hB35.le
  have hj39 : (((((ncB N) 15) &&& (63 : UInt8)).toNat) + j) / 8 < (lst (16 + 8) (srB K)).length := by first | exact hi31 | (simp only [List.length_drop]; omega) | (simp only [List.length_drop, List.length_take]; omega) | omega
  obtain ⟨x37, hx38⟩ := get_at (lst (16 + 8) (srB K)) ((((((ncB N) 15) &&& (63 : UInt8)).toNat) + j) / 8) hj39
  have hb40 := UInt8.toNat_lt x37
  refine zv (.ix 1 ((((((ncB N) 15) &&& (63 : UInt8)).toNat) + j) / 8) (hi := hi31)) 3 ?_
  refine zs (hH.q 6 rfl) (.ld cByte x37 (fun _ hS => ((hB35.holdsL hS) ((((((ncB N) 15) &&& (63 : UInt8)).toNat) + j) / 8) _ hx38))) 1 ?_
  refine zv .mv 2 ?_
  refine zv (v := (.int .i64 ((((((((ncB N) 15) &&& (63 : UInt8)).toNat) + j) % 8) : Nat) : Int))) (fun _ _ hF => opRem (z := (((((((ncB N) 15) &&& (63 : UInt8)).toNat) + j) % 8 : Nat) : Int)) rfl (hF.ev 0 rfl) rfl (by omega) remN) 1 ?_
  refine zv (.sub (((7 - (((ncB N 15 &&& 63).toNat) + j) % 8) : Nat) : Int)) 1 ?_
  refine zv (.rb (7 - (((ncB N 15 &&& 63).toNat) + j) % 8) (u := x37)) 3 ?_
  refine zv (.ab ((sr8 x37 (7 - (((ncB N 15 &&& 63).toNat) + j) % 8)) &&& (1 : UInt8)) (u := (sr8 x37 (7 - (((ncB N 15 &&& 63).toNat) + j) % 8))) (v := (1 : UInt8))) 1 ?_
  refine zv .mv 1 ?_
  refine zn ?_
  refine cxRegX mixedOrders (by kernel_rfl) ?_
  replace hH := hH.drew
  refine rv 0 .mv 0 ?_
  refine rv 1 (v := (.int .i64 (((j / 8) : Nat) : Int))) (fun _ _ hF => opQuo (z := ((j / 8 : Nat) : Int)) rfl (hF.ev 0 rfl) rfl (by omega) (wI quoN (by omega) (by omega))) 1 ?_
  refine rv 2 .mv 0 ?_
  refine rv 3 (v := (.int .i64 (((j / 8) : Nat) : Int))) (fun _ _ hF => opQuo (z := ((j / 8 : Nat) : Int)) rfl (hF.ev 0 rfl) rfl (by omega) (wI quoN (by omega) (by omega))) 1 ?_
  have hi41 : j / 8 < 16 := by omega
  refine rv 4 (.ia 1 16 (j / 8) (hi := hi41)) 1 ?_
  refine rld 5 (hH.q 7 rfl) (.ld cByte ((bitsB (ctB (srB K) ((ncB N 15 &&& 63).toNat)) j) (j / 8)) (fun _ hS => ((holds_blk0 hS).elt hi41))) 1 ?_
  refine rv 6 .mv 4 ?_
  refine rv 7 .mv 8 ?_
  refine rv 8 (v := (.int .i64 (((j % 8) : Nat) : Int))) (fun _ _ hF => opRem (z := ((j % 8 : Nat) : Int)) rfl (hF.ev 0 rfl) rfl (by omega) remN) 1 ?_
  refine rv 9 (.sub (((7 - j % 8) : Nat) : Int)) 1 ?_
  refine rv 10 (.lb (7 - j % 8) (u := ((sr8 x37 (7 - (((ncB N 15 &&& 63).toNat) + j) % 8)) &&& (1 : UInt8)))) 3 ?_
  refine rv 11 (.ob (((bitsB (ctB (srB K) ((ncB N 15 &&& 63).toNat)) j) (j / 8)) ||| (sl8 ((sr8 x37 (7 - (((ncB N 15 &&& 63).toNat) + j) % 8)) &&& (1 : UInt8)) (7 - j % 8))) (u := ((bitsB (ctB (srB K) ((ncB N 15 &&& 63).toNat)) j) (j / 8))) (v := (sl8 ((sr8 x37 (7 - (((ncB N 15 &&& 63).toNat) + j) % 8)) &&& (1 : UInt8)) (7 - j % 8)))) 3 ?_
  have hi42 : j / 8 < 16 := by omega
  refine rv 12 (.ia 1 16 (j / 8) (hi := hi42)) 2 ?_
  refine rx1k 13 ?_
  refine re0 13 7 hH rfl (.st cByte (((bitsB (ctB (srB K) ((ncB N 15 &&& 63).toNat)) j) (j / 8)) ||| (sl8 ((sr8 x37 (7 - (((ncB N 15 &&& 63).toNat) + j) % 8)) &&& (1 : UInt8)) (7 - j % 8))) (room_1 (S := sBy) (C := (cArr 16)) rfl hi42) (arr_set0 (bitsB (ctB (srB K) ((ncB N 15 &&& 63).toNat)) j) (((bitsB (ctB (srB K) ((ncB N 15 &&& 63).toNat)) j) (j / 8)) ||| (sl8 ((sr8 x37 (7 - (((ncB N 15 &&& 63).toNat) + j) % 8)) &&& (1 : UInt8)) (7 - j % 8))) hi42)) trivial (pgo [] (.nil _ [])) ?_
  clear hH
  rintro _ _ w rfl hH
  refine ⟨pnil, ?_⟩
  refine rxEnd (by kernel_rfl) ?_
  refine qxInN ?_
  refine qxThen ?_
  refine cxReg ?_
  refine zv (.add ((j + 1 : Nat) : Int)) 7 ?_
  refine zv .mv 1 ?_
  refine pxEnd ?_
  have hxv : x37 = srB K ((((ncB N 15 &&& 63).toNat) + j) / 8) := Option.some.inj (hx38.symm.trans (lst_get (by omega)))
  have he43 : (cArr 16).enc (bitsB (ctB (srB K) ((ncB N 15 &&& 63).toNat)) (j + 1)) = (cArr 16).enc (stF (bitsB (ctB (srB K) ((ncB N 15 &&& 63).toNat)) j) (j / 8) (((bitsB (ctB (srB K) ((ncB N 15 &&& 63).toNat)) j) (j / 8)) ||| (sl8 ((sr8 x37 (7 - (((ncB N 15 &&& 63).toNat) + j) % 8)) &&& (1 : UInt8)) (7 - j % 8)))) := arr_congr (fun u _ => by rw [hxv]; exact congrFun (bits_next (srB K) ((ncB N 15 &&& 63).toNat) j) u)
  replace hH : HH w0 [] [[bl g1 62 ((cArr 16).enc (fun _ => 0))], [bl gc 109 (cCi.enc (boxF, bk boxF 256, (upF (16 * (l.length / 4 + 7)) (aeW l) fun _ => 0), (l.length / 4 + 6)))], [bl g2 88 (cOb.enc ((some ⟨gc, 0, none⟩), (aeE l (fun _ => 0)), ((some ⟨g3, 0, none⟩), 1, 1)))], [bl g3 62 ((cArr 16).enc (dbB (aeE l (fun _ => 0))))], [bl g4 62 ((cArr 16).enc (ncT N))], [bl g12 62 ((cArr 16).enc K)], [bl g32 5 cur34], [bl g28 62 ((cArr 16).enc (bitsB (ctB (srB K) ((ncB N 15 &&& 63).toNat)) (j + 1)))]] w := by rw [he43]; exact hH
  exact zR1 (j + 1) ⟨hH, (by omega)⟩ (by omega)
  refine cxExit ?_
  refine qxThenE ?_
  refine qxThenE ?_
  refine qxInE ?_
  refine qxThen ?_
  obtain rfl : j = 128 := by omega
  have he44 : (cArr 16).enc (ctB (srB K) ((ncB N 15 &&& 63).toNat)) = (cArr 16).enc (bitsB (ctB (srB K) ((ncB N 15 &&& 63).toNat)) 128) := arr_congr (fun u hu => (bits_all _ u hu).symm)
  replace hH : HH w0 [] [[bl g1 62 ((cArr 16).enc (fun _ => 0))], [bl gc 109 (cCi.enc (boxF, bk boxF 256, (upF (16 * (l.length / 4 + 7)) (aeW l) fun _ => 0), (l.length / 4 + 6)))], [bl g2 88 (cOb.enc ((some ⟨gc, 0, none⟩), (aeE l (fun _ => 0)), ((some ⟨g3, 0, none⟩), 1, 1)))], [bl g3 62 ((cArr 16).enc (dbB (aeE l (fun _ => 0))))], [bl g4 62 ((cArr 16).enc (ncT N))], [bl g12 62 ((cArr 16).enc K)], Es, [bl g28 62 ((cArr 16).enc (ctB (srB K) ((ncB N 15 &&& 63).toNat)))]] w := by rw [he44]; exact hH
  refine zx ?_
  replace hH := hH.drew
  refine rv 0 .mv 59 ?_
  refine rld 1 (hH.q 7 rfl) (.ld (cArr 16) (ctB (srB K) ((ncB N 15 &&& 63).toNat)) (fun _ hS => (holds_blk0 hS))) 2 ?_
  refine rv 2 .mv 2 ?_
  refine rx1k 3 ?_
  refine re0 3 0 hH rfl (.sw (cArr 16) (fun _ => 0) (ctB (srB K) ((ncB N 15 &&& 63).toNat))) trivial (pgo [] (.nil _ [])) ?_
  clear hH
  rintro _ _ w rfl hH
  refine ⟨pnil, ?_⟩
  refine rv 4 .mv 2 ?_
  refine rn ?_
  refine cxRet ?_
  refine qxRetTCT 2 1 0 (hH.blk 0 rfl) rfl rfl rfl rfl (by kernel_rfl) (Cod.size _ _) (by kernel_rfl) ?_
  replace hH : HH w0 [] [[bl gc 109 (cCi.enc (boxF, bk boxF 256, (upF (16 * (l.length / 4 + 7)) (aeW l) fun _ => 0), (l.length / 4 + 6)))], [bl g2 88 (cOb.enc ((some ⟨gc, 0, none⟩), (ocSt l), ((some ⟨g3, 0, none⟩), 1, 1)))], [bl g3 62 ((cArr 16).enc (ocDl l))]] w := hH.only [false, true, true, true, false, false, false, false]
  subst hK
  exact ⟨_, _, rfl, ⟨g2, gc, _, rfl, rfl, 1, _, 1, _, Nat.le_refl _, by decide, rfl, (Bk.lit1 (C := cArr 16) (ocDl l)).own 62 g3 rfl⟩, by simpa [HH] using hH⟩
end Go.Proofs.YtfloiekaiiapnaaGreatDoor

namespace Go.Proofs.YtfloiekaiiapnaaGreatDoor
open Go Go.RowKit
set_option maxRecDepth 100000

theorem rthraeE_n (g gc : Nat) (l : List UInt8) (hk : l.length = 16 ∨ l.length = 32) (st dl : Nat → UInt8) (E : Hl) (hO : ObAt g gc st dl E) (hgc : gc ∉ bks E) (o : Nat → UInt8) (Aa : Option Addr) (n ya : Nat) (b : List UInt8) (hb : n ≤ 140737488355328) : Does Tryz.prog 36 #[(.pointer (some ⟨g, 0, none⟩)), ((cArr 16).val o), (.slice Aa n ya), (.bool false)] E (fun w => w.heap[gc]? = some (.cells (cCi.enc (boxF, bk boxF 256, (upF (16 * (l.length / 4 + 7)) (aeW l) fun _ => 0), (l.length / 4 + 6))) 109 (0, 0)) ∧ Vu cByte w Aa n ya b ∧ Off Aa n (bks E)) (fun v E' => ∃ s E1 E2, v = .tuple #[s, (cArr 16).val (aeE l (added (added (smL b) (ofE st dl o b.length)) dl))] ∧ E' = E1 ++ E2 ∧ ObAt g gc st dl E1 ∧ OwnT cByte 5 s (thL (aeE l) (aeE l) st dl o b) E2) := fun w hE hR => by
  obtain rfl := hR.2.1.len
  exact rthraeE_r g gc l hk st dl E hO hgc o Aa ya b hb w hE hR

theorem rthraeD_n (g gc : Nat) (l : List UInt8) (hk : l.length = 16 ∨ l.length = 32) (st dl : Nat → UInt8) (E : Hl) (hO : ObAt g gc st dl E) (hgc : gc ∉ bks E) (o : Nat → UInt8) (Aa : Option Addr) (n ya : Nat) (b : List UInt8) (hb : n ≤ 140737488355328) : Does Tryz.prog 36 #[(.pointer (some ⟨g, 0, none⟩)), ((cArr 16).val o), (.slice Aa n ya), (.bool true)] E (fun w => w.heap[gc]? = some (.cells (cCi.enc (boxF, bk boxF 256, (upF (16 * (l.length / 4 + 7)) (aeW l) fun _ => 0), (l.length / 4 + 6))) 109 (0, 0)) ∧ Vu cByte w Aa n ya b ∧ Off Aa n (bks E)) (fun v E' => ∃ s E1 E2, v = .tuple #[s, (cArr 16).val (aeE l (added (added (smL (thL (aeD l) (aeE l) st dl o b)) (ofE st dl o b.length)) dl))] ∧ E' = E1 ++ E2 ∧ ObAt g gc st dl E1 ∧ OwnT cByte 5 s (thL (aeD l) (aeE l) st dl o b) E2) := fun w hE hR => by
  obtain rfl := hR.2.1.len
  exact rthraeD_r g gc l hk st dl E hO hgc o Aa ya b hb w hE hR

set_option maxHeartbeats 8000000 in
theorem rseal_o (A : Option Addr) (z : Nat) (l : List UInt8) (hk : l.length = 16 ∨ l.length = 32) (B : Option Addr) (y : Nat) (N : List UInt8) (h1 : 1 ≤ N.length) (h15 : N.length ≤ 15) (Aa : Option Addr) (ya : Nat) (a : List UInt8) (ha : a.length ≤ 140737488355328) (Ap : Option Addr) (yp : Nat) (p : List UInt8) (hp : p.length ≤ 140737488350000) : Does Tryz.prog 19 #[(.slice A l.length z), (.slice B N.length y), (.slice Aa a.length ya), (.slice Ap p.length yp)] [] (fun w => Vu cByte w A l.length z l ∧ Vu cByte w B N.length y N ∧ Vu cByte w Aa a.length ya a ∧ Vu cByte w Ap p.length yp p) (fun v E' => ∃ s, v = .tuple #[s, .int .i64 0] ∧ OwnT cByte 5 s (ocS l N a p) E') := by
  refine does_of (fn := Tryz.f19) Tryz.func19 rfl Tryz.ntmps19 (Nat.le_of_ble_eq_true rfl) rfl ?_
  intro w0 hH hR
  replace hH : HH w0 [] [] w0 := hH.only [false]
  refine zr ?_
  refine zv .mv 0 ?_
  refine zv .mv 1 ?_
  refine zn ?_
  refine zr ?_
  refine zv .mv 3 ?_
  refine zv .mv 2 ?_
  refine zm hH (.call Tryz.func35 (begun_r A z l hk B y N h1 h15)) (⟨(hH.vu hR.1 (by decide) (Off.nil _ _)), (hH.vu hR.2.1 (by decide) (Off.nil _ _))⟩) 3 ?_
  clear hH
  rintro _ _ w ⟨go, gc, Eb, rfl, rfl, hOb0⟩ hH
  refine zv .mv 1 ?_
  refine zv .ext 0 ?_
  refine zv .ext 0 ?_
  refine zv .ext 4 ?_
  refine zm hH (.al (cArr 16) (fun _ => 0)) trivial 0 ?_
  clear hH
  rintro _ _ w ⟨g1, rfl, rfl⟩ hH
  refine zv .mv 8 ?_
  refine ze0 1 hH rfl (.sw (cArr 16) (fun _ => 0) (of0 (aeE l) N)) trivial ?_
  clear hH
  rintro _ _ w rfl hH
  refine zv .mv 12 ?_
  refine zn ?_
  refine cxSeq ?_
  replace hH : HH w0 [] [[bl gc 109 (cCi.enc (boxF, bk boxF 256, (upF (16 * (l.length / 4 + 7)) (aeW l) fun _ => 0), (l.length / 4 + 6)))], Eb, [bl g1 62 ((cArr 16).enc (of0 (aeE l) N))]] w := hH.cast (by simp)
  refine zr ?_
  refine zv .mv 1 ?_
  refine zv (v := (.bool false)) (fun _ _ hF => opNot rfl (hF.ev 0 rfl) rfl) 1 ?_
  refine zn ?_
  refine zF ?_
  refine cxSkip ?_
  refine qxThen ?_
  refine zr ?_
  refine zv .mv 1 ?_
  refine zs (hH.q 2 rfl) (.ld (cArr 16) (of0 (aeE l) N) (fun _ hS => (holds_blk0 hS))) 4 ?_
  refine zv .mv 16 ?_
  refine ze 1 hH rfl (.call Tryz.func36 (rthraeE_n go gc l hk (ocSt l) (ocDl l) Eb hOb0 (hH.notin 1 0 rfl rfl rfl) (of0 (aeE l) N) Ap p.length yp p (by omega))) (⟨(hH.blk 0 rfl), (hH.vu hR.2.2.2 (by decide) (Off.nil _ _)), (hH.off 1 rfl hR.2.2.2 (by decide) (Off.nil _ _))⟩) 7 ?_
  clear hH
  rintro _ _ w ⟨s6, E2, E3, rfl, rfl, hOb4, hOt5⟩ hH
  obtain ⟨A7, c8, rfl⟩ := hOt5.slice
  refine zv .mv 1 ?_
  refine zv .ext 0 ?_
  refine zv .ext 2 ?_
  refine zm hH (.al (cArr 16) (fun _ => 0)) trivial 0 ?_
  clear hH
  rintro _ _ w ⟨g9, rfl, rfl⟩ hH
  refine zv .mv 4 ?_
  refine ze0 3 hH rfl (.sw (cArr 16) (fun _ => 0) (aeE l (added (added (smL p) (ofE (ocSt l) (ocDl l) (of0 (aeE l) N) p.length)) (ocDl l)))) trivial ?_
  clear hH
  rintro _ _ w rfl hH
  refine zn ?_
  replace hH : HH w0 [] [[bl gc 109 (cCi.enc (boxF, bk boxF 256, (upF (16 * (l.length / 4 + 7)) (aeW l) fun _ => 0), (l.length / 4 + 6)))], E2, E3, [bl g1 62 ((cArr 16).enc (of0 (aeE l) N))], [bl g9 62 ((cArr 16).enc (aeE l (added (added (smL p) (ofE (ocSt l) (ocDl l) (of0 (aeE l) N) p.length)) (ocDl l))))]] w := hH.cast (by simp)
  refine zx ?_
  replace hH := hH.drew
  refine rld 0 (hH.q 4 rfl) (.ld (cArr 16) (aeE l (added (added (smL p) (ofE (ocSt l) (ocDl l) (of0 (aeE l) N) p.length)) (ocDl l))) (fun _ hS => (holds_blk0 hS))) 4 ?_
  refine rv 1 .mv 8 ?_
  refine rv 2 .mv 16 ?_
  refine rx1k 3 ?_
  refine re 3 1 hH rfl (.call Tryz.func38 (rhash_r go gc l hk (ocSt l) (ocDl l) E2 hOb4 (hH.notin 1 0 rfl rfl rfl) Aa ya a ha)) (⟨(hH.blk 0 rfl), (hH.vu hR.2.2.1 (by decide) (Off.nil _ _)), (hH.off 1 rfl hR.2.2.1 (by decide) (Off.nil _ _))⟩) 3 (.keep (.nil _ [])) ?_
  clear hH
  rintro _ E10 w ⟨rfl, hOb11⟩ hH
  refine ⟨pcons (hH.blk 4 rfl) pnil, ?_⟩
  refine rx1k 4 (rpc 4 Tryz.func37 (rxor_c (aeE l (added (added (smL p) (ofE (ocSt l) (ocDl l) (of0 (aeE l) N) p.length)) (ocDl l))) (hsL (aeE l) (ocSt l) (ocDl l) a)) trivial hH 3 (pgo [] (.nil _ [])) ?_)
  clear hH
  intro w hH
  refine ⟨pnil, ?_⟩
  refine rx1k 5 ?_
  refine re0 5 4 hH rfl (.sw (cArr 16) (aeE l (added (added (smL p) (ofE (ocSt l) (ocDl l) (of0 (aeE l) N) p.length)) (ocDl l))) (added (aeE l (added (added (smL p) (ofE (ocSt l) (ocDl l) (of0 (aeE l) N) p.length)) (ocDl l))) (hsL (aeE l) (ocSt l) (ocDl l) a))) trivial (.nil _ []) ?_
  clear hH
  rintro _ _ w rfl hH
  refine ⟨pnil, ?_⟩
  refine rn ?_
  have hll := thL_len (C := aeE l) (E := aeE l) (st := ocSt l) (dl := ocDl l) (o := of0 (aeE l) N) (T := p)
  refine zr ?_
  refine zv .mv 3 ?_
  refine zv (v := (.slice (some ⟨g9, 0, none⟩) 16 16)) (fun _ _ hF => opSliceA (n := 16) (e := 5) (sz := 1) rfl (by kernel_rfl) (by kernel_rfl) (hF.ev 1 rfl)) 2 ?_
  refine ze 2 hH rfl (fun _ hF => smAppT (C := cByte) (l := (thL (aeE l) (aeE l) (ocSt l) (ocDl l) (of0 (aeE l) N) p)) (m := (lst 16 (added (aeE l (added (added (smL p) (ofE (ocSt l) (ocDl l) (of0 (aeE l) N) p.length)) (ocDl l))) (hsL (aeE l) (ocSt l) (ocDl l) a)))) (e := 5) (z := (.int .u8 0)) (by_ := 1) rfl (by kernel_rfl) (by kernel_rfl) rfl (ltb rfl) (hF.ev 1 rfl) hOt5 (hF.ev 0 rfl) rfl (fun h => by cases h) (by unfold maxLen; omega) (by omega)) (vu_arr (hH.blk 4 rfl)) 3 ?_
  clear hH
  rintro v14 E15 w ⟨hO16, _⟩ hH
  replace hO16 : OwnT cByte 5 v14 ((thL (aeE l) (aeE l) (ocSt l) (ocDl l) (of0 (aeE l) N) p) ++ (lst 16 (added (aeE l (added (added (smL p) (ofE (ocSt l) (ocDl l) (of0 (aeE l) N) p.length)) (ocDl l))) (hsL (aeE l) (ocSt l) (ocDl l) a)))) E15 := hO16
  obtain ⟨A12, c13, rfl⟩ := hO16.slice
  refine zv .mv 1 ?_
  refine zv .mv 0 ?_
  refine zn ?_
  refine cxRet ?_
  refine qxRet2 1 0 rfl rfl rfl ?_
  have e : ((thL (aeE l) (aeE l) (ocSt l) (ocDl l) (of0 (aeE l) N) p) ++ (lst 16 (added (aeE l (added (added (smL p) (ofE (ocSt l) (ocDl l) (of0 (aeE l) N) p.length)) (ocDl l))) (hsL (aeE l) (ocSt l) (ocDl l) a)))) = ocS l N a p := by rw [added_assoc]; rfl
  rw [e] at hO16 ⊢
  exact ⟨_, _, rfl, ⟨_, rfl, hO16⟩, hH.out1 [false, false, true, false, false] rfl⟩
end Go.Proofs.YtfloiekaiiapnaaGreatDoor

namespace Go.Proofs.YtfloiekaiiapnaaGreatDoor
open Go Go.RowKit
set_option maxRecDepth 100000

theorem rseal_n (A : Option Addr) (k z : Nat) (l : List UInt8) (hk : l.length = 32) (B : Option Addr) (n y : Nat) (N : List UInt8) (hN : N.length = 15) (Aa : Option Addr) (m ya : Nat) (a : List UInt8) (ha : a.length ≤ 100000000) (Ap : Option Addr) (q yp : Nat) (p : List UInt8) (hp : p.length ≤ 100000000) : Does Tryz.prog 19 #[(.slice A k z), (.slice B n y), (.slice Aa m ya), (.slice Ap q yp)] [] (fun w => Vu cByte w A k z l ∧ Vu cByte w B n y N ∧ Vu cByte w Aa m ya a ∧ Vu cByte w Ap q yp p) (fun v E' => ∃ s, v = .tuple #[s, .int .i64 0] ∧ OwnT cByte 5 s (ocS l N a p) E') := fun w hE hR => by
  obtain rfl := hR.1.len
  obtain rfl := hR.2.1.len
  obtain rfl := hR.2.2.1.len
  obtain rfl := hR.2.2.2.len
  exact rseal_o A z l (.inr hk) B y N (by omega) (by omega) Aa ya a (by omega) Ap yp p (by omega) w hE hR
theorem spK_cut {z a i : Nat} {p : List UInt8} (ha : a = z * i) : (p.take (min (a + z) p.length)).drop a = spK z p i := by
  subst ha
  unfold spK
  rw [List.drop_take]
  by_cases h : z * i + z ≤ p.length
  · rw [Nat.min_eq_left h, Nat.add_sub_cancel_left]
  · rw [Nat.min_eq_right (by omega), List.take_of_length_le (by rw [List.length_drop]; omega), List.take_of_length_le (by rw [List.length_drop]; omega)]
theorem spC_le {z n : Nat} (hz : 0 < z) : spC z n ≤ n := by
  refine Nat.le_of_not_lt fun h => ?_
  have h1 := (spC_lt hz).1 h
  have h2 := Nat.le_mul_of_pos_left n hz
  omega
theorem z_le {c : Nat} (hc : c ≤ 10) : 64 ≤ 64 * 2 ^ c ∧ 64 * 2 ^ c ≤ 65536 := by
  have h1 : 2 ^ c ≤ 2 ^ 10 := Nat.pow_le_pow_right (by decide) hc
  have h2 : 1 ≤ 2 ^ c := Nat.one_le_two_pow
  omega

set_option maxHeartbeats 8000000 in
theorem rsealb_c (s t : Nat → UInt8) (c : Nat) (hc : c ≤ 10) (A : Option Addr) (y : Nat) (p : List UInt8) (hp : p.length ≤ 10000) : Does Tryz.prog 8 #[((cArr 32).val s), ((cArr 32).val t), (.int .i64 (((c) : Nat) : Int)), (.slice A p.length y)] [] (fun w => Vu cByte w A p.length y p) (fun v E' => ∃ b, v = .tuple #[b, .int .i64 0] ∧ OwnT cByte 5 b (spBody (lst 32 s) (lst 32 t) c p) E') := by
  refine does_of (fn := Tryz.f8) Tryz.func8 rfl Tryz.ntmps8 (Nat.le_of_ble_eq_true rfl) rfl ?_
  intro w0 hH hR
  replace hH : HH w0 [] [] w0 := hH.only [false]
  have hcp := hR.cap
  have hzz := z_le hc
  obtain ⟨z, hz⟩ : ∃ z, z = 64 * 2 ^ c := ⟨_, rfl⟩
  rw [← hz] at hzz
  obtain ⟨hz1, hz2⟩ := hzz
  obtain ⟨D, hD⟩ : ∃ D, D = spD (lst 32 s) (lst 32 t) c := ⟨_, rfl⟩
  obtain ⟨I, hI⟩ : ∃ I, I = spI c := ⟨_, rfl⟩
  have hDl : D.length = 39 := by rw [hD]; exact spD_len _ _ _
  have hIl : I.length = 5 := by rw [hI]; rfl
  have hcn := spC_le (z := z) (n := p.length) (by omega)
  refine zr ?_
  refine zm hH (.bx (cArr 32) s) trivial 1 ?_
  clear hH
  rintro _ _ w ⟨g1, rfl, rfl⟩ hH
  refine zm hH (.bx (cArr 32) t) trivial 2 ?_
  clear hH
  rintro _ _ w ⟨g2, rfl, rfl⟩ hH
  refine zv .mv 0 ?_
  refine zv .mv 1 ?_
  refine zn ?_
  refine cxSeq ?_
  refine cxBlock ?_
  refine zr ?_
  refine zv .mv 1 ?_
  refine zv (v := (.bool false)) (fun _ _ hF => opLss rfl (hF.ev 0 rfl) rfl (decide_eq_false (by omega))) 1 ?_
  refine zv .mv 1 ?_
  refine pxV (v := (.int .i64 (((c) : Nat) : Int))) (fun _ _ hF => opMove rfl (hF.ev 3 rfl)) rfl (gOn 0 rfl rfl rfl (by decide)) (kA rfl) (by decide) ?_
  refine pxV (v := (.bool false)) (fun _ _ hF => opGtr rfl (hF.ev 0 rfl) rfl (decide_eq_false (by omega))) rfl (gOn 1 rfl rfl rfl (by decide)) (kM [false, true, true, true, true, true] rfl rfl) (by decide) ?_
  refine zv (v := (.bool false)) (fun _ _ hF => opPickF rfl (hF.ev 1 rfl) (hF.ev 0 rfl)) 3 ?_
  refine zv .mv 1 ?_
  refine zn ?_
  refine zF ?_
  refine zr ?_
  refine zv .mv 1 ?_
  refine zv .len 1 ?_
  refine zv (v := (.bool false)) (fun _ _ hF => opGtr rfl (hF.ev 0 rfl) rfl (decide_eq_false (by omega))) 1 ?_
  refine zv .mv 1 ?_
  refine zn ?_
  refine zF ?_
  refine cxSkip ?_
  refine qxInN ?_
  refine qxThen ?_
  refine zx ?_
  replace hH := hH.drew
  refine rld 0 (hH.q 0 rfl) (.ld (cArr 32) s (fun _ hS => (holds_blk0 hS))) 5 ?_
  refine rv 1 (v := (.slice (some ⟨g2, 0, none⟩) 32 32)) (fun _ _ hF => opSliceA (n := 32) (e := 5) (sz := 1) rfl (by kernel_rfl) (by kernel_rfl) (hF.ev 1 rfl)) 0 ?_
  refine rv 2 .mv 0 ?_
  refine rx1k 3 ?_
  refine rm 3 hH (.call Tryz.func17 ((rkeyed_n s (some ⟨g2, 0, none⟩) 32 32 (lst 32 t) (lst_len _ _) c))) (vu_arr (hH.blk 1 rfl)) 7 (pgo [] (.nil _ [])) ?_
  clear hH
  rintro _ _ w ⟨B3, d4, si5, Ek6, Ei7, rfl, rfl, hk8, hi9⟩ hH
  rw [← hD] at hk8
  rw [← hI] at hi9
  obtain ⟨Ai10, ci11, rfl⟩ := hi9.slice
  have hdcap := hk8.capLe
  refine ⟨pnil, ?_⟩
  refine rv 4 .mv 1 ?_
  refine rv 5 .ext 0 ?_
  refine rv 6 .ext 0 ?_
  refine rv 7 .ext 4 ?_
  refine rv 8 .mv 4 ?_
  refine rv 9 .mv 4 ?_
  refine rv 10 .mv 4 ?_
  refine rn ?_
  replace hH : HH w0 [] [[bl g1 22 ((cArr 32).enc s)], [bl g2 22 ((cArr 32).enc t)], Ei7, Ek6] w := hH.cast (by simp)
  refine zr ?_
  refine zv .mv 0 ?_
  refine zv .cb 1 ?_
  refine zm hH (fun _ hF => smLits (C := cByte) (e := 5) (z := (.int .u8 0)) (by_ := 1) [2, 9, 2, (UInt8.ofNat c)] rfl (by kernel_rfl) (by kernel_rfl) (EvP.cons (v := cByte.val 2) rfl (EvP.cons (v := cByte.val 9) rfl (EvP.cons (v := cByte.val 2) rfl (EvP.cons (v := cByte.val (UInt8.ofNat c)) (hF.ev 0 rfl) EvP.nil)))) rfl (ltb rfl) (leb rfl) rfl) trivial 1 ?_
  clear hH
  rintro _ _ w ⟨g12, rfl, rfl⟩ hH
  refine zv (v := (.slice (some ⟨g2, 0, none⟩) 32 32)) (fun _ _ hF => opSliceA (n := 32) (e := 5) (sz := 1) rfl (by kernel_rfl) (by kernel_rfl) (hF.ev 4 rfl)) 16 ?_
  refine zm hH (fun _ hF => smLits (C := cSl) (e := 23) (z := (.slice none 0 0)) (by_ := 24) [((some ⟨g12, 0, none⟩), 4, 4), ((some ⟨g2, 0, none⟩), 32, 32)] rfl (by kernel_rfl) (by kernel_rfl) (EvP.cons (v := cSl.val ((some ⟨g12, 0, none⟩), 4, 4)) (hF.ev 1 rfl) (EvP.cons (v := cSl.val ((some ⟨g2, 0, none⟩), 32, 32)) (hF.ev 0 rfl) EvP.nil)) rfl (ltb rfl) (leb rfl) rfl) trivial 3 ?_
  clear hH
  rintro _ _ w ⟨g13, rfl, rfl⟩ hH
  refine zm hH (.call Tryz.func18 ((rjoin2 (some ⟨g13, 0, none⟩) 2 [((some ⟨g12, 0, none⟩), 4, 4), ((some ⟨g2, 0, none⟩), 32, 32)] ([2, 9, 2, (UInt8.ofNat c)]) (lst 32 t) (by simp only [List.length_cons, List.length_nil, lst_len]; omega)))) (⟨((Bk.lits (C := cSl) [((some ⟨g12, 0, none⟩), 4, 4), ((some ⟨g2, 0, none⟩), 32, 32)] (by show 2 ≤ _; unfold maxLen; decide)).vu (n := 2) (hH.blk 5 rfl) rfl), (.cons ((Bk.lits (C := cByte) [2, 9, 2, (UInt8.ofNat c)] (by show 4 ≤ _; unfold maxLen; decide)).vu (n := 4) (hH.blk 4 rfl) rfl) (.cons (vu_arr (hH.blk 1 rfl)) ViewsL.nil))⟩) 1 ?_
  clear hH
  rintro v18 E14 w hO15 hH
  obtain ⟨A16, c17, rfl⟩ := hO15.slice
  refine zv .mv 1 ?_
  refine zn ?_
  refine zr ?_
  refine zv .mv 16 ?_
  refine zv (v := (.int .i64 (((z) : Nat) : Int))) (fun _ _ hF => opShlI (m := 64) (n := c) (z := z) rfl rfl (hF.ev 0 rfl) (by omega) (by rw [hz]) (by omega)) 1 ?_
  refine zv .mv 1 ?_
  refine zn ?_
  refine zr ?_
  refine zv .mv 0 ?_
  refine zn ?_
  refine cxSeq ?_
  refine zr ?_
  refine zv .mv 0 ?_
  refine zn ?_
  refine cxBlock ?_
  refine zL6 (fun (i : Nat) (a : Nat) (A1 : Option Addr) (c1 : Nat) (L : List UInt8) (_ : Hl) => [(16, (.int .i64 (((a) : Nat) : Int))), (15, (.int .i64 (((i) : Nat) : Int))), (14, (.int .i64 (((z) : Nat) : Int))), (13, (.slice A1 L.length c1)), (12, (.slice Ai10 I.length ci11)), (11, (.slice (cutA B3 d4 32 1) 7 (d4 - 32))), (10, (.slice B3 32 d4)), (3, (.slice A p.length y))]) (fun i a A1 c1 L E1 w => HH w0 [] [[bl g1 22 ((cArr 32).enc s)], [bl g2 22 ((cArr 32).enc t)], Ei7, Ek6, [bl g12 5 (flat cByte [2, 9, 2, (UInt8.ofNat c)]).toArray], [bl g13 23 (flat cSl [((some ⟨g12, 0, none⟩), 4, 4), ((some ⟨g2, 0, none⟩), 32, 32)]).toArray], E1] w ∧ (OwnT cByte 5 (.slice A1 L.length c1) L E1) ∧ (L = ([2, 9, 2, (UInt8.ofNat c)] ++ lst 32 t) ++ spW (D.take 32) (D.drop 32) I z p i) ∧ (a = z * i) ∧ (i ≤ spC z p.length) ∧ (L.length ≤ 36 + 65552 * i)) (fun i _ _ _ _ _ => spC z p.length - i) 0 0 A16 c17 ([2, 9, 2, (UInt8.ofNat c)] ++ (lst 32 t)) E14 ⟨hH, hO15, rfl, (Nat.mul_zero z).symm, (Nat.zero_le _), (by simp only [List.length_append, List.length_cons, List.length_nil, lst_len]; omega)⟩ ?_
  clear hH
  rintro i a A1 c1 L E1 w ⟨hH, hO, hL, ha, hik, hlb⟩
  refine cxSeq ?_
  refine zr ?_
  refine zv .mv 0 ?_
  refine zv .mv 0 ?_
  refine zv .len 1 ?_
  refine zv (.lt (a < p.length)) 3 ?_
  refine zn ?_
  refine zP (fun hc20 => ?_) (fun hc20 => ?_)
  refine cxSkip ?_
  refine qxThen ?_
  refine cxSeq ?_
  refine cxBlock ?_
  refine zx ?_
  replace hH := hH.drew
  refine rv 0 .mv 1 ?_
  refine rv 1 .mv 0 ?_
  refine rv 2 .mv 0 ?_
  refine rv 4 .mv 0 ?_
  refine rv 5 .mv 0 ?_
  refine rv 6 .mv 0 ?_
  refine rv 7 .mv 0 ?_
  refine rv 8 .mv 0 ?_
  refine rv 9 (.add ((((a + z)) : Nat) : Int)) 3 ?_
  refine rv 10 .mv 0 ?_
  refine rv 11 .len 1 ?_
  refine rv 12 (v := (.int .i64 (((min (a + z) p.length) : Nat) : Int))) (fun _ _ hF => opMin rfl (hF.ev 1 rfl) (hF.ev 0 rfl) (by omega)) 3 ?_
  refine rv 13 (v := (.slice (cutA A y a 1) ((min (a + z) p.length) - a) (y - a))) (fun _ _ hF => opCutLH (k := a) (h := min (a + z) p.length) (e := 5) (sz := 1) rfl (by kernel_rfl) (by kernel_rfl) (hF.ev 2 rfl) (hF.ev 1 rfl) (hF.ev 0 rfl) rfl rfl (by omega) (by omega)) 7 ?_
  refine rx1k 3 ?_
  refine rm 3 hH (.call Tryz.func20 ((rnonce_c (cutA B3 d4 32 1) 7 (d4 - 32) (D.drop 32) (by rw [List.length_drop]; omega) i (by omega)))) ((hk8.vuAt (hH.has 3 rfl)).from (k := 32) (by omega)) 12 (.nil _ []) ?_
  clear hH
  rintro v25 E21 w hO22 hH
  obtain ⟨A23, c24, rfl⟩ := hO22.slice
  refine ⟨pnil, ?_⟩
  refine rx1k 14 ?_
  refine rm 14 hH (.call Tryz.func19 ((rseal_n B3 32 d4 (D.take 32) (by rw [List.length_take]; omega) A23 ((spN (D.drop 32) i).length) c24 (spN (D.drop 32) i) (spN_len (by rw [List.length_drop]; omega) _) Ai10 I.length ci11 I (by omega) (cutA A y a 1) ((min (a + z) p.length) - a) (y - a) ((p.take (min (a + z) p.length)).drop a) (by simp only [List.length_drop, List.length_take]; omega)))) (⟨((hk8.vuAt (hH.has 3 rfl)).head (m := 32) (by omega)), (hO22.vuAt (hH.has 7 rfl)), (hi9.vuAt (hH.has 2 rfl)), ((hH.vu hR (by decide) (Off.nil _ _)).cut (k := a) (m := min (a + z) p.length) (by omega) (by omega))⟩) 15 (.nil _ []) ?_
  clear hH
  rintro _ E28 w ⟨s27, rfl, hO29⟩ hH
  obtain ⟨A30, c31, rfl⟩ := hO29.slice
  refine ⟨pnil, ?_⟩
  refine rv 15 .mv 1 ?_
  refine rv 16 .ext 0 ?_
  refine rv 17 .ext 2 ?_
  refine rv 18 .mv 2 ?_
  refine rv 19 .mv 2 ?_
  refine rn ?_
  have hsl : (ocS (D.take 32) (spN (D.drop 32) i) I ((p.take (min (a + z) p.length)).drop a)).length = _ := ocS_len _ _ _ _
  have hcl : ((p.take (min (a + z) p.length)).drop a).length ≤ z := by rw [List.length_drop, List.length_take]; omega
  refine zr ?_
  refine zv .mv 33 ?_
  refine zv .mv 2 ?_
  refine ze 6 hH rfl (fun _ hF => smAppT (C := cByte) (l := L) (m := (ocS (D.take 32) (spN (D.drop 32) i) I ((p.take (min (a + z) p.length)).drop a))) (e := 5) (z := (.int .u8 0)) (by_ := 1) rfl (by kernel_rfl) (by kernel_rfl) rfl (ltb rfl) (hF.ev 1 rfl) hO (hF.ev 0 rfl) rfl hO29.nilA (by unfold maxLen; omega) (by omega)) (hO29.vuAt (hH.has 8 rfl)) 3 ?_
  clear hH
  rintro v34 E35 w ⟨hO36, _⟩ hH
  replace hO36 : OwnT cByte 5 v34 (L ++ (ocS (D.take 32) (spN (D.drop 32) i) I ((p.take (min (a + z) p.length)).drop a))) E35 := hO36
  obtain ⟨A32, c33, rfl⟩ := hO36.slice
  refine zv .mv 1 ?_
  refine zn ?_
  refine cxReg ?_
  refine zv .mv 4 ?_
  refine zv (.add ((i + 1 : Nat) : Int)) 1 ?_
  refine zv .mv 1 ?_
  refine pxEnd ?_
  refine qxInN ?_
  refine qxThen ?_
  refine cxReg ?_
  refine zv .mv 4 ?_
  refine zv .mv 0 ?_
  refine zv (.add ((a + z : Nat) : Int)) 3 ?_
  refine zv .mv 1 ?_
  refine pxEnd ?_
  replace hH : HH w0 [] [[bl g1 22 ((cArr 32).enc s)], [bl g2 22 ((cArr 32).enc t)], Ei7, Ek6, [bl g12 5 (flat cByte [2, 9, 2, (UInt8.ofNat c)]).toArray], [bl g13 23 (flat cSl [((some ⟨g12, 0, none⟩), 4, 4), ((some ⟨g2, 0, none⟩), 32, 32)]).toArray], E35] w := hH.only [true, true, true, true, true, true, true, false, false]
  exact zR6 (i + 1) (a + z) A32 c33 (L ++ (ocS (D.take 32) (spN (D.drop 32) i) I ((p.take (min (a + z) p.length)).drop a))) E35 ⟨hH, hO36, (by rw [hL, spK_cut ha, List.append_assoc]; rfl), (by rw [ha, Nat.mul_add, Nat.mul_one]), ((spC_lt (by omega)).2 (by omega)), (by rw [List.length_append, ocS_len, spK_cut ha, spK_len]; omega)⟩ (by have := (spC_lt (z := z) (n := p.length) (i := i) (by omega)).2 (by omega); omega)
  refine cxExit ?_
  refine qxThenE ?_
  refine qxThenE ?_
  refine qxInE ?_
  refine qxThen ?_
  refine zr ?_
  refine zv .mv 139 ?_
  refine zv .mv 16 ?_
  refine zv .mv 4 ?_
  refine zm hH (.call Tryz.func20 ((rnonce_c (cutA B3 d4 32 1) 7 (d4 - 32) (D.drop 32) (by rw [List.length_drop]; omega) i (by omega)))) ((hk8.vuAt (hH.has 3 rfl)).from (k := 32) (by omega)) 3 ?_
  clear hH
  rintro v41 E37 w hO38 hH
  obtain ⟨A39, c40, rfl⟩ := hO38.slice
  refine zv .mv 8 ?_
  refine zv .mv 16 ?_
  refine zv .len 1 ?_
  refine zv (.cu .u64) 1 ?_
  refine zm hH (.call Tryz.func21 ((bytes_r p.length 8 (by decide)))) trivial 1 ?_
  clear hH
  rintro v47 E43 w hO44 hH
  obtain ⟨A45, c46, rfl⟩ := hO44.slice
  refine zm hH (fun _ hF => smLits (C := cSl) (e := 23) (z := (.slice none 0 0)) (by_ := 24) [(Ai10, I.length, ci11), (A45, (beL 8 p.length).length, c46)] rfl (by kernel_rfl) (by kernel_rfl) (EvP.cons (v := cSl.val (Ai10, I.length, ci11)) (hF.ev 1 rfl) (EvP.cons (v := cSl.val (A45, (beL 8 p.length).length, c46)) (hF.ev 0 rfl) EvP.nil)) rfl (ltb rfl) (leb rfl) rfl) trivial 3 ?_
  clear hH
  rintro _ _ w ⟨g49, rfl, rfl⟩ hH
  refine zm hH (.call Tryz.func18 ((rjoin2 (some ⟨g49, 0, none⟩) 2 [(Ai10, I.length, ci11), (A45, (beL 8 p.length).length, c46)] I (beL 8 p.length) (by simp only [beL_len]; omega)))) (⟨((Bk.lits (C := cSl) [(Ai10, I.length, ci11), (A45, (beL 8 p.length).length, c46)] (by show 2 ≤ _; unfold maxLen; decide)).vu (n := 2) (hH.blk 9 rfl) rfl), (.cons (hi9.vuAt (hH.has 2 rfl)) (.cons (hO44.vuAt (hH.has 8 rfl)) ViewsL.nil))⟩) 1 ?_
  clear hH
  rintro v54 E50 w hO51 hH
  obtain ⟨A52, c53, rfl⟩ := hO51.slice
  refine zm hH (.call Tryz.func19 ((rseal_n B3 32 d4 (D.take 32) (by rw [List.length_take]; omega) A39 ((spN (D.drop 32) i).length) c40 (spN (D.drop 32) i) (spN_len (by rw [List.length_drop]; omega) _) A52 ((I ++ (beL 8 p.length)).length) c53 (I ++ (beL 8 p.length)) (by simp only [List.length_append, beL_len]; omega) none 0 0 ([]) (by simp only [List.length_nil]; omega)))) (⟨((hk8.vuAt (hH.has 3 rfl)).head (m := 32) (by omega)), (hO38.vuAt (hH.has 7 rfl)), (hO51.vuAt (hH.has 10 rfl)), (Vu.none cByte _)⟩) 7 ?_
  clear hH
  rintro _ E57 w ⟨s56, rfl, hO58⟩ hH
  obtain ⟨A59, c60, rfl⟩ := hO58.slice
  refine zv .mv 1 ?_
  refine zv .ext 0 ?_
  refine zv .ext 2 ?_
  refine zv .mv 2 ?_
  refine zv .mv 2 ?_
  refine zn ?_
  have hsl : (ocS (D.take 32) (spN (D.drop 32) i) (I ++ (beL 8 p.length)) ([])).length = 16 := ocS_len _ _ _ _
  refine zr ?_
  refine zv .mv 5 ?_
  refine zv .mv 2 ?_
  refine ze 6 hH rfl (fun _ hF => smAppT (C := cByte) (l := L) (m := (ocS (D.take 32) (spN (D.drop 32) i) (I ++ (beL 8 p.length)) ([]))) (e := 5) (z := (.int .u8 0)) (by_ := 1) rfl (by kernel_rfl) (by kernel_rfl) rfl (ltb rfl) (hF.ev 1 rfl) hO (hF.ev 0 rfl) rfl hO58.nilA (by unfold maxLen; omega) (by omega)) (hO58.vuAt (hH.has 11 rfl)) 3 ?_
  clear hH
  rintro v63 E64 w ⟨hO65, _⟩ hH
  replace hO65 : OwnT cByte 5 v63 (L ++ (ocS (D.take 32) (spN (D.drop 32) i) (I ++ (beL 8 p.length)) ([]))) E64 := hO65
  obtain ⟨A61, c62, rfl⟩ := hO65.slice
  refine zv .mv 1 ?_
  refine zv .mv 0 ?_
  refine zn ?_
  refine cxRet ?_
  refine qxRet2 1 0 rfl rfl rfl ?_
  have hie : i = spC z p.length := Nat.le_antisymm hik (Nat.le_of_not_lt fun h => by have := (spC_lt (z := z) (n := p.length) (by omega)).1 h; omega)
  have e : (L ++ (ocS (D.take 32) (spN (D.drop 32) i) (I ++ (beL 8 p.length)) ([]))) = spBody (lst 32 s) (lst 32 t) c p := by
    unfold spBody spS spE spKey spBeg
    rw [show 2 ^ (6 + c) = z from by rw [hz, Nat.pow_add], ← hD, ← hI, hL, hie]
    simp only [List.append_assoc]
  rw [e] at hO65 ⊢
  exact ⟨_, _, rfl, ⟨_, rfl, hO65⟩, hH.out1 [false, false, false, false, false, false, true, false, false, false, false, false] rfl⟩

set_option maxHeartbeats 8000000 in
theorem rsealb_l (s t : Nat → UInt8) (c : Nat) (hc : c ≤ 10) (A : Option Addr) (n y : Nat) (hn : 10000 < n) : Does Tryz.prog 8 #[((cArr 32).val s), ((cArr 32).val t), (.int .i64 (((c) : Nat) : Int)), (.slice A n y)] [] (fun _ => True) (fun v E' => v = .tuple #[.slice none 0 0, .int .i64 6] ∧ E' = []) := by
  refine does_of (fn := Tryz.f8) Tryz.func8 rfl Tryz.ntmps8 (Nat.le_of_ble_eq_true rfl) rfl ?_
  intro w0 hH hR
  replace hH : HH w0 [] [] w0 := hH.only [false]
  refine zr ?_
  refine zm hH (.bx (cArr 32) s) trivial 1 ?_
  clear hH
  rintro _ _ w ⟨g1, rfl, rfl⟩ hH
  refine zm hH (.bx (cArr 32) t) trivial 2 ?_
  clear hH
  rintro _ _ w ⟨g2, rfl, rfl⟩ hH
  refine zv .mv 0 ?_
  refine zv .mv 1 ?_
  refine zn ?_
  refine cxSeq ?_
  refine cxBlock ?_
  refine zr ?_
  refine zv .mv 1 ?_
  refine zv (v := (.bool false)) (fun _ _ hF => opLss rfl (hF.ev 0 rfl) rfl (decide_eq_false (by omega))) 1 ?_
  refine zv .mv 1 ?_
  refine pxV (v := (.int .i64 (((c) : Nat) : Int))) (fun _ _ hF => opMove rfl (hF.ev 3 rfl)) rfl (gOn 0 rfl rfl rfl (by decide)) (kA rfl) (by decide) ?_
  refine pxV (v := (.bool false)) (fun _ _ hF => opGtr rfl (hF.ev 0 rfl) rfl (decide_eq_false (by omega))) rfl (gOn 1 rfl rfl rfl (by decide)) (kM [false, true, true, true, true, true] rfl rfl) (by decide) ?_
  refine zv (v := (.bool false)) (fun _ _ hF => opPickF rfl (hF.ev 1 rfl) (hF.ev 0 rfl)) 3 ?_
  refine zv .mv 1 ?_
  refine zn ?_
  refine zF ?_
  refine zr ?_
  refine zv .mv 1 ?_
  refine zv .len 1 ?_
  refine zv (v := (.bool true)) (fun _ _ hF => opGtr rfl (hF.ev 0 rfl) rfl (decide_eq_true (by omega))) 1 ?_
  refine zv .mv 1 ?_
  refine zn ?_
  refine zT ?_
  refine zr ?_
  refine zv .mv 31 ?_
  refine zv .mv 0 ?_
  refine zn ?_
  refine cxRet ?_
  refine qxInR ?_
  refine qxThenR ?_
  refine qxRet2 1 0 rfl rfl rfl ?_
  exact ⟨_, _, rfl, ⟨rfl, rfl⟩, hH.out [false, false]⟩

set_option maxHeartbeats 8000000 in
theorem rsealb_e (s t : Nat → UInt8) (c : Int) (hc : c < 0 ∨ 10 < c) (A : Option Addr) (n y : Nat) : Does Tryz.prog 8 #[((cArr 32).val s), ((cArr 32).val t), (.int .i64 (c)), (.slice A n y)] [] (fun _ => True) (fun v E' => v = .tuple #[.slice none 0 0, .int .i64 1] ∧ E' = []) := by
  refine does_of (fn := Tryz.f8) Tryz.func8 rfl Tryz.ntmps8 (Nat.le_of_ble_eq_true rfl) rfl ?_
  intro w0 hH hR
  replace hH : HH w0 [] [] w0 := hH.only [false]
  refine zr ?_
  refine zm hH (.bx (cArr 32) s) trivial 1 ?_
  clear hH
  rintro _ _ w ⟨g1, rfl, rfl⟩ hH
  refine zm hH (.bx (cArr 32) t) trivial 2 ?_
  clear hH
  rintro _ _ w ⟨g2, rfl, rfl⟩ hH
  refine zv .mv 0 ?_
  refine zv .mv 1 ?_
  refine zn ?_
  refine cxSeq ?_
  refine cxBlock ?_
  refine zr ?_
  refine zv .mv 1 ?_
  refine zv (v := (.bool (decide ((c) < 0)))) (fun _ _ hF => opLss rfl (hF.ev 0 rfl) rfl rfl) 1 ?_
  refine zv .mv 1 ?_
  refine pxSplitP 0 rfl (l1 := [(24, (.bool true)), (5, (.pointer (some ⟨g2, 0, none⟩))), (4, (.pointer (some ⟨g1, 0, none⟩))), (2, (.int .i64 (c))), (3, (.slice A n y))]) (l2 := [(24, (.bool false)), (5, (.pointer (some ⟨g2, 0, none⟩))), (4, (.pointer (some ⟨g1, 0, none⟩))), (2, (.int .i64 (c))), (3, (.slice A n y))]) rfl rfl (fun hg3 => ?_) (fun hg3 => ?_)
  refine pxU rfl (gOff 0 rfl rfl rfl (by decide)) (kA rfl) (by decide) ?_
  refine pxU rfl (gOff 0 rfl rfl rfl (by decide)) (kA rfl) (by decide) ?_
  refine zv (v := (.bool true)) (fun _ _ hF => opPickT rfl (hF.ev 0 rfl) rfl) 1 ?_
  refine zv .mv 1 ?_
  refine zn ?_
  refine zT ?_
  refine zr ?_
  refine zv .mv 31 ?_
  refine zv .mv 0 ?_
  refine zn ?_
  refine cxRet ?_
  refine qxInR ?_
  refine qxThenR ?_
  refine qxRet2 1 0 rfl rfl rfl ?_
  exact ⟨_, _, rfl, ⟨rfl, rfl⟩, hH.out [false, false]⟩
  refine pxV (v := (.int .i64 (c))) (fun _ _ hF => opMove rfl (hF.ev 3 rfl)) rfl (gOn 0 rfl rfl rfl (by decide)) (kA rfl) (by decide) ?_
  refine pxV (v := (.bool (decide ((c) > 10)))) (fun _ _ hF => opGtr rfl (hF.ev 0 rfl) rfl rfl) rfl (gOn 1 rfl rfl rfl (by decide)) (kM [false, true, true, true, true, true] rfl rfl) (by decide) ?_
  refine zv (v := (.bool (decide ((c) > 10)))) (fun _ _ hF => opPickF rfl (hF.ev 1 rfl) (hF.ev 0 rfl)) 3 ?_
  refine zv .mv 1 ?_
  refine zn ?_
  refine zP (fun hc4 => ?_) (fun hc4 => ?_)
  refine zr ?_
  refine zv .mv 31 ?_
  refine zv .mv 0 ?_
  refine zn ?_
  refine cxRet ?_
  refine qxInR ?_
  refine qxThenR ?_
  refine qxRet2 1 0 rfl rfl rfl ?_
  exact ⟨_, _, rfl, ⟨rfl, rfl⟩, hH.out [false, false]⟩
  exfalso
  omega
end Go.Proofs.YtfloiekaiiapnaaGreatDoor

namespace Go.Proofs.YtfloiekaiiapnaaGreatDoor
open Go Go.RowKit
set_option maxRecDepth 100000

abbrev cHd : Cod (UInt8 × (Nat → UInt8)) := cPair cByte (cArr 32)
abbrev cRn : Cod ((Option Addr × Nat × Nat) × (Option Addr × Nat × Nat) × (Option Addr × Nat × Nat) × Nat × Nat) := cPair cSl (cPair cSl (cPair cSl (cPair (cNat .u64) (cNat .u64))))
theorem conc2 (A : Option Addr) (c : Nat) (hs : List (Option Addr × Nat × Nat)) (a b : List UInt8) (hb : a.length + b.length ≤ 70368744177664) : Does Tryz.prog 32 #[.slice A 2 c] [] (fun w => Vu cSl w A 2 c hs ∧ ViewsL w hs [a, b]) (fun v E' => OwnT cByte 5 v (a ++ b) E') := by
  have e : [a, b].flatten = a ++ b := by simp
  have h := concat_c A 2 c hs [a, b] rfl (by decide) (by rw [e, List.length_append]; exact hb)
  rw [e] at h
  exact h
theorem eight_step {n i : Nat} (hi : i < 8) : ((beL 8 n).take i ++ List.replicate (8 - i) 0).set i (UInt8.ofNat (n / 2 ^ (56 - 8 * i))) = (beL 8 n).take (i + 1) ++ List.replicate (8 - (i + 1)) 0 := by
  have hl : ((beL 8 n).take i).length = i := by rw [List.length_take, beL_len]; omega
  rw [List.set_append_right _ _ (by omega), hl, Nat.sub_self, show 8 - i = (8 - (i + 1)) + 1 by omega, List.replicate_succ, List.set_cons_zero, List.take_add_one, beL_get hi, show 8 * (8 - 1 - i) = 56 - 8 * i by omega, List.append_assoc]
  rfl

set_option maxHeartbeats 8000000 in
theorem eight_c (n : Nat) : Does Tryz.prog 33 #[(.int .u64 (((n) : Nat) : Int))] [] (fun _ => True) (fun v E' => OwnT cByte 5 v (beL 8 n) E') := by
  refine does_of (fn := Tryz.f33) Tryz.func33 rfl Tryz.ntmps33 (Nat.le_of_ble_eq_true rfl) rfl ?_
  intro w0 hH hR
  replace hH : HH w0 [] [] w0 := hH.only [false]
  refine zr ?_
  refine zv .mv 0 ?_
  refine zn ?_
  refine zr ?_
  refine zm hH (fun _ hF => smMake (e := 5) (n := 8) (sz := 1) (by_ := 1) (z := (.int .u8 0)) (cs := madeCells (cByte.enc 0) (8 * 1)) rfl (by kernel_rfl) (by kernel_rfl) rfl rfl rfl rfl (by omega) (by omega) rfl) trivial 1 ?_
  clear hH
  rintro _ _ w ⟨g1, rfl, rfl⟩ hH
  refine zv .mv 1 ?_
  refine zn ?_
  refine cxSeq ?_
  refine zr ?_
  refine zv .mv 0 ?_
  refine zv .len 1 ?_
  refine zv .mv 0 ?_
  refine zn ?_
  refine cxBlock ?_
  refine zL3 (fun (i : Nat) (_ : List UInt8) (_ : Array Value) => [(8, (.int .i64 (((i) : Nat) : Int))), (7, (.int .i64 8)), (3, (.slice (some ⟨g1, 0, none⟩) 8 8)), (0, (.int .u64 (((n) : Nat) : Int)))]) (fun i L cur' w => HH w0 [] [[bl g1 5 cur']] w ∧ (i ≤ 8) ∧ (Bk cByte 8 cur' L) ∧ (L.length = 8) ∧ (L = (beL 8 n).take i ++ List.replicate (8 - i) 0)) (fun i _ _ => 8 - i) 0 (List.replicate 8 0) (madeCells (cByte.enc 0) (8 * 1)) ⟨hH, (Nat.zero_le _), (Bk.make (C := cByte) 0 8 (ltb rfl) (by unfold maxLen; omega)), List.length_replicate, rfl⟩ ?_
  clear hH
  rintro i L cur' w ⟨hH, hi, hB', hlen, hL⟩
  refine zr ?_
  refine zv (.lt (i < 8)) 0 ?_
  refine zn ?_
  refine cxSeq ?_
  refine zP (fun hc2 => ?_) (fun hc2 => ?_)
  refine cxSkip ?_
  refine qxThen ?_
  refine cxSeq ?_
  refine cxBlock ?_
  refine zr ?_
  refine zv .mv 1 ?_
  refine zv .mv 1 ?_
  refine zn ?_
  refine cxReg ?_
  refine zv .mv 0 ?_
  refine zv .mv 0 ?_
  refine zv .mv 0 ?_
  refine zv .mv 8 ?_
  refine zv (.mul (((8 * i) : Nat) : Int)) 1 ?_
  refine zv (.sub (((56 - 8 * i) : Nat) : Int)) 1 ?_
  refine zv (v := (.int .u64 (((n / 2 ^ (56 - 8 * i)) : Nat) : Int))) (fun _ _ hF => opShrU (n := 56 - 8 * i) (z := (n / 2 ^ (56 - 8 * i))) rfl (hF.ev 1 rfl) (hF.ev 0 rfl) (by show _ ≤ 64; omega) (rfl)) 3 ?_
  refine zv .cb 1 ?_
  have hi3 : i < 8 := by omega
  have hj6 : i < L.length := by first | exact hi3 | (simp only [List.length_drop]; omega) | (simp only [List.length_drop, List.length_take]; omega) | omega
  obtain ⟨x4, hx5⟩ := get_at L i hj6
  have hb7 := UInt8.toNat_lt x4
  refine zv (.ix 1 i (hi := hi3)) 6 ?_
  obtain ⟨cur9, hcs10, hB8⟩ : ∃ cs, putL cur' (0 + i * 1) (cByte.enc (UInt8.ofNat (n / 2 ^ (56 - 8 * i)))).toList = cs ∧ Bk cByte 8 cs (L.set i (UInt8.ofNat (n / 2 ^ (56 - 8 * i)))) := ⟨_, rfl, put_at hB' i hj6 (UInt8.ofNat (n / 2 ^ (56 - 8 * i)))⟩
  refine ze0 0 hH rfl (fun _ hF => smStoreT (C := cByte) (z := (UInt8.ofNat (n / 2 ^ (56 - 8 * i)))) rfl (hF.ev 0 rfl) (hF.ev 1 rfl) rfl (by kernel_rfl) (room_at hB' hj6) hcs10) trivial ?_
  clear hH
  rintro _ _ w rfl hH
  refine pxEnd ?_
  refine qxInN ?_
  refine qxThen ?_
  refine cxReg ?_
  refine zv (.add ((i + 1 : Nat) : Int)) 7 ?_
  refine zv .mv 1 ?_
  refine pxEnd ?_
  exact zR3 (i + 1) (L.set i (UInt8.ofNat (n / 2 ^ (56 - 8 * i)))) cur9 ⟨hH, (by omega), hB8, (by rw [List.length_set]; exact hlen), (by rw [hL]; exact eight_step (by omega))⟩ (by omega)
  refine cxExit ?_
  refine qxThenE ?_
  refine qxThenE ?_
  refine qxInE ?_
  refine qxThen ?_
  refine zr ?_
  refine zv .mv 31 ?_
  refine zv .mv 1 ?_
  refine zn ?_
  refine cxRet ?_
  refine qxRet1 0 rfl rfl ?_
  have he : L = beL 8 n := by rw [hL, show i = 8 by omega, List.take_of_length_le (by rw [beL_len]; exact Nat.le_refl _)]; exact List.append_nil _
  exact ⟨_, _, rfl, (he ▸ hB'.own 5 g1 hlen), hH.out1 [true] rfl⟩

set_option maxHeartbeats 8000000 in
theorem settings_c (x : UInt8) (t : Nat → UInt8) : Does Tryz.prog 27 #[(cHd.val (x, t))] [] (fun _ => True) (fun v E' => OwnT cByte 5 v [2, 9, 2, x] E') := by
  refine does_of (fn := Tryz.f27) Tryz.func27 rfl Tryz.ntmps27 (Nat.le_of_ble_eq_true rfl) rfl ?_
  intro w0 hH hR
  replace hH : HH w0 [] [] w0 := hH.only [false]
  refine zr ?_
  refine zm hH (.bx cHd (x, t)) trivial 1 ?_
  clear hH
  rintro _ _ w ⟨g1, rfl, rfl⟩ hH
  refine zv .mv 0 ?_
  refine zn ?_
  refine zr ?_
  refine zv (.fld 0) 3 ?_
  refine zs (hH.q 0 rfl) (.ld cByte x (fun _ hS => (holds_blk0 hS).fst)) 1 ?_
  refine zm hH (fun _ hF => smLits (C := cByte) (e := 5) (z := (.int .u8 0)) (by_ := 1) [2, 9, 2, x] rfl (by kernel_rfl) (by kernel_rfl) (EvP.cons (v := cByte.val 2) rfl (EvP.cons (v := cByte.val 9) rfl (EvP.cons (v := cByte.val 2) rfl (EvP.cons (v := cByte.val x) (hF.ev 0 rfl) EvP.nil)))) rfl (ltb rfl) (leb rfl) rfl) trivial 1 ?_
  clear hH
  rintro _ _ w ⟨g2, rfl, rfl⟩ hH
  refine zv .mv 1 ?_
  refine zn ?_
  refine cxRet ?_
  refine qxRet1 0 rfl rfl ?_
  exact ⟨_, _, rfl, (Bk.lits (C := cByte) [2, 9, 2, x] (by show 4 ≤ _; unfold maxLen; decide)).own 5 g2 rfl, hH.out1 [false, true] rfl⟩

set_option maxHeartbeats 8000000 in
theorem hbytes_c (x : UInt8) (t : Nat → UInt8) : Does Tryz.prog 12 #[(cHd.val (x, t))] [] (fun _ => True) (fun v E' => OwnT cByte 5 v ([2, 9, 2, x] ++ lst 32 t) E') := by
  refine does_of (fn := Tryz.f12) Tryz.func12 rfl Tryz.ntmps12 (Nat.le_of_ble_eq_true rfl) rfl ?_
  intro w0 hH hR
  replace hH : HH w0 [] [] w0 := hH.only [false]
  refine zr ?_
  refine zm hH (.bx cHd (x, t)) trivial 1 ?_
  clear hH
  rintro _ _ w ⟨g1, rfl, rfl⟩ hH
  refine zv .mv 0 ?_
  refine zn ?_
  refine zx ?_
  replace hH := hH.drew
  refine rld 0 (hH.q 0 rfl) (.ld cHd (x, t) (fun _ hS => (holds_blk0 hS))) 0 ?_
  refine rv 2 (.fld 1) 4 ?_
  refine rv 3 (v := (.slice (some ⟨g1, 1, none⟩) 32 32)) (fun _ _ hF => opSliceA (n := 32) (e := 5) (sz := 1) rfl (by kernel_rfl) (by kernel_rfl) (hF.ev 0 rfl)) 1 ?_
  refine rx1k 1 ?_
  refine rm 1 hH (.call Tryz.func27 ((settings_c x t))) trivial 2 (pgo [] (.nil _ [])) ?_
  clear hH
  rintro v6 E2 w hO3 hH
  obtain ⟨A4, c5, rfl⟩ := hO3.slice
  refine ⟨pnil, ?_⟩
  refine rx1k 4 ?_
  refine re 4 1 hH rfl (fun _ hF => smAppT (C := cByte) (l := [2, 9, 2, x]) (m := (lst 32 t)) (e := 5) (z := (.int .u8 0)) (by_ := 1) rfl (by kernel_rfl) (by kernel_rfl) rfl (ltb rfl) (hF.ev 0 rfl) hO3 (hF.ev 1 rfl) rfl (fun h => by cases h) (by simp only [List.length_cons, List.length_nil]; unfold maxLen; omega) (by simp only [List.length_cons, List.length_nil]; omega)) (vu_holds (holds_blk0 (hH.blk 0 rfl)).snd) 3 (.nil _ []) ?_
  clear hH
  rintro v10 E11 w ⟨hO12, _⟩ hH
  replace hO12 : OwnT cByte 5 v10 ([2, 9, 2, x] ++ (lst 32 t)) E11 := hO12
  obtain ⟨A8, c9, rfl⟩ := hO12.slice
  refine ⟨pnil, ?_⟩
  refine rv 5 .mv 3 ?_
  refine rn ?_
  refine cxRet ?_
  refine qxRet1 0 rfl rfl ?_
  exact ⟨_, _, rfl, hO12, hH.out1 [false, true] rfl⟩

set_option maxHeartbeats 8000000 in
theorem info_c (x : UInt8) (t : Nat → UInt8) : Does Tryz.prog 25 #[(cHd.val (x, t))] [] (fun _ => True) (fun v E' => OwnT cByte 5 v (spI x.toNat) E') := by
  refine does_of (fn := Tryz.f25) Tryz.func25 rfl Tryz.ntmps25 (Nat.le_of_ble_eq_true rfl) rfl ?_
  intro w0 hH hR
  replace hH : HH w0 [] [] w0 := hH.only [false]
  refine zr ?_
  refine zm hH (.bx cHd (x, t)) trivial 1 ?_
  clear hH
  rintro _ _ w ⟨g1, rfl, rfl⟩ hH
  refine zv .mv 0 ?_
  refine zn ?_
  refine zr ?_
  refine zm hH (fun _ hF => smLit1 (e := 5) (sz := 1) (z := (.int .u8 0)) (by_ := 1) (cs := cByte.enc 210) rfl (by kernel_rfl) (by kernel_rfl) rfl (cByte.len 210) (ltb rfl) (leb rfl) rfl) trivial 1 ?_
  clear hH
  rintro _ _ w ⟨g2, rfl, rfl⟩ hH
  refine zs (hH.q 0 rfl) (.ld cHd (x, t) (fun _ hS => (holds_blk0 hS))) 2 ?_
  refine zm hH (.call Tryz.func27 ((settings_c x t))) trivial 1 ?_
  clear hH
  rintro v7 E3 w hO4 hH
  obtain ⟨A5, c6, rfl⟩ := hO4.slice
  refine zm hH (fun _ hF => smLits (C := cSl) (e := 23) (z := (.slice none 0 0)) (by_ := 24) [((some ⟨g2, 0, none⟩), 1, 1), (A5, ([2, 9, 2, x]).length, c6)] rfl (by kernel_rfl) (by kernel_rfl) (EvP.cons (v := cSl.val ((some ⟨g2, 0, none⟩), 1, 1)) (hF.ev 1 rfl) (EvP.cons (v := cSl.val (A5, ([2, 9, 2, x]).length, c6)) (hF.ev 0 rfl) EvP.nil)) rfl (ltb rfl) (leb rfl) rfl) trivial 3 ?_
  clear hH
  rintro _ _ w ⟨g9, rfl, rfl⟩ hH
  refine zm hH (.call Tryz.func32 ((conc2 (some ⟨g9, 0, none⟩) 2 [((some ⟨g2, 0, none⟩), 1, 1), (A5, ([2, 9, 2, x]).length, c6)] ([210]) ([2, 9, 2, x]) (by simp only [List.length_cons, List.length_nil]; omega)))) (⟨((Bk.lits (C := cSl) [((some ⟨g2, 0, none⟩), 1, 1), (A5, ([2, 9, 2, x]).length, c6)] (by show 2 ≤ _; unfold maxLen; decide)).vu (n := 2) (hH.blk 3 rfl) rfl), (.cons ((Bk.lit1 (C := cByte) 210).vu (n := 1) (hH.blk 1 rfl) rfl) (.cons (hO4.vuAt (hH.has 2 rfl)) ViewsL.nil))⟩) 1 ?_
  clear hH
  rintro v14 E10 w hO11 hH
  obtain ⟨A12, c13, rfl⟩ := hO11.slice
  refine zv .mv 1 ?_
  refine zn ?_
  refine cxRet ?_
  refine qxRet1 0 rfl rfl ?_
  have e : [210] ++ [2, 9, 2, x] = spI x.toNat := by unfold spI; rw [UInt8.ofNat_toNat]; rfl
  exact ⟨_, _, rfl, e ▸ hO11, hH.out1 [false, false, false, false, true] rfl⟩

set_option maxHeartbeats 8000000 in
theorem chunk_c (x : UInt8) (t : Nat → UInt8) (hx : x.toNat ≤ 10) : Pure Tryz.prog 14 #[(cHd.val (x, t))] (fun _ => True) (.int .i64 (((64 * 2 ^ x.toNat) : Nat) : Int)) := by
  refine pure_of (fn := Tryz.f14) Tryz.func14 rfl Tryz.ntmps14 (Nat.le_of_ble_eq_true rfl) rfl ?_
  intro w0 hH hR
  have hzz := z_le hx
  refine zr ?_
  refine zm hH (.bx cHd (x, t)) trivial 1 ?_
  clear hH
  rintro _ _ w ⟨g1, rfl, rfl⟩ hH
  refine zv .mv 0 ?_
  refine zn ?_
  refine zr ?_
  refine zv (.fld 0) 3 ?_
  refine zs (hH.q 0 rfl) (.ld cByte x (fun _ hS => (holds_blk0 hS).fst)) 1 ?_
  refine zv (v := (.int .i64 (((64 * 2 ^ x.toNat) : Nat) : Int))) (fun _ _ hF => opShlI (m := 64) (n := x.toNat) (z := (64 * 2 ^ x.toNat)) rfl rfl (hF.ev 0 rfl) (by omega) (rfl) (by omega)) 1 ?_
  refine zv .mv 1 ?_
  refine zn ?_
  refine cxRet ?_
  refine qxRet1 0 rfl rfl ?_
  exact ⟨rfl, HH.toBelow hH⟩

set_option maxHeartbeats 8000000 in
theorem begin_s (s : Nat → UInt8) (x : UInt8) (t : Nat → UInt8) : Does Tryz.prog 11 #[((cArr 32).val s), (cHd.val (x, t))] [] (fun w => w.heap[1]? = some (.cells ((cWs 64).enc K32) 125 (0, 0)) ∧ w.heap[0]? = some (.cells ((cWs 8).enc H32) 115 (0, 0))) (fun v E' => ∃ g B d Ai yi Ei Ek, v = .pointer (some ⟨g, 0, none⟩) ∧ E' = Ei ++ (Ek ++ [bl g 55 (cRn.enc ((B, 32, d), (cutA B d 32 1, 7, d - 32), (Ai, 5, yi), 0, 0))]) ∧ OwnT cByte 5 (.slice B 39 d) (spD (lst 32 s) (lst 32 t) x.toNat) Ek ∧ OwnT cByte 5 (.slice Ai 5 yi) (spI x.toNat) Ei) := by
  refine does_of (fn := Tryz.f11) Tryz.func11 rfl Tryz.ntmps11 (Nat.le_of_ble_eq_true rfl) rfl ?_
  intro w0 hH hR
  replace hH : HH w0 [] [] w0 := hH.only [false]
  refine zr ?_
  refine zm hH (.bx (cArr 32) s) trivial 1 ?_
  clear hH
  rintro _ _ w ⟨g1, rfl, rfl⟩ hH
  refine zm hH (.bx cHd (x, t)) trivial 2 ?_
  clear hH
  rintro _ _ w ⟨g2, rfl, rfl⟩ hH
  refine zv .mv 0 ?_
  refine zn ?_
  refine zr ?_
  refine zs (hH.q 1 rfl) (.ld cHd (x, t) (fun _ hS => (holds_blk0 hS))) 1 ?_
  refine zm hH (.call Tryz.func25 ((info_c x t))) trivial 1 ?_
  clear hH
  rintro v7 E3 w hO4 hH
  obtain ⟨I, hI⟩ : ∃ q, q = (spI (x).toNat) := ⟨_, rfl⟩
  replace hO4 : OwnT cByte 5 v7 (spI (x).toNat) E3 := hO4
  rw [← hI] at hO4
  have hIl : I.length = 5 := hI ▸ rfl
  obtain ⟨A5, c6, rfl⟩ := hO4.slice
  refine zv .mv 1 ?_
  refine zn ?_
  refine zx ?_
  replace hH := hH.drew
  refine rv 0 (.fld 1) 2 ?_
  refine rv 1 (v := (.slice (some ⟨g2, 1, none⟩) 32 32)) (fun _ _ hF => opSliceA (n := 32) (e := 5) (sz := 1) rfl (by kernel_rfl) (by kernel_rfl) (hF.ev 0 rfl)) 1 ?_
  refine rv 2 (v := (.slice (some ⟨g1, 0, none⟩) 32 32)) (fun _ _ hF => opSliceA (n := 32) (e := 5) (sz := 1) rfl (by kernel_rfl) (by kernel_rfl) (hF.ev 2 rfl)) 4 ?_
  refine rv 3 .mv 0 ?_
  refine rx1k 4 ?_
  refine rm 4 hH (.call Tryz.func26 ((hkdf_c (some ⟨g2, 1, none⟩) 32 32 (lst 32 t) (by decide) (some ⟨g1, 0, none⟩) 32 32 (lst 32 s) (by decide) A5 I.length c6 I (by omega) 39 (by decide) (by decide)))) (⟨(hH.oldBlk hR.1 (by simp)), (hH.oldBlk hR.2 (by simp)), (vu_holds (holds_blk0 (hH.blk 1 rfl)).snd), (vu_arr (hH.blk 0 rfl)), (hO4.vuAt (hH.has 2 rfl))⟩) 7 (.nil _ []) ?_
  clear hH
  rintro v13 E9 w hO10 hH
  obtain ⟨D, hD⟩ : ∃ q, q = (okmL (lst 32 t) (lst 32 s) I 39) := ⟨_, rfl⟩
  replace hO10 : OwnT cByte 5 v13 (okmL (lst 32 t) (lst 32 s) I 39) E9 := hO10
  rw [← hD] at hO10
  have hDl : D.length = 39 := hD ▸ okm_len _ _ _ (by decide)
  obtain ⟨A11, c12, rfl⟩ := hO10.slice
  refine ⟨pnil, ?_⟩
  refine rv 5 .mv 1 ?_
  refine rn ?_
  have hcl := hO10.capLe
  refine zx ?_
  replace hH := hH.drew
  refine rv 0 .mv 0 ?_
  refine rv 1 (v := (.slice A11 32 c12)) (fun _ _ hF => opCutH (h := 32) (e := 5) (sz := 1) rfl (by kernel_rfl) (by kernel_rfl) (hF.ev 0 rfl) rfl rfl (by omega)) 1 ?_
  refine rv 2 .mv 2 ?_
  refine rv 3 (v := (.slice (cutA A11 c12 32 1) (D.length - 32) (c12 - 32))) (fun _ _ hF => opCutL (k := 32) (e := 5) (sz := 1) rfl (by kernel_rfl) (by kernel_rfl) (hF.ev 0 rfl) rfl rfl (by omega)) 1 ?_
  refine rv 4 .mv 4 ?_
  refine rv 5 (v := (cRn.val ((A11, 32, c12), ((cutA A11 c12 32 1), (D.length - 32), (c12 - 32)), (A5, I.length, c6), 0, 0))) (fun _ _ hF => opBuildP (cells := cRn.enc ((A11, 32, c12), ((cutA A11 c12 32 1), (D.length - 32), (c12 - 32)), (A5, I.length, c6), 0, 0)) (vals := [(0, (.slice A11 32 c12)), (1, (.slice (cutA A11 c12 32 1) (D.length - 32) (c12 - 32))), (2, (.slice A5 I.length c6))]) rfl (EvP.cons (v := (.slice A11 32 c12)) (hF.ev 2 rfl) (EvP.cons (v := (.slice (cutA A11 c12 32 1) (D.length - 32) (c12 - 32))) (hF.ev 1 rfl) (EvP.cons (v := (.slice A5 I.length c6)) (hF.ev 0 rfl) EvP.nil))) (by kernel_rfl) _) 7 ?_
  refine rx1k 6 ?_
  refine rm 6 hH (.bx cRn ((A11, 32, c12), ((cutA A11 c12 32 1), (D.length - 32), (c12 - 32)), (A5, I.length, c6), 0, 0)) trivial 1 (.nil _ []) ?_
  clear hH
  rintro _ _ w ⟨g15, rfl, rfl⟩ hH
  refine ⟨pnil, ?_⟩
  refine rv 7 .mv 1 ?_
  refine rn ?_
  refine cxRet ?_
  refine qxRet1 0 rfl rfl ?_
  rw [hDl, hIl] at hH
  rw [hDl, hD, hI] at hO10
  rw [hIl, hI] at hO4
  exact ⟨_, _, rfl, ⟨_, _, _, _, _, _, _, rfl, rfl, hO10, hO4⟩, (hH.out [false, false, true, true, true])⟩

set_option maxHeartbeats 8000000 in
theorem nonce_s (g : Nat) (A : Option Addr) (z : Nat) (B : Option Addr) (y : Nat) (b : List UInt8) (Ai : Option Addr) (yi i m : Nat) : Does Tryz.prog 30 #[(.pointer (some ⟨g, 0, none⟩))] [] (fun w => w.heap[g]? = some (.cells (cRn.enc ((A, 32, z), (B, 7, y), (Ai, 5, yi), i, m)) 55 (0, 0)) ∧ Vu cByte w B 7 y b) (fun v E' => OwnT cByte 5 v (spN b i) E') := by
  refine does_of (fn := Tryz.f30) Tryz.func30 rfl Tryz.ntmps30 (Nat.le_of_ble_eq_true rfl) rfl ?_
  intro w0 hH hR
  replace hH : HH w0 [] [] w0 := hH.only [false]
  have hbl := hR.2.len
  refine zr ?_
  refine zv .mv 0 ?_
  refine zn ?_
  refine zx ?_
  replace hH := hH.drew
  refine rv 0 .mv 0 ?_
  refine rv 1 .nc 1 ?_
  refine rv 2 (.fld 1) 1 ?_
  refine rld 3 (hH.ob hR.1) (.ld cSl (B, 7, y) (fun _ hS => ((holds_blk0 hS).snd).fst) (v := (.slice B 7 y))) 1 ?_
  refine rv 4 .mv 4 ?_
  refine rv 5 .nc 1 ?_
  refine rv 6 (.fld 3) 1 ?_
  refine rld 7 (hH.ob hR.1) (.ld (cNat .u64) i (fun _ hS => ((((holds_blk0 hS).snd).snd).snd).fst)) 1 ?_
  refine rx1k 8 ?_
  refine rm 8 hH (.call Tryz.func33 ((eight_c i))) trivial 1 (pgo [] (.keep (.nil _ []))) ?_
  clear hH
  rintro v5 E1 w hO2 hH
  obtain ⟨A3, c4, rfl⟩ := hO2.slice
  refine ⟨pcons (hH.oldBlk hR.1 (by simp)) pnil, ?_⟩
  refine rx1k 9 ?_
  refine rm 9 hH (fun _ hF => smLits (C := cSl) (e := 23) (z := (.slice none 0 0)) (by_ := 24) [(B, 7, y), (A3, (beL 8 i).length, c4)] rfl (by kernel_rfl) (by kernel_rfl) (EvP.cons (v := cSl.val (B, 7, y)) (hF.ev 1 rfl) (EvP.cons (v := cSl.val (A3, (beL 8 i).length, c4)) (hF.ev 0 rfl) EvP.nil)) rfl (ltb rfl) (leb rfl) rfl) trivial 3 (pgo [] (.nil _ [])) ?_
  clear hH
  rintro _ _ w ⟨g7, rfl, rfl⟩ hH
  refine ⟨pnil, ?_⟩
  refine rx1k 10 ?_
  refine rm 10 hH (.call Tryz.func32 ((conc2 (some ⟨g7, 0, none⟩) 2 [(B, 7, y), (A3, (beL 8 i).length, c4)] b (beL 8 i) (by simp only [beL_len]; omega)))) (⟨((Bk.lits (C := cSl) [(B, 7, y), (A3, (beL 8 i).length, c4)] (by show 2 ≤ _; unfold maxLen; decide)).vu (n := 2) (hH.blk 1 rfl) rfl), (.cons (hH.vu hR.2 (by decide) (Off.nil _ _)) (.cons (hO2.vuAt (hH.has 0 rfl)) ViewsL.nil))⟩) 1 (.nil _ []) ?_
  clear hH
  rintro v12 E8 w hO9 hH
  obtain ⟨A10, c11, rfl⟩ := hO9.slice
  refine ⟨pnil, ?_⟩
  refine rv 11 .mv 3 ?_
  refine rn ?_
  refine cxRet ?_
  refine qxRet1 0 rfl rfl ?_
  exact ⟨_, _, rfl, hO9, hH.out1 [false, false, true] rfl⟩

set_option maxHeartbeats 8000000 in
theorem past_s (g : Nat) (A : Option Addr) (z : Nat) (B : Option Addr) (y : Nat) (Ai : Option Addr) (yi i m n : Nat) (hi : i < 18446744073709551615) (hn : n < 9223372036854775808) (hm : m + n < 18446744073709551616) : Does Tryz.prog 31 #[(.pointer (some ⟨g, 0, none⟩)), (.int .i64 (((n) : Nat) : Int))] [bl g 55 (cRn.enc ((A, 32, z), (B, 7, y), (Ai, 5, yi), i, m))] (fun _ => True) (fun v E' => v = .tuple #[] ∧ E' = [bl g 55 (cRn.enc ((A, 32, z), (B, 7, y), (Ai, 5, yi), i + 1, m + n))]) := by
  refine does_of (fn := Tryz.f31) Tryz.func31 rfl Tryz.ntmps31 (Nat.le_of_ble_eq_true rfl) rfl ?_
  intro w0 hH hR
  refine zr ?_
  refine zv .mv 0 ?_
  refine zv .nc 0 ?_
  refine zv (.fld 3) 1 ?_
  refine zs (hH.q 0 rfl) (.ld (cNat .u64) i (fun _ hS => ((((holds_blk0 hS).snd).snd).snd).fst)) 1 ?_
  refine zv (v := (.int .u64 (((i + 1) : Nat) : Int))) (fun _ _ hF => opAddU (m := i) (j := 1) (z := (i + 1)) rfl rfl (hF.ev 0 rfl) rfl (by show (i + 1) % 18446744073709551616 = _; omega)) 1 ?_
  refine zv .nc 2 ?_
  refine zv (.fld 3) 1 ?_
  refine ze0 0 hH rfl (fun _ hF => smStoreT (C := (cNat .u64)) (z := i + 1) rfl (hF.ev 0 rfl) (hF.ev 1 rfl) rfl (by kernel_rfl) (by rw [Cod.size]; exact leb rfl) (put_snd (put_snd (put_snd (put_fst (put_whole (cNat .u64) _ _) (by rw [Array.length_toList, Cod.size]; exact leb rfl)) rfl) rfl) rfl)) trivial ?_
  clear hH
  rintro _ _ w rfl hH
  refine zn ?_
  refine cxReg ?_
  refine zv .mv 7 ?_
  refine zv .nc 0 ?_
  refine zv (.fld 4) 1 ?_
  refine zs (hH.q 0 rfl) (.ld (cNat .u64) m (fun _ hS => ((((holds_blk0 hS).snd).snd).snd).snd)) 1 ?_
  refine zv .mv 4 ?_
  refine zv (.cu .u64) 1 ?_
  refine zv (v := (.int .u64 (((m + n) : Nat) : Int))) (fun _ _ hF => opAddU (m := m) (j := n) (z := (m + n)) rfl rfl (hF.ev 1 rfl) (hF.ev 0 rfl) (by show (m + n) % 18446744073709551616 = _; omega)) 3 ?_
  refine zv .nc 2 ?_
  refine zv (.fld 4) 1 ?_
  refine ze0 0 hH rfl (fun _ hF => smStoreT (C := (cNat .u64)) (z := m + n) rfl (hF.ev 0 rfl) (hF.ev 1 rfl) rfl (by kernel_rfl) (by rw [Cod.size]; exact leb rfl) (put_snd (put_snd (put_snd (put_snd (put_whole (cNat .u64) _ _) rfl) rfl) rfl) rfl)) trivial ?_
  clear hH
  rintro _ _ w rfl hH
  refine pxEnd ?_
  refine qxEnd0 rfl ?_
  exact ⟨_, _, rfl, ⟨rfl, rfl⟩, hH.out [true]⟩
end Go.Proofs.YtfloiekaiiapnaaGreatDoor

namespace Go.Proofs.YtfloiekaiiapnaaGreatDoor
open Go Go.RowKit
set_option maxRecDepth 100000

set_option maxHeartbeats 8000000 in
theorem okey_c (A : Option Addr) (n c : Nat) (hk : n = 16 ∨ n = 32) : Pure Tryz.prog 80 #[(.slice A n c)] (fun _ => True) (.bool true) := by
  refine pure_of (fn := Tryz.f80) Tryz.func80 rfl Tryz.ntmps80 (Nat.le_of_ble_eq_true rfl) rfl ?_
  intro w0 hH hR
  refine zr ?_
  refine zv .mv 0 ?_
  refine zn ?_
  refine zr ?_
  refine zv .mv 1 ?_
  refine zv .len 1 ?_
  refine zv (.eq (n = 16)) 1 ?_
  refine zv .mv 1 ?_
  refine pxSplitP 0 rfl (l1 := [(6, (.bool true)), (0, (.slice A n c))]) (l2 := [(6, (.bool false)), (0, (.slice A n c))]) rfl rfl (fun hg1 => ?_) (fun hg1 => ?_)
  refine pxU rfl (gOff 0 rfl rfl rfl (by decide)) (kM [true, false] rfl rfl) (by decide) ?_
  refine pxU rfl (gOff 0 rfl rfl rfl (by decide)) (kA rfl) (by decide) ?_
  refine pxU rfl (gOff 0 rfl rfl rfl (by decide)) (kA rfl) (by decide) ?_
  refine zv (v := (.bool true)) (fun _ _ hF => opPickT rfl (hF.ev 0 rfl) rfl) 1 ?_
  refine zv .mv 1 ?_
  refine zn ?_
  refine cxRet ?_
  refine qxRet1 0 rfl rfl ?_
  exact ⟨rfl, HH.toBelow hH⟩
  refine pxV (v := (.slice A n c)) (fun _ _ hF => opMove rfl (hF.ev 1 rfl)) rfl (gOn 0 rfl rfl rfl (by decide)) (kM [true, false] rfl rfl) (by decide) ?_
  refine pxV (v := (.int .i64 (((n) : Nat) : Int))) (fun _ _ hF => opLen (e := 5) rfl (by kernel_rfl) (hF.ev 0 rfl)) rfl (gOn 1 rfl rfl rfl (by decide)) (kM [false, true] rfl rfl) (by decide) ?_
  refine pxV (v := (.bool true)) (fun _ _ hF => opEqI rfl (hF.ev 0 rfl) rfl (decide_eq_true (by omega))) rfl (gOn 1 rfl rfl rfl (by decide)) (kM [false, true] rfl rfl) (by decide) ?_
  refine zv (v := (.bool true)) (fun _ _ hF => opPickF rfl (hF.ev 1 rfl) (hF.ev 0 rfl)) 3 ?_
  refine zv .mv 1 ?_
  refine zn ?_
  refine cxRet ?_
  refine qxRet1 0 rfl rfl ?_
  exact ⟨rfl, HH.toBelow hH⟩

set_option maxHeartbeats 8000000 in
theorem aeE_c (A : Option Addr) (z : Nat) (l : List UInt8) (hk : l.length = 16 ∨ l.length = 32) (b : Nat → UInt8) : Pure Tryz.prog 65 #[(.slice A l.length z), ((cArr 16).val b)] (fun w => w.heap[2]? = some (.cells ((cArr 256).enc boxF) 105 (0, 0)) ∧ Vu cByte w A l.length z l) (.tuple #[((cArr 16).val (aeE l b)), (.int .i64 0)]) := by
  refine pure_of (fn := Tryz.f65) Tryz.func65 rfl Tryz.ntmps65 (Nat.le_of_ble_eq_true rfl) rfl ?_
  intro w0 hH hR
  refine zr ?_
  refine zm hH (.bx (cArr 16) b) trivial 2 ?_
  clear hH
  rintro _ _ w ⟨g1, rfl, rfl⟩ hH
  refine zm hH (.al (cArr 16) (fun _ => 0)) trivial 0 ?_
  clear hH
  rintro _ _ w ⟨g2, rfl, rfl⟩ hH
  refine zv .mv 0 ?_
  refine zn ?_
  refine cxSeq ?_
  refine zr ?_
  refine zv .mv 1 ?_
  refine zc Tryz.func80 (okey_c A l.length z hk) trivial hH 1 ?_
  clear hH
  intro w hH
  refine zv (v := (.bool false)) (fun _ _ hF => opNot rfl (hF.ev 0 rfl) rfl) 1 ?_
  refine zn ?_
  refine zF ?_
  refine cxSkip ?_
  refine qxThen ?_
  refine zx ?_
  replace hH := hH.drew
  refine rv 0 .mv 9 ?_
  refine rld 2 (hH.q 0 rfl) (.ld (cArr 16) b (fun _ hS => (holds_blk0 hS))) 4 ?_
  refine rx1k 1 ?_
  refine rm 1 hH (.call Tryz.func82 (roundKeys_c A z l hk)) (⟨(hH.oldBlk hR.1 (by simp)), (hH.vu hR.2 (by decide) (Off.nil _ _))⟩) 2 (.keep (.nil _ [])) ?_
  clear hH
  rintro v E5 w hO6 hH
  replace hO6 : OwnT (cArr 16) 61 v (aeK l) E5 := hO6
  obtain ⟨A3, c4, rfl⟩ := hO6.slice
  refine ⟨pcons (hH.blk 0 rfl) pnil, ?_⟩
  refine rx1k 3 (rpc 3 Tryz.func81 (encK_c A3 ((aeK l).length) c4 l hk (aeK_len l) b) (⟨(hH.oldBlk hR.1 (by simp)), (hO6.vuAt (hH.has 2 rfl))⟩) hH 3 (pgo [] (.nil _ [])) ?_)
  clear hH
  intro w hH
  refine ⟨pnil, ?_⟩
  refine rx1k 4 ?_
  refine re0 4 1 hH rfl (.sw (cArr 16) (fun _ => 0) (aeE l b)) trivial (.nil _ []) ?_
  clear hH
  rintro _ _ w rfl hH
  refine ⟨pnil, ?_⟩
  refine rv 5 .mv 1 ?_
  refine rn ?_
  refine cxRet ?_
  refine qxRetCT 1 0 (hH.blk 1 rfl) rfl rfl rfl (by kernel_rfl) (Cod.size _ _) (by kernel_rfl) ?_
  exact ⟨rfl, HH.toBelow hH⟩

set_option maxHeartbeats 8000000 in
theorem aeD_c (A : Option Addr) (z : Nat) (l : List UInt8) (hk : l.length = 16 ∨ l.length = 32) (b : Nat → UInt8) : Pure Tryz.prog 87 #[(.slice A l.length z), ((cArr 16).val b)] (fun w => w.heap[2]? = some (.cells ((cArr 256).enc boxF) 105 (0, 0)) ∧ Vu cByte w A l.length z l) (.tuple #[((cArr 16).val (aeD l b)), (.int .i64 0)]) := by
  refine pure_of (fn := Tryz.f87) Tryz.func87 rfl Tryz.ntmps87 (Nat.le_of_ble_eq_true rfl) rfl ?_
  intro w0 hH hR
  refine zr ?_
  refine zm hH (.bx (cArr 16) b) trivial 2 ?_
  clear hH
  rintro _ _ w ⟨g1, rfl, rfl⟩ hH
  refine zm hH (.al (cArr 16) (fun _ => 0)) trivial 0 ?_
  clear hH
  rintro _ _ w ⟨g2, rfl, rfl⟩ hH
  refine zv .mv 0 ?_
  refine zn ?_
  refine cxSeq ?_
  refine zr ?_
  refine zv .mv 1 ?_
  refine zc Tryz.func80 (okey_c A l.length z hk) trivial hH 1 ?_
  clear hH
  intro w hH
  refine zv (v := (.bool false)) (fun _ _ hF => opNot rfl (hF.ev 0 rfl) rfl) 1 ?_
  refine zn ?_
  refine zF ?_
  refine cxSkip ?_
  refine qxThen ?_
  refine zr ?_
  refine zc Tryz.func97 (back_c ) (hH.oldBlk hR.1 (by simp)) hH 1 ?_
  clear hH
  intro w hH
  refine zm hH (.al (cArr 256) (fun _ => 0)) trivial 0 ?_
  clear hH
  rintro _ _ w ⟨g3, rfl, rfl⟩ hH
  refine ze0 2 hH rfl (.sw (cArr 256) (fun _ => 0) (bk boxF 256)) trivial ?_
  clear hH
  rintro _ _ w rfl hH
  refine zn ?_
  refine zx ?_
  replace hH := hH.drew
  refine rv 0 .mv 18 ?_
  refine rld 2 (hH.q 0 rfl) (.ld (cArr 16) b (fun _ hS => (holds_blk0 hS))) 8 ?_
  refine rx1k 1 ?_
  refine rm 1 hH (.call Tryz.func82 (roundKeys_c A z l hk)) (⟨(hH.oldBlk hR.1 (by simp)), (hH.vu hR.2 (by decide) (Off.nil _ _))⟩) 2 (.keep (.nil _ [])) ?_
  clear hH
  rintro v E6 w hO7 hH
  replace hO7 : OwnT (cArr 16) 61 v (aeK l) E6 := hO7
  obtain ⟨A4, c5, rfl⟩ := hO7.slice
  refine ⟨pcons (hH.blk 0 rfl) pnil, ?_⟩
  refine rx1k 3 (rpc 3 Tryz.func98 (decK_c g3 A4 ((aeK l).length) c5 l hk (aeK_len l) b) (⟨(hH.blk 2 rfl), (hO7.vuAt (hH.has 3 rfl))⟩) hH 7 (pgo [] (.nil _ [])) ?_)
  clear hH
  intro w hH
  refine ⟨pnil, ?_⟩
  refine rx1k 4 ?_
  refine re0 4 1 hH rfl (.sw (cArr 16) (fun _ => 0) (aeD l b)) trivial (.nil _ []) ?_
  clear hH
  rintro _ _ w rfl hH
  refine ⟨pnil, ?_⟩
  refine rv 5 .mv 1 ?_
  refine rn ?_
  refine cxRet ?_
  refine qxRetCT 1 0 (hH.blk 1 rfl) rfl rfl rfl (by kernel_rfl) (Cod.size _ _) (by kernel_rfl) ?_
  exact ⟨rfl, HH.toBelow hH⟩

set_option maxHeartbeats 8000000 in
theorem xor_c (a b : Nat → UInt8) : Pure Tryz.prog 64 #[((cArr 16).val a), ((cArr 16).val b)] (fun _ => True) ((cArr 16).val (added a b)) := by
  refine pure_of (fn := Tryz.f64) Tryz.func64 rfl Tryz.ntmps64 (Nat.le_of_ble_eq_true rfl) rfl ?_
  intro w0 hH hR
  refine zr ?_
  refine zm hH (.bx (cArr 16) a) trivial 1 ?_
  clear hH
  rintro _ _ w ⟨g1, rfl, rfl⟩ hH
  refine zm hH (.bx (cArr 16) b) trivial 2 ?_
  clear hH
  rintro _ _ w ⟨g2, rfl, rfl⟩ hH
  refine zm hH (.al (cArr 16) (fun _ => 0)) trivial 0 ?_
  clear hH
  rintro _ _ w ⟨g3, rfl, rfl⟩ hH
  refine zn ?_
  refine cxSeq ?_
  refine zr ?_
  refine zv .mv 0 ?_
  refine zn ?_
  refine cxBlock ?_
  have he4 : (cArr 16).enc (upF 0 (added a b) a) = (cArr 16).enc a := arr_congr (fun j _ => by rw [upF_zero])
  replace hH : HH w0 [] [[bl g1 61 ((cArr 16).enc (upF 0 (added a b) a))], [bl g2 61 ((cArr 16).enc b)], [bl g3 61 ((cArr 16).enc (fun _ => 0))]] w := by rw [he4]; exact hH
  refine zL1 (fun (i : Nat) => [(6, (.int .i64 (((i) : Nat) : Int))), (4, (.pointer (some ⟨g3, 0, none⟩))), (3, (.pointer (some ⟨g2, 0, none⟩))), (2, (.pointer (some ⟨g1, 0, none⟩)))]) (fun i w => HH w0 [] [[bl g1 61 ((cArr 16).enc (upF i (added a b) a))], [bl g2 61 ((cArr 16).enc b)], [bl g3 61 ((cArr 16).enc (fun _ => 0))]] w ∧ (i ≤ 16)) (fun i => 16 - i) 0 ⟨hH, (Nat.zero_le _)⟩ ?_
  clear hH
  rintro i w ⟨hH, hi⟩
  refine zr ?_
  refine zv (.lt (i < 16)) 0 ?_
  refine zn ?_
  refine cxSeq ?_
  refine zP (fun hc5 => ?_) (fun hc5 => ?_)
  refine cxSkip ?_
  refine qxThen ?_
  refine cxSeq ?_
  refine cxBlock ?_
  refine zr ?_
  refine zv .mv 1 ?_
  refine zv .mv 1 ?_
  refine zn ?_
  refine cxRegX mixedOrders (by kernel_rfl) ?_
  replace hH := hH.drew
  refine rv 0 .mv 0 ?_
  have hi6 : i < 16 := by omega
  refine rv 1 (.ia 1 16 i (hi := hi6)) 0 ?_
  refine rld 2 (hH.q 0 rfl) (.ld cByte ((upF i (added a b) a) i) (fun _ hS => ((holds_blk0 hS).elt hi6))) 1 ?_
  refine rv 3 .mv 4 ?_
  have hi7 : i < 16 := by omega
  refine rv 4 (.ia 1 16 i (hi := hi7)) 1 ?_
  refine rld 5 (hH.q 1 rfl) (.ld cByte (b i) (fun _ hS => ((holds_blk0 hS).elt hi7))) 1 ?_
  refine rv 6 (.xb (((upF i (added a b) a) i) ^^^ (b i)) (u := ((upF i (added a b) a) i)) (v := (b i))) 3 ?_
  have hi8 : i < 16 := by omega
  refine rv 7 (.ia 1 16 i (hi := hi8)) 2 ?_
  refine rx1k 8 ?_
  refine re0 8 0 hH rfl (.st cByte (((upF i (added a b) a) i) ^^^ (b i)) (room_1 (S := sBy) (C := (cArr 16)) rfl hi8) (arr_set0 (upF i (added a b) a) (((upF i (added a b) a) i) ^^^ (b i)) hi8)) trivial (pgo [] (pgo [] (.nil _ []))) ?_
  clear hH
  rintro _ _ w rfl hH
  refine ⟨pnil, ?_⟩
  refine rxEnd (by kernel_rfl) ?_
  refine qxInN ?_
  refine qxThen ?_
  refine cxReg ?_
  refine zv (.add ((i + 1 : Nat) : Int)) 7 ?_
  refine zv .mv 1 ?_
  refine pxEnd ?_
  have he9 : (cArr 16).enc (upF (i + 1) (added a b) a) = (cArr 16).enc (stF (upF i (added a b) a) i (((upF i (added a b) a) i) ^^^ (b i))) := arr_congr (fun j _ => (congrFun (upF_step i (added a b) a (by rw [upF_at]; rfl)) j).symm)
  replace hH : HH w0 [] [[bl g1 61 ((cArr 16).enc (upF (i + 1) (added a b) a))], [bl g2 61 ((cArr 16).enc b)], [bl g3 61 ((cArr 16).enc (fun _ => 0))]] w := by rw [he9]; exact hH
  exact zR1 (i + 1) ⟨hH, (by omega)⟩ (by omega)
  refine cxExit ?_
  refine qxThenE ?_
  refine qxThenE ?_
  refine qxInE ?_
  refine qxThen ?_
  obtain rfl : i = 16 := by omega
  have he10 : (cArr 16).enc (added a b) = (cArr 16).enc (upF 16 (added a b) a) := arr_congr (fun j hj => (upF_lt _ _ hj).symm)
  replace hH : HH w0 [] [[bl g1 61 ((cArr 16).enc (added a b))], [bl g2 61 ((cArr 16).enc b)], [bl g3 61 ((cArr 16).enc (fun _ => 0))]] w := by rw [he10]; exact hH
  refine zr ?_
  refine zs (hH.q 0 rfl) (.ld (cArr 16) (added a b) (fun _ hS => (holds_blk0 hS))) 27 ?_
  refine ze0 2 hH rfl (.sw (cArr 16) (fun _ => 0) (added a b)) trivial ?_
  clear hH
  rintro _ _ w rfl hH
  refine zn ?_
  refine cxRet ?_
  refine qxRetC 1 (hH.blk 2 rfl) rfl rfl (by kernel_rfl) (Cod.size _ _) (by kernel_rfl) ?_
  exact ⟨rfl, HH.toBelow hH⟩

theorem db_end {b : Nat → UInt8} {j : Nat} (hj : j < 16) : dbB b j = stF (upF 15 (dbB b) fun _ => 0) 15 (sl8 (b 15) 1 ^^^ sr8 (b 0) 7 * 135) j := by
  unfold stF
  by_cases h : j = 15
  · rw [if_pos h, h]; rfl
  · rw [if_neg h, upF_lt _ _ (by omega)]
theorem sr_at {t : Nat → UInt8} {i : Nat} : t i ^^^ t (i + 1) = srB t (16 + i) := by
  unfold srB
  rw [if_neg (by omega), show 16 + i - 16 = i by omega, show 16 + i - 15 = i + 1 by omega]
  rfl
theorem pd_full {l : List UInt8} (_ : l.length ≤ 16) {j : Nat} (hj : j < 16) (h2 : ¬ l.length < 16) : pdB l.length (cutF l 0) j = ovr (l.take l.length) (fun _ => 0) j := by
  unfold pdB ovr cutF
  rw [if_pos (by omega), List.take_length, if_pos (by omega), Nat.zero_add]
theorem pd_part {l : List UInt8} (_ : l.length < 16) (j : Nat) : pdB l.length (cutF l 0) j = stF (ovr (l.take l.length) fun _ => 0) l.length 128 j := by
  unfold pdB stF ovr cutF
  rw [List.take_length]
  by_cases h1 : j < l.length
  · rw [if_pos h1, if_neg (by omega), if_pos h1, Nat.zero_add]
  · rw [if_neg h1]
    by_cases h2 : j = l.length
    · rw [if_pos h2, if_pos h2]
    · rw [if_neg h2, if_neg h2, if_neg h1]

set_option maxHeartbeats 8000000 in
theorem dbl16_c (b : Nat → UInt8) : Pure Tryz.prog 78 #[((cArr 16).val b)] (fun _ => True) ((cArr 16).val (dbB b)) := by
  refine pure_of (fn := Tryz.f78) Tryz.func78 rfl Tryz.ntmps78 (Nat.le_of_ble_eq_true rfl) rfl ?_
  intro w0 hH hR
  refine zr ?_
  refine zm hH (.bx (cArr 16) b) trivial 1 ?_
  clear hH
  rintro _ _ w ⟨g1, rfl, rfl⟩ hH
  refine zm hH (.al (cArr 16) (fun _ => 0)) trivial 0 ?_
  clear hH
  rintro _ _ w ⟨g2, rfl, rfl⟩ hH
  refine zn ?_
  refine zr ?_
  refine zm hH (.al (cArr 16) (fun _ => 0)) trivial 0 ?_
  clear hH
  rintro _ _ w ⟨g3, rfl, rfl⟩ hH
  refine zn ?_
  refine cxSeq ?_
  refine zr ?_
  refine zv .mv 0 ?_
  refine zn ?_
  refine cxBlock ?_
  have he4 : (cArr 16).enc (upF 0 (dbB b) (fun _ => 0)) = (cArr 16).enc (fun _ => 0) := arr_congr (fun j _ => by rw [upF_zero])
  replace hH : HH w0 [] [[bl g1 61 ((cArr 16).enc b)], [bl g2 61 ((cArr 16).enc (fun _ => 0))], [bl g3 61 ((cArr 16).enc (upF 0 (dbB b) (fun _ => 0)))]] w := by rw [he4]; exact hH
  refine zL1 (fun (i : Nat) => [(5, (.int .i64 (((i) : Nat) : Int))), (3, (.pointer (some ⟨g3, 0, none⟩))), (2, (.pointer (some ⟨g2, 0, none⟩))), (1, (.pointer (some ⟨g1, 0, none⟩)))]) (fun i w => HH w0 [] [[bl g1 61 ((cArr 16).enc b)], [bl g2 61 ((cArr 16).enc (fun _ => 0))], [bl g3 61 ((cArr 16).enc (upF i (dbB b) (fun _ => 0)))]] w ∧ (i ≤ 15)) (fun i => 15 - i) 0 ⟨hH, (Nat.zero_le _)⟩ ?_
  clear hH
  rintro i w ⟨hH, hi⟩
  refine zr ?_
  refine zv (.lt (i < 15)) 0 ?_
  refine zn ?_
  refine cxSeq ?_
  refine zP (fun hc5 => ?_) (fun hc5 => ?_)
  refine cxSkip ?_
  refine qxThen ?_
  refine cxSeq ?_
  refine cxBlock ?_
  refine zr ?_
  refine zv .mv 1 ?_
  refine zv .mv 1 ?_
  refine zn ?_
  refine cxRegX mixedOrders (by kernel_rfl) ?_
  replace hH := hH.drew
  refine rv 0 .mv 0 ?_
  refine rv 1 .mv 0 ?_
  have hi6 : i < 16 := by omega
  refine rv 2 (.ia 1 16 i (hi := hi6)) 1 ?_
  refine rld 3 (hH.q 0 rfl) (.ld cByte (b i) (fun _ hS => ((holds_blk0 hS).elt hi6))) 1 ?_
  refine rv 4 (.lb 1 (u := (b i))) 1 ?_
  refine rv 5 .mv 4 ?_
  refine rv 6 (.add ((i + 1 : Nat) : Int)) 1 ?_
  have hi7 : i + 1 < 16 := by omega
  refine rv 7 (.ia 1 16 (i + 1) (hi := hi7)) 1 ?_
  refine rld 8 (hH.q 0 rfl) (.ld cByte (b (i + 1)) (fun _ hS => ((holds_blk0 hS).elt hi7))) 1 ?_
  refine rv 9 (.rb 7 (u := (b (i + 1)))) 1 ?_
  refine rv 10 (.ob ((sl8 (b i) 1) ||| (sr8 (b (i + 1)) 7)) (u := (sl8 (b i) 1)) (v := (sr8 (b (i + 1)) 7))) 3 ?_
  have hi8 : i < 16 := by omega
  refine rv 11 (.ia 1 16 i (hi := hi8)) 2 ?_
  refine rx1k 12 ?_
  refine re0 12 2 hH rfl (.st cByte ((sl8 (b i) 1) ||| (sr8 (b (i + 1)) 7)) (room_1 (S := sBy) (C := (cArr 16)) rfl hi8) (arr_set0 (upF i (dbB b) (fun _ => 0)) ((sl8 (b i) 1) ||| (sr8 (b (i + 1)) 7)) hi8)) trivial (pgo [] (pgo [] (.nil _ []))) ?_
  clear hH
  rintro _ _ w rfl hH
  refine ⟨pnil, ?_⟩
  refine rxEnd (by kernel_rfl) ?_
  refine qxInN ?_
  refine qxThen ?_
  refine cxReg ?_
  refine zv (.add ((i + 1 : Nat) : Int)) 7 ?_
  refine zv .mv 1 ?_
  refine pxEnd ?_
  have he9 : (cArr 16).enc (upF (i + 1) (dbB b) (fun _ => 0)) = (cArr 16).enc (stF (upF i (dbB b) (fun _ => 0)) i ((sl8 (b i) 1) ||| (sr8 (b (i + 1)) 7))) := arr_congr (fun j _ => (congrFun (upF_step i (dbB b) _ (by unfold dbB; rw [if_neg (by omega)])) j).symm)
  replace hH : HH w0 [] [[bl g1 61 ((cArr 16).enc b)], [bl g2 61 ((cArr 16).enc (fun _ => 0))], [bl g3 61 ((cArr 16).enc (upF (i + 1) (dbB b) (fun _ => 0)))]] w := by rw [he9]; exact hH
  exact zR1 (i + 1) ⟨hH, (by omega)⟩ (by omega)
  refine cxExit ?_
  refine qxThenE ?_
  refine qxThenE ?_
  refine qxInE ?_
  refine qxThen ?_
  obtain rfl : i = 15 := by omega
  refine zr ?_
  have hi10 : 15 < 16 := by omega
  refine zv (.ia 1 16 15 (hi := hi10)) 3 ?_
  refine zs (hH.q 0 rfl) (.ld cByte (b 15) (fun _ hS => ((holds_blk0 hS).elt hi10))) 1 ?_
  refine zv (.lb 1 (u := (b 15))) 1 ?_
  have hi11 : 0 < 16 := by omega
  refine zv (.ia 1 16 0 (hi := hi11)) 8 ?_
  refine zs (hH.q 0 rfl) (.ld cByte (b 0) (fun _ hS => ((holds_blk0 hS).elt hi11))) 1 ?_
  refine zv (.rb 7 (u := (b 0))) 1 ?_
  refine zv (.ub ((sr8 (b 0) 7) * (135 : UInt8)) (u := (sr8 (b 0) 7)) (v := (135 : UInt8))) 1 ?_
  refine zv (.xb ((sl8 (b 15) 1) ^^^ ((sr8 (b 0) 7) * (135 : UInt8))) (u := (sl8 (b 15) 1)) (v := ((sr8 (b 0) 7) * (135 : UInt8)))) 3 ?_
  have hi12 : 15 < 16 := by omega
  refine zv (.ia 1 16 15 (hi := hi12)) 0 ?_
  refine ze0 2 hH rfl (.st cByte ((sl8 (b 15) 1) ^^^ ((sr8 (b 0) 7) * (135 : UInt8))) (room_1 (S := sBy) (C := (cArr 16)) rfl hi12) (arr_set0 (upF 15 (dbB b) (fun _ => 0)) ((sl8 (b 15) 1) ^^^ ((sr8 (b 0) 7) * (135 : UInt8))) hi12)) trivial ?_
  clear hH
  rintro _ _ w rfl hH
  refine zn ?_
  have he13 : (cArr 16).enc (dbB b) = (cArr 16).enc (stF (upF 15 (dbB b) (fun _ => 0)) 15 ((sl8 (b 15) 1) ^^^ ((sr8 (b 0) 7) * (135 : UInt8)))) := arr_congr (fun j hj => db_end hj)
  replace hH : HH w0 [] [[bl g1 61 ((cArr 16).enc b)], [bl g2 61 ((cArr 16).enc (fun _ => 0))], [bl g3 61 ((cArr 16).enc (dbB b))]] w := by rw [he13]; exact hH
  refine zr ?_
  refine zs (hH.q 2 rfl) (.ld (cArr 16) (dbB b) (fun _ hS => (holds_blk0 hS))) 7 ?_
  refine ze0 1 hH rfl (.sw (cArr 16) (fun _ => 0) (dbB b)) trivial ?_
  clear hH
  rintro _ _ w rfl hH
  refine zn ?_
  refine cxRet ?_
  refine qxRetC 1 (hH.blk 1 rfl) rfl rfl (by kernel_rfl) (Cod.size _ _) (by kernel_rfl) ?_
  exact ⟨rfl, HH.toBelow hH⟩

theorem sr_begin {t : Nat → UInt8} {j : Nat} : upF 16 (srB t) (fun _ => 0) j = ovr ((lst 16 t).take 24) (fun _ => 0) j := by
  unfold upF ovr srB
  rw [List.take_of_length_le (by rw [lst_len]; decide), lst_len]
  by_cases h : j < 16
  · rw [if_pos h, if_pos h, if_pos h, List.getD_eq_getElem?_getD, lst_get h]; rfl
  · rw [if_neg h, if_neg h]

set_option maxHeartbeats 8000000 in
theorem str_c (t : Nat → UInt8) : Pure Tryz.prog 62 #[((cArr 16).val t)] (fun _ => True) ((cArr 24).val (srB t)) := by
  refine pure_of (fn := Tryz.f62) Tryz.func62 rfl Tryz.ntmps62 (Nat.le_of_ble_eq_true rfl) rfl ?_
  intro w0 hH hR
  refine zr ?_
  refine zm hH (.bx (cArr 16) t) trivial 1 ?_
  clear hH
  rintro _ _ w ⟨g1, rfl, rfl⟩ hH
  refine zm hH (.al (cArr 24) (fun _ => 0)) trivial 0 ?_
  clear hH
  rintro _ _ w ⟨g2, rfl, rfl⟩ hH
  refine zn ?_
  refine zr ?_
  refine zm hH (.al (cArr 24) (fun _ => 0)) trivial 0 ?_
  clear hH
  rintro _ _ w ⟨g3, rfl, rfl⟩ hH
  refine zn ?_
  refine zx ?_
  replace hH := hH.drew
  refine rv 0 (v := (.slice (some ⟨g3, 0, none⟩) 24 24)) (fun _ _ hF => opSliceA (n := 24) (e := 5) (sz := 1) rfl (by kernel_rfl) (by kernel_rfl) (hF.ev 0 rfl)) 0 ?_
  refine rv 1 (v := (.slice (some ⟨g1, 0, none⟩) 16 16)) (fun _ _ hF => opSliceA (n := 16) (e := 5) (sz := 1) rfl (by kernel_rfl) (by kernel_rfl) (hF.ev 3 rfl)) 0 ?_
  refine rx1k 2 ?_
  refine re 2 2 hH rfl (fun _ hF => smCopyK (C := cByte) (m := (lst 16 t)) (e := 5) 16 rfl rfl (by kernel_rfl) (by kernel_rfl) (ltb rfl) (hF.ev 1 rfl) (hF.ev 0 rfl) (lst_len _ _) (by rw [Cod.size]; show 0 + 16 * 1 ≤ 24; omega) (arr_ovr _ _)) (vu_arr (hH.blk 0 rfl)) 3 (.nil _ []) ?_
  clear hH
  rintro _ _ w ⟨rfl, rfl⟩ hH
  refine ⟨pnil, ?_⟩
  refine rn ?_
  refine cxSeq ?_
  have he4 : (cArr 24).enc (upF 16 (srB t) (fun _ => 0)) = (cArr 24).enc (ovr ((lst 16 t).take 16) (fun _ => 0)) := arr_congr (fun j hj => sr_begin)
  replace hH : HH w0 [] [[bl g1 61 ((cArr 16).enc t)], [bl g2 98 ((cArr 24).enc (fun _ => 0))], [bl g3 98 ((cArr 24).enc (upF 16 (srB t) (fun _ => 0)))]] w := by rw [he4]; exact hH
  refine zr ?_
  refine zv .mv 1 ?_
  refine zn ?_
  refine cxBlock ?_
  have he5 : (cArr 24).enc (upF (16 + 0) (srB t) (fun _ => 0)) = (cArr 24).enc (upF 16 (srB t) (fun _ => 0)) := arr_congr (fun j _ => rfl)
  replace hH : HH w0 [] [[bl g1 61 ((cArr 16).enc t)], [bl g2 98 ((cArr 24).enc (fun _ => 0))], [bl g3 98 ((cArr 24).enc (upF (16 + 0) (srB t) (fun _ => 0)))]] w := by rw [he5]; exact hH
  refine zL1 (fun (i : Nat) => [(8, (.int .i64 (((i) : Nat) : Int))), (3, (.pointer (some ⟨g3, 0, none⟩))), (2, (.pointer (some ⟨g2, 0, none⟩))), (1, (.pointer (some ⟨g1, 0, none⟩)))]) (fun i w => HH w0 [] [[bl g1 61 ((cArr 16).enc t)], [bl g2 98 ((cArr 24).enc (fun _ => 0))], [bl g3 98 ((cArr 24).enc (upF (16 + i) (srB t) (fun _ => 0)))]] w ∧ (i ≤ 8)) (fun i => 8 - i) 0 ⟨hH, (Nat.zero_le _)⟩ ?_
  clear hH
  rintro i w ⟨hH, hi⟩
  refine zr ?_
  refine zv (.lt (i < 8)) 0 ?_
  refine zn ?_
  refine cxSeq ?_
  refine zP (fun hc6 => ?_) (fun hc6 => ?_)
  refine cxSkip ?_
  refine qxThen ?_
  refine cxSeq ?_
  refine cxBlock ?_
  refine zr ?_
  refine zv .mv 1 ?_
  refine zv .mv 1 ?_
  refine zn ?_
  refine cxRegX mixedOrders (by kernel_rfl) ?_
  replace hH := hH.drew
  refine rv 0 .mv 0 ?_
  refine rv 1 (.add ((16 + i : Nat) : Int)) 1 ?_
  refine rv 2 .mv 0 ?_
  have hi7 : i < 16 := by omega
  refine rv 3 (.ia 1 16 i (hi := hi7)) 1 ?_
  refine rld 4 (hH.q 0 rfl) (.ld cByte (t i) (fun _ hS => ((holds_blk0 hS).elt hi7))) 1 ?_
  refine rv 5 .mv 4 ?_
  refine rv 6 (.add ((i + 1 : Nat) : Int)) 1 ?_
  have hi8 : i + 1 < 16 := by omega
  refine rv 7 (.ia 1 16 (i + 1) (hi := hi8)) 1 ?_
  refine rld 8 (hH.q 0 rfl) (.ld cByte (t (i + 1)) (fun _ hS => ((holds_blk0 hS).elt hi8))) 1 ?_
  refine rv 9 (.xb ((t i) ^^^ (t (i + 1))) (u := (t i)) (v := (t (i + 1)))) 3 ?_
  have hi9 : 16 + i < 24 := by omega
  refine rv 10 (.ia 1 24 (16 + i) (hi := hi9)) 2 ?_
  refine rx1k 11 ?_
  refine re0 11 2 hH rfl (.st cByte ((t i) ^^^ (t (i + 1))) (room_1 (S := sBy) (C := (cArr 24)) rfl hi9) (arr_set0 (upF (16 + i) (srB t) (fun _ => 0)) ((t i) ^^^ (t (i + 1))) hi9)) trivial (pgo [] (pgo [] (.nil _ []))) ?_
  clear hH
  rintro _ _ w rfl hH
  refine ⟨pnil, ?_⟩
  refine rxEnd (by kernel_rfl) ?_
  refine qxInN ?_
  refine qxThen ?_
  refine cxReg ?_
  refine zv (.add ((i + 1 : Nat) : Int)) 7 ?_
  refine zv .mv 1 ?_
  refine pxEnd ?_
  have he10 : (cArr 24).enc (upF (16 + (i + 1)) (srB t) (fun _ => 0)) = (cArr 24).enc (stF (upF (16 + i) (srB t) (fun _ => 0)) (16 + i) ((t i) ^^^ (t (i + 1)))) := arr_congr (fun j _ => (congrFun (upF_step (16 + i) (srB t) _ sr_at) j).symm)
  replace hH : HH w0 [] [[bl g1 61 ((cArr 16).enc t)], [bl g2 98 ((cArr 24).enc (fun _ => 0))], [bl g3 98 ((cArr 24).enc (upF (16 + (i + 1)) (srB t) (fun _ => 0)))]] w := by rw [he10]; exact hH
  exact zR1 (i + 1) ⟨hH, (by omega)⟩ (by omega)
  refine cxExit ?_
  refine qxThenE ?_
  refine qxThenE ?_
  refine qxInE ?_
  refine qxThen ?_
  obtain rfl : i = 8 := by omega
  have he11 : (cArr 24).enc (srB t) = (cArr 24).enc (upF (16 + 8) (srB t) (fun _ => 0)) := arr_congr (fun j hj => (upF_lt _ _ hj).symm)
  replace hH : HH w0 [] [[bl g1 61 ((cArr 16).enc t)], [bl g2 98 ((cArr 24).enc (fun _ => 0))], [bl g3 98 ((cArr 24).enc (srB t))]] w := by rw [he11]; exact hH
  refine zr ?_
  refine zs (hH.q 2 rfl) (.ld (cArr 24) (srB t) (fun _ hS => (holds_blk0 hS))) 23 ?_
  refine ze0 1 hH rfl (.sw (cArr 24) (fun _ => 0) (srB t)) trivial ?_
  clear hH
  rintro _ _ w rfl hH
  refine zn ?_
  refine cxRet ?_
  refine qxRetC 1 (hH.blk 1 rfl) rfl rfl (by kernel_rfl) (Cod.size _ _) (by kernel_rfl) ?_
  exact ⟨rfl, HH.toBelow hH⟩

set_option maxHeartbeats 8000000 in
theorem cutf_c (s : Nat → UInt8) (b : Nat) (hb : b < 64) : Pure Tryz.prog 61 #[((cArr 24).val s), (.int .i64 (((b) : Nat) : Int))] (fun _ => True) ((cArr 16).val (ctB s b)) := by
  refine pure_of (fn := Tryz.f61) Tryz.func61 rfl Tryz.ntmps61 (Nat.le_of_ble_eq_true rfl) rfl ?_
  intro w0 hH hR
  refine zr ?_
  refine zm hH (.bx (cArr 24) s) trivial 1 ?_
  clear hH
  rintro _ _ w ⟨g1, rfl, rfl⟩ hH
  refine zm hH (.al (cArr 16) (fun _ => 0)) trivial 0 ?_
  clear hH
  rintro _ _ w ⟨g2, rfl, rfl⟩ hH
  refine zn ?_
  refine zr ?_
  refine zm hH (.al (cArr 16) (fun _ => 0)) trivial 0 ?_
  clear hH
  rintro _ _ w ⟨g3, rfl, rfl⟩ hH
  refine zn ?_
  refine cxSeq ?_
  refine zr ?_
  refine zv .mv 0 ?_
  refine zn ?_
  refine cxBlock ?_
  have he4 : (cArr 16).enc (upF 0 (ctB s b) (fun _ => 0)) = (cArr 16).enc (fun _ => 0) := arr_congr (fun j _ => by rw [upF_zero])
  replace hH : HH w0 [] [[bl g1 98 ((cArr 24).enc s)], [bl g2 61 ((cArr 16).enc (fun _ => 0))], [bl g3 61 ((cArr 16).enc (upF 0 (ctB s b) (fun _ => 0)))]] w := by rw [he4]; exact hH
  refine zL1 (fun (i : Nat) => [(8, (.int .i64 (((i) : Nat) : Int))), (5, (.pointer (some ⟨g3, 0, none⟩))), (4, (.pointer (some ⟨g2, 0, none⟩))), (2, (.pointer (some ⟨g1, 0, none⟩))), (1, (.int .i64 (((b) : Nat) : Int)))]) (fun i w => HH w0 [] [[bl g1 98 ((cArr 24).enc s)], [bl g2 61 ((cArr 16).enc (fun _ => 0))], [bl g3 61 ((cArr 16).enc (upF i (ctB s b) (fun _ => 0)))]] w ∧ (i ≤ 16)) (fun i => 16 - i) 0 ⟨hH, (Nat.zero_le _)⟩ ?_
  clear hH
  rintro i w ⟨hH, hi⟩
  refine zr ?_
  refine zv (.lt (i < 16)) 0 ?_
  refine zn ?_
  refine cxSeq ?_
  refine zP (fun hc5 => ?_) (fun hc5 => ?_)
  refine cxSkip ?_
  refine qxThen ?_
  refine cxSeq ?_
  refine cxBlock ?_
  refine zr ?_
  refine zv .mv 1 ?_
  refine zv .mv 1 ?_
  refine zn ?_
  refine zr ?_
  refine zv .mv 0 ?_
  refine zv (v := (.int .i64 (((b / 8) : Nat) : Int))) (fun _ _ hF => opQuo (z := ((b / 8 : Nat) : Int)) rfl (hF.ev 0 rfl) rfl (by omega) (wI quoN (by omega) (by omega))) 1 ?_
  refine zv .mv 0 ?_
  refine zv (.add (((b / 8) + i : Nat) : Int)) 3 ?_
  refine zv .mv 1 ?_
  refine zn ?_
  refine cxRegX mixedOrders (by kernel_rfl) ?_
  replace hH := hH.drew
  refine rv 0 .mv 2 ?_
  refine rv 1 .mv 0 ?_
  have hi6 : (b / 8) + i < 24 := by omega
  refine rv 2 (.ia 1 24 ((b / 8) + i) (hi := hi6)) 1 ?_
  refine rld 3 (hH.q 0 rfl) (.ld cByte (s ((b / 8) + i)) (fun _ hS => ((holds_blk0 hS).elt hi6))) 1 ?_
  refine rv 4 .mv 0 ?_
  refine rv 5 (v := (.int .i64 (((b % 8) : Nat) : Int))) (fun _ _ hF => opRem (z := ((b % 8 : Nat) : Int)) rfl (hF.ev 0 rfl) rfl (by omega) remN) 1 ?_
  refine rv 6 (.lb (b % 8) (u := (s ((b / 8) + i)))) 3 ?_
  refine rv 7 .mv 4 ?_
  refine rv 8 (.add ((((b / 8) + i) + 1 : Nat) : Int)) 1 ?_
  have hi7 : ((b / 8) + i) + 1 < 24 := by omega
  refine rv 9 (.ia 1 24 (((b / 8) + i) + 1) (hi := hi7)) 1 ?_
  refine rld 10 (hH.q 0 rfl) (.ld cByte (s (((b / 8) + i) + 1)) (fun _ hS => ((holds_blk0 hS).elt hi7))) 1 ?_
  refine rv 11 .mv 0 ?_
  refine rv 12 (v := (.int .i64 (((b % 8) : Nat) : Int))) (fun _ _ hF => opRem (z := ((b % 8 : Nat) : Int)) rfl (hF.ev 0 rfl) rfl (by omega) remN) 1 ?_
  refine rv 13 (.sub (((8 - b % 8) : Nat) : Int)) 1 ?_
  refine rv 14 (.rb (8 - b % 8) (u := (s (((b / 8) + i) + 1)))) 3 ?_
  refine rv 15 (.ob ((sl8 (s ((b / 8) + i)) (b % 8)) ||| (sr8 (s (((b / 8) + i) + 1)) (8 - b % 8))) (u := (sl8 (s ((b / 8) + i)) (b % 8))) (v := (sr8 (s (((b / 8) + i) + 1)) (8 - b % 8)))) 3 ?_
  have hi8 : i < 16 := by omega
  refine rv 16 (.ia 1 16 i (hi := hi8)) 2 ?_
  refine rx1k 17 ?_
  refine re0 17 2 hH rfl (.st cByte ((sl8 (s ((b / 8) + i)) (b % 8)) ||| (sr8 (s (((b / 8) + i) + 1)) (8 - b % 8))) (room_1 (S := sBy) (C := (cArr 16)) rfl hi8) (arr_set0 (upF i (ctB s b) (fun _ => 0)) ((sl8 (s ((b / 8) + i)) (b % 8)) ||| (sr8 (s (((b / 8) + i) + 1)) (8 - b % 8))) hi8)) trivial (pgo [] (pgo [] (.nil _ []))) ?_
  clear hH
  rintro _ _ w rfl hH
  refine ⟨pnil, ?_⟩
  refine rxEnd (by kernel_rfl) ?_
  refine qxInN ?_
  refine qxThen ?_
  refine cxReg ?_
  refine zv (.add ((i + 1 : Nat) : Int)) 7 ?_
  refine zv .mv 1 ?_
  refine pxEnd ?_
  have he9 : (cArr 16).enc (upF (i + 1) (ctB s b) (fun _ => 0)) = (cArr 16).enc (stF (upF i (ctB s b) (fun _ => 0)) i ((sl8 (s ((b / 8) + i)) (b % 8)) ||| (sr8 (s (((b / 8) + i) + 1)) (8 - b % 8)))) := arr_congr (fun j _ => (congrFun (upF_step i (ctB s b) (fun _ => 0) (rfl)) j).symm)
  replace hH : HH w0 [] [[bl g1 98 ((cArr 24).enc s)], [bl g2 61 ((cArr 16).enc (fun _ => 0))], [bl g3 61 ((cArr 16).enc (upF (i + 1) (ctB s b) (fun _ => 0)))]] w := by rw [he9]; exact hH
  exact zR1 (i + 1) ⟨hH, (by omega)⟩ (by omega)
  refine cxExit ?_
  refine qxThenE ?_
  refine qxThenE ?_
  refine qxInE ?_
  refine qxThen ?_
  obtain rfl : i = 16 := by omega
  have he10 : (cArr 16).enc (ctB s b) = (cArr 16).enc (upF 16 (ctB s b) (fun _ => 0)) := arr_congr (fun j hj => (upF_lt _ _ hj).symm)
  replace hH : HH w0 [] [[bl g1 98 ((cArr 24).enc s)], [bl g2 61 ((cArr 16).enc (fun _ => 0))], [bl g3 61 ((cArr 16).enc (ctB s b))]] w := by rw [he10]; exact hH
  refine zr ?_
  refine zs (hH.q 2 rfl) (.ld (cArr 16) (ctB s b) (fun _ hS => (holds_blk0 hS))) 55 ?_
  refine ze0 1 hH rfl (.sw (cArr 16) (fun _ => 0) (ctB s b)) trivial ?_
  clear hH
  rintro _ _ w rfl hH
  refine zn ?_
  refine cxRet ?_
  refine qxRetC 1 (hH.blk 1 rfl) rfl rfl (by kernel_rfl) (Cod.size _ _) (by kernel_rfl) ?_
  exact ⟨rfl, HH.toBelow hH⟩

set_option maxHeartbeats 8000000 in
theorem pad_c (A : Option Addr) (c : Nat) (l : List UInt8) (hl : l.length ≤ 16) : Pure Tryz.prog 83 #[(.slice A l.length c)] (fun w => Vu cByte w A l.length c l) ((cArr 16).val (pdB l.length (cutF l 0))) := by
  refine pure_of (fn := Tryz.f83) Tryz.func83 rfl Tryz.ntmps83 (Nat.le_of_ble_eq_true rfl) rfl ?_
  intro w0 hH hR
  refine zr ?_
  refine zm hH (.al (cArr 16) (fun _ => 0)) trivial 0 ?_
  clear hH
  rintro _ _ w ⟨g1, rfl, rfl⟩ hH
  refine zn ?_
  refine zr ?_
  refine zm hH (.al (cArr 16) (fun _ => 0)) trivial 0 ?_
  clear hH
  rintro _ _ w ⟨g2, rfl, rfl⟩ hH
  refine zn ?_
  refine zr ?_
  refine zv (v := (.slice (some ⟨g2, 0, none⟩) 16 16)) (fun _ _ hF => opSliceA (n := 16) (e := 5) (sz := 1) rfl (by kernel_rfl) (by kernel_rfl) (hF.ev 0 rfl)) 0 ?_
  refine zv .mv 0 ?_
  refine ze 1 hH rfl (fun _ hF => smCopyK (C := cByte) (m := l) (e := 5) l.length (show min l.length 16 = l.length by omega) rfl (by kernel_rfl) (by kernel_rfl) (ltb rfl) (hF.ev 1 rfl) (hF.ev 0 rfl) rfl (by rw [Cod.size]; show 0 + l.length * 1 ≤ 16; omega) (arr_ovr _ _)) (hH.vu hR (by decide) (Off.nil _ _)) 3 ?_
  clear hH
  rintro _ _ w ⟨rfl, rfl⟩ hH
  refine zn ?_
  refine cxSeq ?_
  refine zr ?_
  refine zv .mv 1 ?_
  refine zv .len 1 ?_
  refine zv (.lt (l.length < 16)) 1 ?_
  refine zn ?_
  refine zP (fun hc3 => ?_) (fun hc3 => ?_)
  refine cxReg ?_
  refine zv .mv 9 ?_
  refine zv .len 1 ?_
  have hi4 : l.length < 16 := by omega
  refine zv (.ia 1 16 l.length (hi := hi4)) 1 ?_
  refine ze0 1 hH rfl (.st cByte 128 (room_1 (S := sBy) (C := (cArr 16)) rfl hi4) (arr_set0 (ovr (l.take l.length) (fun _ => 0)) 128 hi4)) trivial ?_
  clear hH
  rintro _ _ w rfl hH
  refine zn ?_
  have he5 : (cArr 16).enc (pdB l.length (cutF l 0)) = (cArr 16).enc (stF (ovr (l.take l.length) (fun _ => 0)) l.length 128) := arr_congr (fun j _ => pd_part hc3 j)
  replace hH : HH w0 [] [[bl g1 61 ((cArr 16).enc (fun _ => 0))], [bl g2 61 ((cArr 16).enc (pdB l.length (cutF l 0)))]] w := by rw [he5]; exact hH
  refine zr ?_
  refine zs (hH.q 1 rfl) (.ld (cArr 16) (pdB l.length (cutF l 0)) (fun _ hS => (holds_blk0 hS))) 3 ?_
  refine ze0 0 hH rfl (.sw (cArr 16) (fun _ => 0) (pdB l.length (cutF l 0))) trivial ?_
  clear hH
  rintro _ _ w rfl hH
  refine zn ?_
  refine cxRet ?_
  refine qxRetC 1 (hH.blk 0 rfl) rfl rfl (by kernel_rfl) (Cod.size _ _) (by kernel_rfl) ?_
  exact ⟨rfl, HH.toBelow hH⟩
  refine cxSkip ?_
  refine qxThen ?_
  have he6 : (cArr 16).enc (pdB l.length (cutF l 0)) = (cArr 16).enc (ovr (l.take l.length) (fun _ => 0)) := arr_congr (fun j hj => pd_full hl hj hc3)
  replace hH : HH w0 [] [[bl g1 61 ((cArr 16).enc (fun _ => 0))], [bl g2 61 ((cArr 16).enc (pdB l.length (cutF l 0)))]] w := by rw [he6]; exact hH
  refine zr ?_
  refine zs (hH.q 1 rfl) (.ld (cArr 16) (pdB l.length (cutF l 0)) (fun _ hS => (holds_blk0 hS))) 11 ?_
  refine ze0 0 hH rfl (.sw (cArr 16) (fun _ => 0) (pdB l.length (cutF l 0))) trivial ?_
  clear hH
  rintro _ _ w rfl hH
  refine zn ?_
  refine cxRet ?_
  refine qxRetC 1 (hH.blk 0 rfl) rfl rfl (by kernel_rfl) (Cod.size _ _) (by kernel_rfl) ?_
  exact ⟨rfl, HH.toBelow hH⟩
end Go.Proofs.YtfloiekaiiapnaaGreatDoor

namespace Go.Proofs.YtfloiekaiiapnaaGreatDoor
open Go Go.RowKit
set_option maxRecDepth 100000

abbrev cMk := cPair cSl (cPair (cArr 16) (cArr 16))
abbrev cWk := cPair cMk (cPair (cArr 16) (cNat .u64))
theorem pad_n (A : Option Addr) (n c : Nat) (l : List UInt8) (hl : n ≤ 16) : Pure Tryz.prog 83 #[(.slice A n c)] (fun w => Vu cByte w A n c l) ((cArr 16).val (pdB n (cutF l 0))) := fun w hR => by
  obtain rfl : l.length = n := hR.len
  exact pad_c A c l hl w hR
theorem btm_lt (N : List UInt8) : btm N < 64 := by
  unfold btm
  rw [UInt8.toNat_and]
  exact Nat.lt_of_le_of_lt Nat.and_le_right (by decide)
/-- The table of math/bits. -/
def dbF (i : Nat) : UInt8 := UInt8.ofNat (Lib.deBruijn64tab.getD i 0)

theorem tz_low {x : Nat} (h0 : 0 < x) (hx : x < 18446744073709551616) : x &&& (18446744073709551616 - x) = 2 ^ Lib.ctz 64 x := (Lib.lowest_bit 64 x (by omega) hx).1
theorem tz_at {x : Nat} (h0 : 0 < x) (hx : x < 18446744073709551616) : 2 ^ Lib.ctz 64 x * 285870213051353865 % 18446744073709551616 / 288230376151711744 < 64 ∧ (dbF (2 ^ Lib.ctz 64 x * 285870213051353865 % 18446744073709551616 / 288230376151711744)).toNat = Lib.ctz 64 x := by
  obtain ⟨hlow, hk⟩ := Lib.lowest_bit 64 x (by omega) hx
  obtain ⟨hi, htab⟩ := Lib.deBruijn64_at _ hk
  refine ⟨hi, ?_⟩
  unfold dbF
  rw [htab, UInt8.toNat_ofNat', Nat.mod_eq_of_lt (by omega)]

set_option maxHeartbeats 8000000 in
theorem tz64_c (x : Nat) (h0 : 0 < x) (hx : x < 18446744073709551616) : Pure Tryz.prog 103 #[(.int .u64 (((x) : Nat) : Int))] (fun w => w.heap[4]? = some (.cells ((cArr 64).enc dbF) 104 (0, 0))) (.int .i64 (((Lib.ctz 64 x) : Nat) : Int)) := by
  refine pure_of (fn := Tryz.f103) Tryz.func103 rfl Tryz.ntmps103 (Nat.le_of_ble_eq_true rfl) rfl ?_
  intro w0 hH hR
  refine zr ?_
  refine zv .mv 0 ?_
  refine zn ?_
  refine cxSeq ?_
  refine zr ?_
  refine zv .mv 1 ?_
  refine zv (v := (.bool false)) (fun _ _ hF => opEqI rfl (hF.ev 0 rfl) rfl (decide_eq_false (by omega))) 1 ?_
  refine zn ?_
  refine zF ?_
  refine cxSkip ?_
  refine qxThen ?_
  refine zr ?_
  refine zv .mv 1 ?_
  refine zv .mv 2 ?_
  refine zv (v := (.int .u64 (((18446744073709551616 - x) : Nat) : Int))) (fun _ _ hF => opNegI (z := ((18446744073709551616 - x : Nat) : Int)) rfl (hF.ev 0 rfl) (by rw [IntKind.wrap_u64]; omega)) 1 ?_
  refine zv (v := (.int .u64 (((2 ^ Lib.ctz 64 x) : Nat) : Int))) (fun _ _ hF => opAndU (m := x) (j := 18446744073709551616 - x) (z := (2 ^ Lib.ctz 64 x)) rfl rfl (hF.ev 1 rfl) (hF.ev 0 rfl) (by show _ < 18446744073709551616; omega) (by show _ < 18446744073709551616; omega) (tz_low h0 hx)) 3 ?_
  refine zv (v := (.int .u64 (((2 ^ Lib.ctz 64 x * 285870213051353865 % 18446744073709551616) : Nat) : Int))) (fun _ _ hF => opMulU (m := 2 ^ Lib.ctz 64 x) (j := 285870213051353865) (z := (2 ^ Lib.ctz 64 x * 285870213051353865 % 18446744073709551616)) rfl rfl (hF.ev 0 rfl) rfl (rfl)) 1 ?_
  refine zv (v := (.int .u64 (((2 ^ Lib.ctz 64 x * 285870213051353865 % 18446744073709551616 / 288230376151711744) : Nat) : Int))) (fun _ _ hF => opShrU (n := 58) (z := (2 ^ Lib.ctz 64 x * 285870213051353865 % 18446744073709551616 / 288230376151711744)) rfl (hF.ev 0 rfl) rfl (leb rfl) (rfl)) 1 ?_
  have hi1 : 2 ^ Lib.ctz 64 x * 285870213051353865 % 18446744073709551616 / 288230376151711744 < 64 := (tz_at h0 hx).1
  refine zv (.ia 1 64 (2 ^ Lib.ctz 64 x * 285870213051353865 % 18446744073709551616 / 288230376151711744) (hi := hi1)) 1 ?_
  refine zs (hH.ob hR) (.ld cByte (dbF (2 ^ Lib.ctz 64 x * 285870213051353865 % 18446744073709551616 / 288230376151711744)) (fun _ hS => ((holds_blk0 hS).elt hi1))) 1 ?_
  have hb := (tz_at h0 hx).2
  have hk := (Lib.lowest_bit 64 x (by omega) hx).2
  refine zv .ci 1 ?_
  refine zv .mv 1 ?_
  refine zn ?_
  refine cxRet ?_
  refine qxRet1 0 rfl rfl ?_
  exact ⟨by rw [hb], HH.toBelow hH⟩

set_option maxHeartbeats 8000000 in
theorem tz_c (x : Nat) (h0 : 0 < x) (hx : x < 18446744073709551616) : Pure Tryz.prog 91 #[(.int .u64 (((x) : Nat) : Int))] (fun w => w.heap[4]? = some (.cells ((cArr 64).enc dbF) 104 (0, 0))) (.int .i64 (((Lib.ctz 64 x) : Nat) : Int)) := by
  refine pure_of (fn := Tryz.f91) Tryz.func91 rfl Tryz.ntmps91 (Nat.le_of_ble_eq_true rfl) rfl ?_
  intro w0 hH hR
  refine zr ?_
  refine zv .mv 0 ?_
  refine zn ?_
  refine cxSeq ?_
  refine zF ?_
  refine cxSkip ?_
  refine qxThen ?_
  refine zr ?_
  refine zv .mv 3 ?_
  refine zc Tryz.func103 (tz64_c x h0 hx) (hH.oldBlk hR (by simp)) hH 1 ?_
  clear hH
  intro w hH
  refine zv .mv 1 ?_
  refine zn ?_
  refine cxRet ?_
  refine qxRet1 0 rfl rfl ?_
  exact ⟨rfl, HH.toBelow hH⟩

set_option maxHeartbeats 8000000 in
theorem step_c (m : (Option Addr × Nat × Nat) × (Nat → UInt8) × (Nat → UInt8)) (x : Nat) (h0 : 0 < x) (hx : x < 18446744073709551616) : Pure Tryz.prog 79 #[(cMk.val m), (.int .u64 (((x) : Nat) : Int))] (fun w => w.heap[4]? = some (.cells ((cArr 64).enc dbF) 104 (0, 0))) ((cArr 16).val (stp m.2.2 x)) := by
  refine pure_of (fn := Tryz.f79) Tryz.func79 rfl Tryz.ntmps79 (Nat.le_of_ble_eq_true rfl) rfl ?_
  intro w0 hH hR
  have hc := (Lib.lowest_bit 64 x (by omega) hx).2
  refine zr ?_
  refine zm hH (.bx cMk m) trivial 1 ?_
  clear hH
  rintro _ _ w ⟨g1, rfl, rfl⟩ hH
  refine zm hH (.al (cArr 16) (fun _ => 0)) trivial 0 ?_
  clear hH
  rintro _ _ w ⟨g2, rfl, rfl⟩ hH
  refine zn ?_
  refine zr ?_
  refine zv (.fld 17) 2 ?_
  refine zs (hH.q 0 rfl) (.ld (cArr 16) m.2.2 (fun _ hS => ((holds_blk0 hS).snd).snd)) 1 ?_
  refine zc Tryz.func78 (dbl16_c m.2.2) trivial hH 1 ?_
  clear hH
  intro w hH
  refine zm hH (.al (cArr 16) (fun _ => 0)) trivial 0 ?_
  clear hH
  rintro _ _ w ⟨g3, rfl, rfl⟩ hH
  refine ze0 2 hH rfl (.sw (cArr 16) (fun _ => 0) (dbB m.2.2)) trivial ?_
  clear hH
  rintro _ _ w rfl hH
  refine zn ?_
  refine cxSeq ?_
  refine zr ?_
  refine zv .mv 10 ?_
  refine zc Tryz.func91 (tz_c x h0 hx) (hH.oldBlk hR (by simp)) hH 1 ?_
  clear hH
  intro w hH
  refine zv .mv 0 ?_
  refine zn ?_
  refine cxBlock ?_
  refine zL1 (fun (k : Nat) => [(11, (.int .i64 (((k) : Nat) : Int))), (10, (.int .i64 (((Lib.ctz 64 x) : Nat) : Int))), (5, (.pointer (some ⟨g3, 0, none⟩))), (4, (.pointer (some ⟨g2, 0, none⟩)))]) (fun k w => HH w0 [] [[bl g1 73 (cMk.enc m)], [bl g2 61 ((cArr 16).enc (fun _ => 0))], [bl g3 61 ((cArr 16).enc (dbs (k + 1) m.2.2))]] w ∧ (k ≤ Lib.ctz 64 x)) (fun k => Lib.ctz 64 x - k) 0 ⟨hH, (Nat.zero_le _)⟩ ?_
  clear hH
  rintro k w ⟨hH, hk⟩
  refine zr ?_
  refine zv (.lt (k < Lib.ctz 64 x)) 0 ?_
  refine zn ?_
  refine cxSeq ?_
  refine zP (fun hc4 => ?_) (fun hc4 => ?_)
  refine cxSkip ?_
  refine qxThen ?_
  refine cxSeq ?_
  refine cxBlock ?_
  refine cxReg ?_
  refine zs (hH.q 2 rfl) (.ld (cArr 16) (dbs (k + 1) m.2.2) (fun _ hS => (holds_blk0 hS))) 1 ?_
  refine zc Tryz.func78 (dbl16_c (dbs (k + 1) m.2.2)) trivial hH 1 ?_
  clear hH
  intro w hH
  refine ze0 2 hH rfl (.sw (cArr 16) (dbs (k + 1) m.2.2) (dbB (dbs (k + 1) m.2.2))) trivial ?_
  clear hH
  rintro _ _ w rfl hH
  refine pxEnd ?_
  refine qxInN ?_
  refine qxThen ?_
  refine cxReg ?_
  refine zv (.add ((k + 1 : Nat) : Int)) 3 ?_
  refine zv .mv 1 ?_
  refine pxEnd ?_
  exact zR1 (k + 1) ⟨hH, (by omega)⟩ (by omega)
  refine cxExit ?_
  refine qxThenE ?_
  refine qxThenE ?_
  refine qxInE ?_
  refine qxThen ?_
  obtain rfl : k = Lib.ctz 64 x := by omega
  refine zr ?_
  refine zs (hH.q 2 rfl) (.ld (cArr 16) (dbs ((Lib.ctz 64 x) + 1) m.2.2) (fun _ hS => (holds_blk0 hS))) 15 ?_
  refine ze0 1 hH rfl (.sw (cArr 16) (fun _ => 0) (dbs ((Lib.ctz 64 x) + 1) m.2.2)) trivial ?_
  clear hH
  rintro _ _ w rfl hH
  refine zn ?_
  refine cxRet ?_
  refine qxRetC 1 (hH.blk 1 rfl) rfl rfl (by kernel_rfl) (Cod.size _ _) (by kernel_rfl) ?_
  exact ⟨rfl, HH.toBelow hH⟩

set_option maxHeartbeats 8000000 in
theorem maeE_c (A : Option Addr) (z : Nat) (l : List UInt8) (hk : l.length = 16 ∨ l.length = 32) (st dl b : Nat → UInt8) : Pure Tryz.prog 45 #[(cMk.val ((A, l.length, z), st, dl)), ((cArr 16).val b)] (fun w => w.heap[2]? = some (.cells ((cArr 256).enc boxF) 105 (0, 0)) ∧ Vu cByte w A l.length z l) ((cArr 16).val (aeE l b)) := by
  refine pure_of (fn := Tryz.f45) Tryz.func45 rfl Tryz.ntmps45 (Nat.le_of_ble_eq_true rfl) rfl ?_
  intro w0 hH hR
  refine zr ?_
  refine zm hH (.bx cMk ((A, l.length, z), st, dl)) trivial 1 ?_
  clear hH
  rintro _ _ w ⟨g1, rfl, rfl⟩ hH
  refine zm hH (.bx (cArr 16) b) trivial 2 ?_
  clear hH
  rintro _ _ w ⟨g2, rfl, rfl⟩ hH
  refine zm hH (.al (cArr 16) (fun _ => 0)) trivial 0 ?_
  clear hH
  rintro _ _ w ⟨g3, rfl, rfl⟩ hH
  refine zn ?_
  refine zr ?_
  refine zv (.fld 0) 4 ?_
  refine zs (hH.q 0 rfl) (.ld cSl (A, l.length, z) (fun _ hS => (holds_blk0 hS).fst) (v := (.slice A l.length z))) 1 ?_
  refine zs (hH.q 1 rfl) (.ld (cArr 16) b (fun _ hS => (holds_blk0 hS))) 4 ?_
  refine zc Tryz.func65 (aeE_c A z l hk b) (⟨(hH.oldBlk hR.1 (by simp)), (hH.vu hR.2 (by decide) (Off.nil _ _))⟩) hH 3 ?_
  clear hH
  intro w hH
  refine zv .mv 1 ?_
  refine zv .ext 0 ?_
  refine zv .ext 2 ?_
  refine zm hH (.al (cArr 16) (fun _ => 0)) trivial 0 ?_
  clear hH
  rintro _ _ w ⟨g4, rfl, rfl⟩ hH
  refine ze0 3 hH rfl (.sw (cArr 16) (fun _ => 0) (aeE l b)) trivial ?_
  clear hH
  rintro _ _ w rfl hH
  refine zv .mv 6 ?_
  refine zn ?_
  refine zr ?_
  refine zs (hH.q 3 rfl) (.ld (cArr 16) (aeE l b) (fun _ hS => (holds_blk0 hS))) 3 ?_
  refine ze0 2 hH rfl (.sw (cArr 16) (fun _ => 0) (aeE l b)) trivial ?_
  clear hH
  rintro _ _ w rfl hH
  refine zn ?_
  refine cxRet ?_
  refine qxRetC 1 (hH.blk 2 rfl) rfl rfl (by kernel_rfl) (Cod.size _ _) (by kernel_rfl) ?_
  exact ⟨rfl, HH.toBelow hH⟩

set_option maxHeartbeats 8000000 in
theorem maeD_c (A : Option Addr) (z : Nat) (l : List UInt8) (hk : l.length = 16 ∨ l.length = 32) (st dl b : Nat → UInt8) : Pure Tryz.prog 73 #[(cMk.val ((A, l.length, z), st, dl)), ((cArr 16).val b)] (fun w => w.heap[2]? = some (.cells ((cArr 256).enc boxF) 105 (0, 0)) ∧ Vu cByte w A l.length z l) ((cArr 16).val (aeD l b)) := by
  refine pure_of (fn := Tryz.f73) Tryz.func73 rfl Tryz.ntmps73 (Nat.le_of_ble_eq_true rfl) rfl ?_
  intro w0 hH hR
  refine zr ?_
  refine zm hH (.bx cMk ((A, l.length, z), st, dl)) trivial 1 ?_
  clear hH
  rintro _ _ w ⟨g1, rfl, rfl⟩ hH
  refine zm hH (.bx (cArr 16) b) trivial 2 ?_
  clear hH
  rintro _ _ w ⟨g2, rfl, rfl⟩ hH
  refine zm hH (.al (cArr 16) (fun _ => 0)) trivial 0 ?_
  clear hH
  rintro _ _ w ⟨g3, rfl, rfl⟩ hH
  refine zn ?_
  refine zr ?_
  refine zv (.fld 0) 4 ?_
  refine zs (hH.q 0 rfl) (.ld cSl (A, l.length, z) (fun _ hS => (holds_blk0 hS).fst) (v := (.slice A l.length z))) 1 ?_
  refine zs (hH.q 1 rfl) (.ld (cArr 16) b (fun _ hS => (holds_blk0 hS))) 4 ?_
  refine zc Tryz.func87 (aeD_c A z l hk b) (⟨(hH.oldBlk hR.1 (by simp)), (hH.vu hR.2 (by decide) (Off.nil _ _))⟩) hH 3 ?_
  clear hH
  intro w hH
  refine zv .mv 1 ?_
  refine zv .ext 0 ?_
  refine zv .ext 2 ?_
  refine zm hH (.al (cArr 16) (fun _ => 0)) trivial 0 ?_
  clear hH
  rintro _ _ w ⟨g4, rfl, rfl⟩ hH
  refine ze0 3 hH rfl (.sw (cArr 16) (fun _ => 0) (aeD l b)) trivial ?_
  clear hH
  rintro _ _ w rfl hH
  refine zv .mv 6 ?_
  refine zn ?_
  refine zr ?_
  refine zs (hH.q 3 rfl) (.ld (cArr 16) (aeD l b) (fun _ hS => (holds_blk0 hS))) 3 ?_
  refine ze0 2 hH rfl (.sw (cArr 16) (fun _ => 0) (aeD l b)) trivial ?_
  clear hH
  rintro _ _ w rfl hH
  refine zn ?_
  refine cxRet ?_
  refine qxRetC 1 (hH.blk 2 rfl) rfl rfl (by kernel_rfl) (Cod.size _ _) (by kernel_rfl) ?_
  exact ⟨rfl, HH.toBelow hH⟩

set_option maxHeartbeats 8000000 in
theorem newM_c (A : Option Addr) (z : Nat) (l : List UInt8) (hk : l.length = 16 ∨ l.length = 32) : Pure Tryz.prog 60 #[(.slice A l.length z)] (fun w => w.heap[2]? = some (.cells ((cArr 256).enc boxF) 105 (0, 0)) ∧ Vu cByte w A l.length z l) (.tuple #[(cMk.val ((A, l.length, z), (ocSt l), (ocDl l))), (.int .i64 0)]) := by
  refine pure_of (fn := Tryz.f60) Tryz.func60 rfl Tryz.ntmps60 (Nat.le_of_ble_eq_true rfl) rfl ?_
  intro w0 hH hR
  refine zr ?_
  refine zm hH (.al cMk ((none, 0, 0), fun _ => 0, fun _ => 0)) trivial 0 ?_
  clear hH
  rintro _ _ w ⟨g1, rfl, rfl⟩ hH
  refine zv .mv 0 ?_
  refine zn ?_
  refine zr ?_
  refine zv .mv 1 ?_
  refine zv (v := ((cArr 16).val (fun _ => 0))) (fun _ _ hF => opBuildP (cells := (cArr 16).enc (fun _ => 0)) (vals := []) rfl EvP.nil (by kernel_rfl) _) 0 ?_
  refine zc Tryz.func65 (aeE_c A z l hk (fun _ => 0)) (⟨(hH.oldBlk hR.1 (by simp)), (hH.vu hR.2 (by decide) (Off.nil _ _))⟩) hH 3 ?_
  clear hH
  intro w hH
  refine zv .mv 1 ?_
  refine zv .ext 0 ?_
  refine zv .ext 2 ?_
  refine zm hH (.al (cArr 16) (fun _ => 0)) trivial 0 ?_
  clear hH
  rintro _ _ w ⟨g2, rfl, rfl⟩ hH
  refine ze0 1 hH rfl (.sw (cArr 16) (fun _ => 0) (aeE l (fun _ => 0))) trivial ?_
  clear hH
  rintro _ _ w rfl hH
  refine zv .mv 6 ?_
  refine zn ?_
  refine cxSeq ?_
  refine zr ?_
  refine zv .mv 0 ?_
  refine zv (v := (.bool false)) (fun _ _ hF => opNeI rfl (hF.ev 0 rfl) rfl (by decide)) 1 ?_
  refine zn ?_
  refine zF ?_
  refine cxSkip ?_
  refine qxThen ?_
  refine zx ?_
  replace hH := hH.drew
  refine rv 0 .mv 19 ?_
  refine rld 1 (hH.q 1 rfl) (.ld (cArr 16) (aeE l (fun _ => 0)) (fun _ hS => (holds_blk0 hS))) 0 ?_
  refine rld 2 (hH.q 1 rfl) (.ld (cArr 16) (aeE l (fun _ => 0)) (fun _ hS => (holds_blk0 hS))) 4 ?_
  refine rx1k 3 (rpc 3 Tryz.func78 (dbl16_c (aeE l (fun _ => 0))) trivial hH 1 (pgo [] (.keep (.nil _ []))) ?_)
  clear hH
  intro w hH
  refine ⟨pcons (hH.blk 1 rfl) pnil, ?_⟩
  refine rv 4 (v := (cMk.val ((A, l.length, z), (aeE l (fun _ => 0)), (dbB (aeE l (fun _ => 0)))))) (fun _ _ hF => opBuildP (cells := cMk.enc ((A, l.length, z), (aeE l (fun _ => 0)), (dbB (aeE l (fun _ => 0))))) rfl (EvP.cons (v := (.slice A l.length z)) (hF.ev 2 rfl) (EvP.cons (v := ((cArr 16).val (aeE l (fun _ => 0)))) (hF.ev 1 rfl) (EvP.cons (v := ((cArr 16).val (dbB (aeE l (fun _ => 0))))) (hF.ev 0 rfl) EvP.nil))) (built_3 (x := ((A, l.length, z), (aeE l (fun _ => 0)), (dbB (aeE l (fun _ => 0))))) (by kernel_rfl) rfl rfl rfl) _) 7 ?_
  refine rx1k 5 ?_
  refine re0 5 0 hH rfl (.sw cMk ((none, 0, 0), fun _ => 0, fun _ => 0) ((A, l.length, z), (aeE l (fun _ => 0)), (dbB (aeE l (fun _ => 0))))) trivial (pgo [] (.nil _ [])) ?_
  clear hH
  rintro _ _ w rfl hH
  refine ⟨pnil, ?_⟩
  refine rv 6 .mv 1 ?_
  refine rn ?_
  refine cxRet ?_
  refine qxRetCT 1 0 (hH.blk 0 rfl) rfl rfl rfl (by kernel_rfl) (Cod.size _ _) (by kernel_rfl) ?_
  exact ⟨rfl, HH.toBelow hH⟩
end Go.Proofs.YtfloiekaiiapnaaGreatDoor

namespace Go.Proofs.YtfloiekaiiapnaaGreatDoor
open Go Go.RowKit
set_option maxRecDepth 100000

theorem nc_is {N : List UInt8} (h1 : 1 ≤ N.length) (h15 : N.length ≤ 15) {j : Nat} (hj : j < 16) : ncB N j = ovA (16 - N.length) (N.take N.length) (stF (fun _ => 0) (15 - N.length) 1) j := by
  unfold ncB ovA stF cutF
  rw [List.take_length, Nat.zero_add]
  by_cases h : j < 15 - N.length
  · rw [if_pos h, if_neg (by omega), if_neg (by omega)]
  · rw [if_neg h]
    by_cases h2 : j = 15 - N.length
    · rw [if_pos h2, if_neg (by omega), if_pos h2]
    · rw [if_neg h2, if_pos (by omega)]

set_option maxHeartbeats 8000000 in
theorem fo_c (A : Option Addr) (z : Nat) (l : List UInt8) (hk : l.length = 16 ∨ l.length = 32) (st dl : Nat → UInt8) (B : Option Addr) (y : Nat) (N : List UInt8) (h1 : 1 ≤ N.length) (h15 : N.length ≤ 15) : Pure Tryz.prog 43 #[(cMk.val ((A, l.length, z), st, dl)), (.slice B N.length y)] (fun w => w.heap[2]? = some (.cells ((cArr 256).enc boxF) 105 (0, 0)) ∧ Vu cByte w A l.length z l ∧ Vu cByte w B N.length y N) ((cArr 16).val (of0 (aeE l) N)) := by
  refine pure_of (fn := Tryz.f43) Tryz.func43 rfl Tryz.ntmps43 (Nat.le_of_ble_eq_true rfl) rfl ?_
  intro w0 hH hR
  refine zr ?_
  refine zm hH (.bx cMk ((A, l.length, z), st, dl)) trivial 1 ?_
  clear hH
  rintro _ _ w ⟨g1, rfl, rfl⟩ hH
  refine zm hH (.al (cArr 16) (fun _ => 0)) trivial 0 ?_
  clear hH
  rintro _ _ w ⟨g2, rfl, rfl⟩ hH
  refine zn ?_
  refine zr ?_
  refine zm hH (.al (cArr 16) (fun _ => 0)) trivial 0 ?_
  clear hH
  rintro _ _ w ⟨g3, rfl, rfl⟩ hH
  refine zn ?_
  refine zr ?_
  refine zv .mv 0 ?_
  refine zv .len 1 ?_
  refine zv (.sub (((16 - N.length) : Nat) : Int)) 1 ?_
  refine zv .mv 1 ?_
  refine zn ?_
  refine zr ?_
  refine zv .mv 0 ?_
  refine zv (.sub (((15 - N.length) : Nat) : Int)) 1 ?_
  have hi4 : 15 - N.length < 16 := by omega
  refine zv (.ia 1 16 (15 - N.length) (hi := hi4)) 1 ?_
  refine ze0 2 hH rfl (.st cByte 1 (room_1 (S := sBy) (C := (cArr 16)) rfl hi4) (arr_set0 (fun _ => 0) 1 hi4)) trivial ?_
  clear hH
  rintro _ _ w rfl hH
  refine zn ?_
  refine zr ?_
  refine zv .mv 3 ?_
  refine zv (v := (.slice (some ⟨g3, 0 + (16 - N.length) * 1, none⟩) (16 - (16 - N.length)) (16 - (16 - N.length)))) (fun _ _ hF => opSliceAL (m := 16) (l := 16 - N.length) (e := 5) (sz := 1) rfl (by kernel_rfl) (by kernel_rfl) (hF.ev 1 rfl) (hF.ev 0 rfl) rfl (by omega)) 1 ?_
  refine zv .mv 16 ?_
  refine ze 2 hH rfl (fun _ hF => smCopyK (C := cByte) (m := N) (e := 5) N.length (show min N.length (16 - (16 - N.length)) = N.length by omega) rfl (by kernel_rfl) (by kernel_rfl) (ltb rfl) (hF.ev 1 rfl) (hF.ev 0 rfl) rfl (by rw [Cod.size]; show 0 + (16 - N.length) * 1 + N.length * 1 ≤ 16; omega) (arr_ovA (16 - N.length) _ _)) (hH.vu hR.2.2 (by decide) (Off.nil _ _)) 3 ?_
  clear hH
  rintro _ _ w ⟨rfl, rfl⟩ hH
  refine zn ?_
  have he5 : (cArr 16).enc (ncB N) = (cArr 16).enc (ovA (16 - N.length) (N.take N.length) (stF (fun _ => 0) (15 - N.length) 1)) := arr_congr (fun j hj => nc_is h1 h15 hj)
  replace hH : HH w0 [] [[bl g1 73 (cMk.enc ((A, l.length, z), st, dl))], [bl g2 61 ((cArr 16).enc (fun _ => 0))], [bl g3 61 ((cArr 16).enc (ncB N))]] w := by rw [he5]; exact hH
  have hbt : (ncB N 15 &&& 63).toNat < 64 := btm_lt N
  refine zr ?_
  have hi6 : 15 < 16 := by omega
  refine zv (.ia 1 16 15 (hi := hi6)) 1 ?_
  refine zs (hH.q 2 rfl) (.ld cByte ((ncB N) 15) (fun _ hS => ((holds_blk0 hS).elt hi6))) 1 ?_
  refine zv (.ab (((ncB N) 15) &&& (63 : UInt8)) (u := ((ncB N) 15)) (v := (63 : UInt8))) 1 ?_
  refine zv .ci 1 ?_
  refine zv .mv 1 ?_
  refine zn ?_
  refine zr ?_
  have hi7 : 15 < 16 := by omega
  refine zv (.ia 1 16 15 (hi := hi7)) 0 ?_
  refine zs (hH.q 2 rfl) (.ld cByte ((ncB N) 15) (fun _ hS => ((holds_blk0 hS).elt hi7))) 1 ?_
  refine zv (.nb (((ncB N) 15) &&& ~~~(63 : UInt8)) (u := ((ncB N) 15)) (v := (63 : UInt8))) 1 ?_
  have hi8 : 15 < 16 := by omega
  refine zv (.ia 1 16 15 (hi := hi8)) 0 ?_
  refine ze0 2 hH rfl (.st cByte (((ncB N) 15) &&& ~~~(63 : UInt8)) (room_1 (S := sBy) (C := (cArr 16)) rfl hi8) (arr_set0 (ncB N) (((ncB N) 15) &&& ~~~(63 : UInt8)) hi8)) trivial ?_
  clear hH
  rintro _ _ w rfl hH
  refine zn ?_
  have he9 : (cArr 16).enc (ncT N) = (cArr 16).enc (stF (ncB N) 15 (((ncB N) 15) &&& ~~~(63 : UInt8))) := arr_congr (fun j _ => rfl)
  replace hH : HH w0 [] [[bl g1 73 (cMk.enc ((A, l.length, z), st, dl))], [bl g2 61 ((cArr 16).enc (fun _ => 0))], [bl g3 61 ((cArr 16).enc (ncT N))]] w := by rw [he9]; exact hH
  refine zr ?_
  refine zs (hH.q 0 rfl) (.ld cMk ((A, l.length, z), st, dl) (fun _ hS => (holds_blk0 hS))) 35 ?_
  refine zs (hH.q 2 rfl) (.ld (cArr 16) (ncT N) (fun _ hS => (holds_blk0 hS))) 4 ?_
  refine zc Tryz.func45 (maeE_c A z l hk st dl (ncT N)) (⟨(hH.oldBlk hR.1 (by simp)), (hH.vu hR.2.1 (by decide) (Off.nil _ _))⟩) hH 3 ?_
  clear hH
  intro w hH
  refine zc Tryz.func62 (str_c (aeE l (ncT N))) trivial hH 1 ?_
  clear hH
  intro w hH
  refine zv .mv 2 ?_
  refine zc Tryz.func61 (cutf_c (srB (aeE l (ncT N))) ((((ncB N) 15) &&& (63 : UInt8)).toNat) (by first | omega | exact btm_lt _)) trivial hH 3 ?_
  clear hH
  intro w hH
  refine ze0 1 hH rfl (.sw (cArr 16) (fun _ => 0) (ctB (srB (aeE l (ncT N))) ((((ncB N) 15) &&& (63 : UInt8)).toNat))) trivial ?_
  clear hH
  rintro _ _ w rfl hH
  refine zn ?_
  refine cxRet ?_
  refine qxRetC 1 (hH.blk 1 rfl) rfl rfl (by kernel_rfl) (Cod.size _ _) (by kernel_rfl) ?_
  exact ⟨rfl, HH.toBelow hH⟩

set_option maxHeartbeats 8000000 in
theorem begin_c (A : Option Addr) (z : Nat) (l : List UInt8) (hk : l.length = 16 ∨ l.length = 32) (B : Option Addr) (y : Nat) (N : List UInt8) (h1 : 1 ≤ N.length) (h15 : N.length ≤ 15) : Pure Tryz.prog 42 #[(.slice A l.length z), (.slice B N.length y)] (fun w => w.heap[2]? = some (.cells ((cArr 256).enc boxF) 105 (0, 0)) ∧ Vu cByte w A l.length z l ∧ Vu cByte w B N.length y N) (.tuple #[(cMk.val ((A, l.length, z), (ocSt l), (ocDl l))), (.int .i64 0)]) := by
  refine pure_of (fn := Tryz.f42) Tryz.func42 rfl Tryz.ntmps42 (Nat.le_of_ble_eq_true rfl) rfl ?_
  intro w0 hH hR
  refine zr ?_
  refine zm hH (.al cMk ((none, 0, 0), fun _ => 0, fun _ => 0)) trivial 0 ?_
  clear hH
  rintro _ _ w ⟨g1, rfl, rfl⟩ hH
  refine zv .mv 0 ?_
  refine zn ?_
  refine cxSeq ?_
  refine zr ?_
  refine zv .mv 1 ?_
  refine zv .len 1 ?_
  refine zv (v := (.bool false)) (fun _ _ hF => opLss rfl (hF.ev 0 rfl) rfl (decide_eq_false (by omega))) 1 ?_
  refine zv .mv 1 ?_
  refine pxV (v := (.slice B N.length y)) (fun _ _ hF => opMove rfl (hF.ev 3 rfl)) rfl (gOn 0 rfl rfl rfl (by decide)) (kM [true, true, true, false] rfl rfl) (by decide) ?_
  refine pxV (v := (.int .i64 (((N.length) : Nat) : Int))) (fun _ _ hF => opLen (e := 5) rfl (by kernel_rfl) (hF.ev 0 rfl)) rfl (gOn 1 rfl rfl rfl (by decide)) (kM [false, true, true, true] rfl rfl) (by decide) ?_
  refine pxV (v := (.bool false)) (fun _ _ hF => opGtr rfl (hF.ev 0 rfl) rfl (decide_eq_false (by omega))) rfl (gOn 1 rfl rfl rfl (by decide)) (kM [false, true, true, true] rfl rfl) (by decide) ?_
  refine zv (v := (.bool false)) (fun _ _ hF => opPickF rfl (hF.ev 1 rfl) (hF.ev 0 rfl)) 3 ?_
  refine zn ?_
  refine zF ?_
  refine cxSkip ?_
  refine qxThen ?_
  refine zr ?_
  refine zv .mv 5 ?_
  refine zc Tryz.func60 (newM_c A z l hk) (⟨(hH.oldBlk hR.1 (by simp)), (hH.vu hR.2.1 (by decide) (Off.nil _ _))⟩) hH 1 ?_
  clear hH
  intro w hH
  refine zv .ext 0 ?_
  refine zv .ext 2 ?_
  refine ze0 0 hH rfl (.sw cMk ((none, 0, 0), fun _ => 0, fun _ => 0) ((A, l.length, z), (ocSt l), (ocDl l))) trivial ?_
  clear hH
  rintro _ _ w rfl hH
  refine zv .mv 3 ?_
  refine zn ?_
  refine cxRet ?_
  refine qxRetCT 1 0 (hH.blk 0 rfl) rfl rfl rfl (by kernel_rfl) (Cod.size _ _) (by kernel_rfl) ?_
  exact ⟨rfl, HH.toBelow hH⟩

set_option maxHeartbeats 8000000 in
theorem gow_c (g : Nat) (M : (Option Addr × Nat × Nat) × (Nat → UInt8) × (Nat → UInt8)) (o : Nat → UInt8) (n : Nat) (hn : n < 9223372036854775807) (B : Option Addr) (m c : Nat) (hm : 16 ≤ m) : Does Tryz.prog 63 #[(.pointer (some ⟨g, 0, none⟩)), (.slice B m c)] [bl g 78 (cWk.enc (M, o, n))] (fun w => w.heap[4]? = some (.cells ((cArr 64).enc dbF) 104 (0, 0))) (fun v E' => v = .tuple #[] ∧ E' = [bl g 78 (cWk.enc (M, added o (stp M.2.2 (n + 1)), n + 1))]) := by
  refine does_of (fn := Tryz.f63) Tryz.func63 rfl Tryz.ntmps63 (Nat.le_of_ble_eq_true rfl) rfl ?_
  intro w0 hH hR
  have hng := ne_ty hR (hH.blk 0 rfl) rfl
  replace hH : HH w0 [g] [[bl g 78 (cWk.enc (M, o, n))]] w0 := hH
  refine cxSeq ?_
  refine zr ?_
  refine zv .mv 2 ?_
  refine zv .len 1 ?_
  refine zv (v := (.bool false)) (fun _ _ hF => opLss rfl (hF.ev 0 rfl) rfl (decide_eq_false (by omega))) 1 ?_
  refine zn ?_
  refine zF ?_
  refine cxSkip ?_
  refine qxThen ?_
  refine zr ?_
  refine zv .mv 1 ?_
  refine zv .nc 0 ?_
  refine zv (.fld 49) 1 ?_
  refine zs (hH.q 0 rfl) (.ld (cNat .u64) n (fun _ hS => ((holds_blk0 hS).snd).snd)) 1 ?_
  refine zv (v := (.int .u64 (((n + 1) : Nat) : Int))) (fun _ _ hF => opAddU (m := n) (j := 1) (z := (n + 1)) rfl rfl (hF.ev 0 rfl) rfl (Nat.mod_eq_of_lt (by show _ < 18446744073709551616; omega))) 1 ?_
  refine zv .nc 2 ?_
  refine zv (.fld 49) 1 ?_
  refine ze0 0 hH rfl (fun _ hF => smStoreT (C := (cNat .u64)) (z := n + 1) rfl (hF.ev 0 rfl) (hF.ev 1 rfl) rfl (by kernel_rfl) (by rw [Cod.size]; exact leb rfl) (put_snd (put_snd (put_whole (cNat .u64) _ _) rfl) rfl)) trivial ?_
  clear hH
  rintro _ _ w rfl hH
  refine zn ?_
  refine cxRegX mixedOrders (by kernel_rfl) ?_
  replace hH := hH.drew
  refine rv 0 .mv 3 ?_
  refine rv 1 .mv 0 ?_
  refine rv 2 .nc 1 ?_
  refine rv 3 (.fld 33) 1 ?_
  refine rld 4 (hH.q 0 rfl) (.ld (cArr 16) o (fun _ hS => ((holds_blk0 hS).snd).fst)) 1 ?_
  refine rv 5 .mv 0 ?_
  refine rv 6 .nc 1 ?_
  refine rv 7 (.fld 0) 1 ?_
  refine rld 8 (hH.q 0 rfl) (.ld cMk M (fun _ hS => (holds_blk0 hS).fst)) 1 ?_
  refine rv 9 .mv 8 ?_
  refine rv 10 .nc 1 ?_
  refine rv 11 (.fld 49) 1 ?_
  refine rld 12 (hH.q 0 rfl) (.ld (cNat .u64) (n + 1) (fun _ hS => ((holds_blk0 hS).snd).snd)) 1 ?_
  refine rx1k 13 (rpc 13 Tryz.func79 (step_c M (n + 1) (by omega) (by omega)) (hH.oldBlk hR hng) hH 3 (pgo [] (pgo [] (.keep (.nil _ [])))) ?_)
  clear hH
  intro w hH
  refine ⟨pcons (hH.blk 0 rfl) pnil, ?_⟩
  refine rx1k 14 (rpc 14 Tryz.func64 (xor_c o (stp M.2.2 (n + 1))) trivial hH 3 (pgo [] (.nil _ [])) ?_)
  clear hH
  intro w hH
  refine ⟨pnil, ?_⟩
  refine rv 15 .nc 2 ?_
  refine rv 16 (.fld 33) 1 ?_
  refine rx1k 17 ?_
  refine re0 17 0 hH rfl (fun _ hF => smStoreT (C := (cArr 16)) (z := (added o (stp M.2.2 (n + 1)))) rfl (hF.ev 0 rfl) (hF.ev 1 rfl) rfl (by kernel_rfl) (by rw [Cod.size]; exact leb rfl) (put_snd (put_fst (put_whole (cArr 16) _ _) (by rw [Array.length_toList, Cod.size]; exact leb rfl)) rfl)) trivial (.nil _ []) ?_
  clear hH
  rintro _ _ w rfl hH
  refine ⟨pnil, ?_⟩
  refine rxEnd (by kernel_rfl) ?_
  refine qxEnd0 rfl ?_
  exact ⟨_, _, rfl, ⟨rfl, rfl⟩, hH.out1 [true] rfl⟩

set_option maxHeartbeats 8000000 in
theorem gor_c (g : Nat) (M : (Option Addr × Nat × Nat) × (Nat → UInt8) × (Nat → UInt8)) (o : Nat → UInt8) (n : Nat) (B : Option Addr) (m c : Nat) (hm : m < 16) : Does Tryz.prog 63 #[(.pointer (some ⟨g, 0, none⟩)), (.slice B m c)] [bl g 78 (cWk.enc (M, o, n))] (fun _ => True) (fun v E' => v = .tuple #[] ∧ E' = [bl g 78 (cWk.enc (M, added o M.2.1, n))]) := by
  refine does_of (fn := Tryz.f63) Tryz.func63 rfl Tryz.ntmps63 (Nat.le_of_ble_eq_true rfl) rfl ?_
  intro w0 hH hR
  replace hH : HH w0 [g] [[bl g 78 (cWk.enc (M, o, n))]] w0 := hH
  refine cxSeq ?_
  refine zr ?_
  refine zv .mv 2 ?_
  refine zv .len 1 ?_
  refine zv (v := (.bool true)) (fun _ _ hF => opLss rfl (hF.ev 0 rfl) rfl (decide_eq_true (by omega))) 1 ?_
  refine zn ?_
  refine zT ?_
  refine zx ?_
  replace hH := hH.drew
  refine rv 0 .mv 1 ?_
  refine rv 1 .mv 0 ?_
  refine rv 2 .nc 1 ?_
  refine rv 3 (.fld 33) 1 ?_
  refine rld 4 (hH.q 0 rfl) (.ld (cArr 16) o (fun _ hS => ((holds_blk0 hS).snd).fst)) 1 ?_
  refine rv 5 .mv 4 ?_
  refine rv 6 .nc 1 ?_
  refine rv 7 (.fld 0) 1 ?_
  refine rv 8 (.fld 1) 1 ?_
  refine rld 9 (hH.q 0 rfl) (.ld (cArr 16) M.2.1 (fun _ hS => (((holds_blk0 hS).fst).snd).fst)) 1 ?_
  refine rx1k 10 (rpc 10 Tryz.func64 (xor_c o M.2.1) trivial hH 3 (pgo [] (pgo [] (.nil _ []))) ?_)
  clear hH
  intro w hH
  refine ⟨pnil, ?_⟩
  refine rv 11 .nc 2 ?_
  refine rv 12 (.fld 33) 1 ?_
  refine rx1k 13 ?_
  refine re0 13 0 hH rfl (fun _ hF => smStoreT (C := (cArr 16)) (z := (added o M.2.1)) rfl (hF.ev 0 rfl) (hF.ev 1 rfl) rfl (by kernel_rfl) (by rw [Cod.size]; exact leb rfl) (put_snd (put_fst (put_whole (cArr 16) _ _) (by rw [Array.length_toList, Cod.size]; exact leb rfl)) rfl)) trivial (.nil _ []) ?_
  clear hH
  rintro _ _ w rfl hH
  refine ⟨pnil, ?_⟩
  refine rn ?_
  refine cxRet ?_
  refine qxThenR ?_
  refine qxRet0 rfl ?_
  exact ⟨_, _, rfl, ⟨rfl, rfl⟩, hH.out1 [true] rfl⟩
end Go.Proofs.YtfloiekaiiapnaaGreatDoor

namespace Go.Proofs.YtfloiekaiiapnaaGreatDoor
open Go Go.RowKit Go.Shelf
set_option maxRecDepth 100000

/-- How many bytes part i of n has. -/
def pl16 (n i : Nat) : Nat := min 16 (n - 16 * i)
/-- Part i of n bytes. -/
def pv16 (b off n i : Nat) : Value := .slice (some ⟨b, off + 16 * i, none⟩) (pl16 n i) (pl16 n i)
abbrev Pts16 (n : Nat) : Type := { i : Nat // 16 * i < n }
/-- Two blocks are as they were. -/
def Kp16 (B : Nat) (W W' : World) : Prop := W'.heap[B]? = W.heap[B]? ∧ W'.heap[B + 1]? = W.heap[B + 1]?
theorem Kp16.trans {B : Nat} {W W' W'' : World} (h : Kp16 B W W') (k : Kp16 B W' W'') : Kp16 B W W'' := ⟨k.1.trans h.1, k.2.trans h.2⟩
theorem Kp16.blk {B : Nat} {W W' : World} (h : Kp16 B W W') {t : TypeId} {cs : Array Value} (hb : Blk W B t cs) : Blk W' B t cs := h.1.trans hb
theorem Kp16.blk1 {B : Nat} {W W' : World} (h : Kp16 B W W') {t : TypeId} {cs : Array Value} (hb : Blk W (B + 1) t cs) : Blk W' (B + 1) t cs := h.2.trans hb

set_option maxHeartbeats 2000000 in
theorem chk16_c (A : Option Addr) (n c : Nat) (w : World) : Calls Tryz.prog 13 #[.slice A n c, .int .i64 16] w fun e w' =>
    e = .returned (.func (.func 28) #[] #[.pointer (some ⟨w.heap.size, 0, none⟩), .pointer (some ⟨w.heap.size + 1, 0, none⟩)]) ∧ w' = (w.alloc (.cells #[.slice A n c] 23)).alloc (.cells #[.int .i64 16] 3) := by
  go_enter Tryz.func13, Tryz.ntmps13
  go_wp2
  go_ret
  exact ⟨rfl, rfl⟩

theorem drew_gr16 (w : World) : w.grownBy w.drew none := ⟨rfl, rfl, rfl, Nat.le_refl _, fun _ _ _ => rfl⟩

set_option maxHeartbeats 2000000 in
theorem chk16_in (m l Bs b off n c : Nat) (A : Option Addr) (hm : 1 ≤ m) (hA : 0 < n → A = some ⟨b, off, none⟩) (hnc : n ≤ c) (hc : n ≤ 140737488355328) (J Jx : List (Pts16 n) → World → Prop)
    (hJd : ∀ s w, J s w → J s w.drew)
    (hY : ∀ pre x W, J pre W → pre.length < (n + 15) / 16 → YieldAt Fence.wide (m - 1) Tryz.prog l #[pv16 b off n x.1] W fun e W' =>
      (e = .returned (.bool true) ∧ J (pre ++ [x]) W' ∧ Kp16 Bs W W') ∨ (e = .returned (.bool false) ∧ Jx (pre ++ [x]) W'))
    (W : World) (h1 : Blk W Bs 23 #[.slice A n c]) (h2 : Blk W (Bs + 1) 3 #[.int .i64 16]) (h0 : J [] W) :
    CallsIn Fence.wide m Tryz.prog 28 #[.func (.yield l) #[] #[], .pointer (some ⟨Bs, 0, none⟩), .pointer (some ⟨Bs + 1, 0, none⟩)] W fun e W' => (∃ v, e = .returned v) ∧
      ((∃ ys, ys.map (·.1) = List.range ((n + 15) / 16) ∧ J ys W') ∨ (∃ pre, True ∧ Jx pre W')) := by
  refine callsIn_of_wp Tryz.func28 rfl trivial ?_ rfl
  simp only [Tryz.ntmps28, List.size_toArray, List.length_cons, List.length_nil, Nat.reduceAdd, Nat.reduceSub, Array.replicate_succ, Array.replicate_zero, List.push_toArray, List.append_toArray, List.nil_append, List.cons_append]
  gi_wp2
  gi_loopw [4] (fun i wr => ∃ (k : Nat) (ys : List (Pts16 n)), 16 * k < n + 16 ∧ i = .int .i64 (16 * (k : Int)) ∧ ys.map (·.1) = List.range k ∧ J ys wr ∧ Blk wr Bs 23 #[.slice A n c] ∧ Blk wr (Bs + 1) 3 #[.int .i64 16])
    (fun i _ => n + 16 - (intOf i).toNat)
  case atStart => exact ⟨0, [], by omega, rfl, rfl, h0, h1, h2⟩
  case round =>
    obtain ⟨k, ys, hk, rfl, hys, hJ, hb1, hb2⟩ := hrel
    have e1 : wr.cell? ⟨Bs, 0, none⟩ = some (.slice A n c) := hb1.cell 0
    have e2 : wr.cell? ⟨Bs + 1, 0, none⟩ = some (.int .i64 16) := hb2.cell 0
    by_cases hlt : 16 * k < n
    · obtain rfl := hA (by omega)
      have i1 : ((16 * k : Nat) : Int) < (n : Int) := by omega
      have i2 : 0 ≤ 16 * (k : Int) := by omega
      have i3 : 16 * (k : Int) ≤ (n : Int) := by omega
      have i4 : (16 * (k : Int)).toNat = 16 * k := by omega
      have i5 : ¬ c = 16 * k := by omega
      gi_wp2
      refine wpIn_wide.2 ?_
      refine region_seq (fun w' => J ys w' ∧ Blk w' Bs 23 #[.slice (some ⟨b, off, none⟩) n c] ∧ Blk w' (Bs + 1) 3 #[.int .i64 16]) (by kernel_rfl) (by kernel_rfl) (by simp) ⟨hJd _ _ hJ, hb1.drew, hb2.drew⟩ ?_
      clear hJ hb1 hb2 e1 e2
      iterate 6
        refine Seq.next ?_ (Sure.val rfl (fun w' hS => ?_)) ?_
        rotate_left 1
        · have e1 : w'.cell? ⟨Bs, 0, none⟩ = some (.slice (some ⟨b, off, none⟩) n c) := hS.2.1.cell 0
          have e2 : w'.cell? ⟨Bs + 1, 0, none⟩ = some (.int .i64 16) := hS.2.2.cell 0
          clear hS
          go_simp
          rfl
        simp only [Act.put, List.setIfInBounds_toArray, List.set_cons_zero, List.set_cons_succ]
      have hmin : (if ((n - 16 * k : Nat) : Int) < 16 then ((n - 16 * k : Nat) : Int) else 16) = ((pl16 n k : Nat) : Int) := by unfold pl16; split <;> omega
      have hmin2 : min (16 : Int) ((n - 16 * k : Nat) : Int) = ((pl16 n k : Nat) : Int) := by unfold pl16; omega
      first | rw [hmin] | rw [hmin2]
      have hp1 : 0 < pl16 n k ∧ pl16 n k ≤ 16 ∧ 16 * k + pl16 n k ≤ n := by unfold pl16; omega
      obtain ⟨e, he⟩ : ∃ e, e = pl16 n k := ⟨_, rfl⟩
      rw [← he] at hp1 ⊢
      have HE := Lib.hid he
      clear he hmin hmin2
      refine Seq.last rfl fun w' hS => ?_
      obtain ⟨hJ, hb1, hb2⟩ := hS
      have e1 : w'.cell? ⟨Bs, 0, none⟩ = some (.slice (some ⟨b, off, none⟩) n c) := hb1.cell 0
      have e2 : w'.cell? ⟨Bs + 1, 0, none⟩ = some (.int .i64 16) := hb2.cell 0
      obtain ⟨fn, tmps, assign, body, hy, hR⟩ := hY ys ⟨k, hlt⟩ w' hJ (by have h := congrArg List.length hys; simp at h; omega)
      simp only [pv16, ← HE.out] at hy
      obtain ⟨hp1, hp2, hp3⟩ := hp1
      have j1 : 16 * (k : Int) + (e : Int) ≤ (c : Int) := by omega
      have j2 : 16 * (k : Int) ≤ 16 * (k : Int) + (e : Int) := by omega
      have j3 : (16 * (k : Int) + (e : Int)).toNat = 16 * k + e := by omega
      have j4 : 0 ≤ 16 * (k : Int) + (e : Int) := by omega
      go_simp
      gi_wp2
      refine hR.mono ?_
      rintro e' W3 (⟨rfl, hJ3, hk3⟩ | ⟨rfl, hJx3⟩)
      · have hb3 := hk3.blk hb1
        have hb4 := hk3.blk1 hb2
        have e4 : W3.cell? ⟨Bs + 1, 0, none⟩ = some (.int .i64 16) := hb4.cell 0
        clear e1 e2 hy hR hb1 hb2
        have hys' : (ys ++ [(⟨k, hlt⟩ : Pts16 n)]).map (·.1) = List.range (k + 1) := by rw [List.map_append, hys, List.range_succ]; rfl
        gi_wp2
        go_roundw
        case rel => exact ⟨k + 1, _, by omega, by congr 1, hys', hJ3, hb3, hb4⟩
        case measure => simp [intOf]; omega
      · gi_wp2
        refine bodyPost_ret (results_none rfl _ _ _) rfl ?_
        exact ⟨⟨_, rfl⟩, .inr ⟨_, trivial, hJx3⟩⟩
    · have i1 : ¬ (16 * (k : Int)) < (n : Int) := by omega
      have hkk : k = (n + 15) / 16 := by omega
      gi_wp2
      go_end0
      exact ⟨⟨_, rfl⟩, .inl ⟨_, by rw [← hkk]; exact hys, hJ⟩⟩

/-- What slices.Chunk answers has its contract: all parts, in order; a body that goes on keeps the two blocks. -/
theorem chk16_stops (m Bs b off n c : Nat) (A : Option Addr) (w : World) (hm : 1 ≤ m) (hA : 0 < n → A = some ⟨b, off, none⟩) (hnc : n ≤ c) (hc : n ≤ 140737488355328)
    (h1 : Blk w Bs 23 #[.slice A n c]) (h2 : Blk w (Bs + 1) 3 #[.int .i64 16]) :
    SeqStopsK Fence.wide m Tryz.prog 28 #[.pointer (some ⟨Bs, 0, none⟩), .pointer (some ⟨Bs + 1, 0, none⟩)] (fun x : Pts16 n => #[pv16 b off n x.1]) (Kp16 Bs)
      (fun ys => ys.map (·.1) = List.range ((n + 15) / 16)) (fun _ => True) ((n + 15) / 16) w := fun l J Jx W hW hJ _ hY h0 =>
  chk16_in m l Bs b off n c A hm hA hnc hc J Jx (fun s w h => hJ s w _ none h (drew_gr16 w) (fun _ h => by cases h)) hY W (h1.below hW h1.lt) (h2.below hW h2.lt) h0
end Go.Proofs.YtfloiekaiiapnaaGreatDoor

namespace Go.Proofs.YtfloiekaiiapnaaGreatDoor
open Go Go.RowKit

theorem snoc_ind {α : Type} {p : List α → Prop} (h0 : p []) (h1 : ∀ l x, p l → p (l ++ [x])) (l : List α) : p l := by
  rw [← List.reverse_reverse l]
  induction l.reverse with
  | nil => exact h0
  | cons x r ih => rw [List.reverse_cons]; exact h1 _ _ ih
theorem pl_whole {n i : Nat} (h : 16 * i + 16 ≤ n) : pl16 n i = 16 := by unfold pl16; omega
theorem pl_rest {n : Nat} : pl16 n (n / 16) = n % 16 := by unfold pl16; omega
theorem pl_le (n i : Nat) : pl16 n i ≤ 16 := by unfold pl16; omega
section
variable {C E : (Nat → UInt8) → Nat → UInt8} {st dl o : Nat → UInt8} {n : Nat} {l X : List UInt8}
/-- The next offset. -/
def nxO (st dl : Nat → UInt8) (n : Nat) (s : (Nat → UInt8) × Nat) (i : Nat) : (Nat → UInt8) × Nat := if pl16 n i < 16 then (added s.1 st, s.2) else (added s.1 (stp dl (s.2 + 1)), s.2 + 1)
def flO (st dl : Nat → UInt8) (n : Nat) (o : Nat → UInt8) (is : List Nat) : (Nat → UInt8) × Nat := is.foldl (nxO st dl n) (o, 0)
theorem flO_snoc (is : List Nat) (i : Nat) : flO st dl n o (is ++ [i]) = nxO st dl n (flO st dl n o is) i := by simp [flO]
theorem flO_le (is : List Nat) : (flO st dl n o is).2 ≤ is.length := by
  refine snoc_ind (p := fun is => (flO st dl n o is).2 ≤ is.length) (Nat.le_refl _) (fun is i ih => ?_) is
  rw [flO_snoc, List.length_append]
  unfold nxO
  split
  · show (flO st dl n o is).2 ≤ _; simp; omega
  · show (flO st dl n o is).2 + 1 ≤ _; simp; omega
theorem flO_range : ∀ t, 16 * t ≤ n → flO st dl n o (List.range t) = (ofs dl o t, t)
  | 0, _ => rfl
  | t + 1, h => by
    rw [List.range_succ, flO_snoc, flO_range t (by omega)]
    unfold nxO
    rw [pl_whole (by omega), if_neg (Nat.lt_irrefl _)]
    rfl
theorem parts_of (n : Nat) : (n + 15) / 16 = if n % 16 = 0 then n / 16 else n / 16 + 1 := by split <;> omega
theorem flO_all : flO st dl n o (List.range ((n + 15) / 16)) = (ofE st dl o n, n / 16) := by
  rw [parts_of]
  unfold ofE
  by_cases h : n % 16 = 0
  · rw [if_pos h, if_pos h, flO_range _ (by omega)]
  · rw [if_neg h, if_neg h, List.range_succ, flO_snoc, flO_range _ (by omega)]
    unfold nxO
    rw [pl_rest, if_pos (by omega)]
/-- A part as a block. -/
def prB (l : List UInt8) (i : Nat) : Nat → UInt8 := pdB (pl16 l.length i) (cutF l (16 * i))
theorem prB_whole {i : Nat} (h : 16 * i + 16 ≤ l.length) : E16 (prB l i) (cutF l (16 * i)) := fun j hj => by
  unfold prB pdB
  rw [pl_whole h, if_pos hj]
theorem prB_rest : prB l (l.length / 16) = pdB (l.length % 16) (cutF l (16 * (l.length / 16))) := by unfold prB; rw [pl_rest]
/-- The sum of parts. -/
def flS (l : List UInt8) (is : List Nat) : Nat → UInt8 := is.foldl (fun s i => added s (prB l i)) fun _ => 0
theorem flS_snoc (is : List Nat) (i : Nat) : flS l (is ++ [i]) = added (flS l is) (prB l i) := by simp [flS]
theorem flS_range : ∀ t, 16 * t ≤ l.length → E16 (flS l (List.range t)) (smW l t)
  | 0, _ => E16.refl _
  | t + 1, h => by
    rw [List.range_succ, flS_snoc]
    exact (flS_range t (by omega)).added (prB_whole (by omega))
theorem flS_all : E16 (flS l (List.range ((l.length + 15) / 16))) (smL l) := by
  rw [parts_of]
  unfold smL
  by_cases h : l.length % 16 = 0
  · rw [if_pos h, if_pos h]; exact flS_range _ (by omega)
  · rw [if_neg h, if_neg h, List.range_succ, flS_snoc, prB_rest]
    exact (flS_range _ (by omega)).added (E16.refl _)
/-- The HASH of parts: the offset, and the sum. -/
def flH (E : (Nat → UInt8) → Nat → UInt8) (st dl : Nat → UInt8) (l : List UInt8) : List Nat → Nat → UInt8 := fun is => (is.foldl (fun (s : List Nat × (Nat → UInt8)) i => (s.1 ++ [i], added s.2 (E (added (prB l i) (flO st dl l.length (fun _ => 0) (s.1 ++ [i])).1)))) (([] : List Nat), fun _ => 0)).2
theorem flH_fst (is js : List Nat) (x : Nat → UInt8) : (is.foldl (fun (s : List Nat × (Nat → UInt8)) i => (s.1 ++ [i], added s.2 (E (added (prB l i) (flO st dl l.length (fun _ => 0) (s.1 ++ [i])).1)))) (js, x)).1 = js ++ is := by
  induction is generalizing js x with
  | nil => simp
  | cons a r ih => rw [List.foldl_cons, ih]; simp
theorem flH_snoc (is : List Nat) (i : Nat) : flH E st dl l (is ++ [i]) = added (flH E st dl l is) (E (added (prB l i) (flO st dl l.length (fun _ => 0) (is ++ [i])).1)) := by
  unfold flH
  rw [List.foldl_append, List.foldl_cons, List.foldl_nil, flH_fst, List.nil_append]
theorem flH_range (hE : ∀ x y, E16 x y → E16 (E x) (E y)) : ∀ t, 16 * t ≤ l.length → E16 (flH E st dl l (List.range t)) (hsW E dl l t)
  | 0, _ => E16.refl _
  | t + 1, h => by
    rw [List.range_succ, flH_snoc, ← List.range_succ, flO_range _ h]
    exact (flH_range hE t (by omega)).added (hE _ _ ((prB_whole (by omega)).added (E16.refl _)))
theorem flH_all (hE : ∀ x y, E16 x y → E16 (E x) (E y)) : E16 (flH E st dl l (List.range ((l.length + 15) / 16))) (hsL E st dl l) := by
  rw [parts_of]
  unfold hsL
  by_cases h : l.length % 16 = 0
  · rw [if_pos h, if_pos h]; exact flH_range hE _ (by omega)
  · rw [if_neg h, if_neg h, List.range_succ, flH_snoc, prB_rest, ← List.range_succ]
    have := flO_all (st := st) (dl := dl) (o := fun _ => 0) (n := l.length)
    rw [parts_of, if_neg h] at this
    rw [this]
    unfold ofE
    rw [if_neg h]
    exact (flH_range hE _ (by omega)).added (E16.refl _)
/-- A text, its first n bytes gone through part by part. -/
def nxT (C E : (Nat → UInt8) → Nat → UInt8) (n : Nat) (o : Nat → UInt8) (X : List UInt8) (i : Nat) : List UInt8 :=
  if pl16 n i < 16 then X.take (16 * i) ++ (lst (pl16 n i) (added (cutF X (16 * i)) (E o)) ++ X.drop (16 * i + pl16 n i)) else X.take (16 * i) ++ (lst 16 (wb C o (cutF X (16 * i))) ++ X.drop (16 * i + 16))
def flT (C E : (Nat → UInt8) → Nat → UInt8) (st dl : Nat → UInt8) (n : Nat) (o : Nat → UInt8) (X : List UInt8) : List Nat → List UInt8 := fun is => (is.foldl (fun (s : List Nat × List UInt8) i => (s.1 ++ [i], nxT C E n (flO st dl n o (s.1 ++ [i])).1 s.2 i)) (([] : List Nat), X)).2
theorem flT_fst (is js : List Nat) (x : List UInt8) : (is.foldl (fun (s : List Nat × List UInt8) i => (s.1 ++ [i], nxT C E n (flO st dl n o (s.1 ++ [i])).1 s.2 i)) (js, x)).1 = js ++ is := by
  induction is generalizing js x with
  | nil => simp
  | cons a r ih => rw [List.foldl_cons, ih]; simp
theorem flT_snoc (is : List Nat) (i : Nat) : flT C E st dl n o X (is ++ [i]) = nxT C E n (flO st dl n o (is ++ [i])).1 (flT C E st dl n o X is) i := by
  unfold flT
  rw [List.foldl_append, List.foldl_cons, List.foldl_nil, flT_fst, List.nil_append]
theorem nxT_len {i : Nat} (hi : 16 * i < n) (hn : n ≤ X.length) : (nxT C E n o X i).length = X.length := by
  have hp : 16 * i + pl16 n i ≤ n := by unfold pl16; omega
  unfold nxT
  split
  · simp only [List.length_append, List.length_take, List.length_drop, lst_len]; omega
  · have : pl16 n i = 16 := by have := pl_le n i; omega
    simp only [List.length_append, List.length_take, List.length_drop, lst_len]; omega
theorem flT_len (hn : n ≤ X.length) (is : List Nat) (h : ∀ i ∈ is, 16 * i < n) : (flT C E st dl n o X is).length = X.length := by
  revert h
  refine snoc_ind (p := fun is => (∀ i ∈ is, 16 * i < n) → (flT C E st dl n o X is).length = X.length) (fun _ => rfl) (fun is i ih h => ?_) is
  have h2 := ih fun j hj => h j (by simp [hj])
  rw [flT_snoc, nxT_len (h i (by simp)) (by rw [h2]; exact hn), h2]
theorem cut_app {A B : List UInt8} {t j : Nat} (hA : A.length = t) (hB : X.drop t = B) : cutF (A ++ B) t j = cutF X t j := by
  unfold cutF
  rw [List.getD_eq_getElem?_getD, List.getD_eq_getElem?_getD, List.getElem?_append_right (by omega), ← hB, List.getElem?_drop, hA, show t + (t + j - t) = t + j by omega]
theorem cut_take {t j : Nat} (h : t + j < n) : cutF (X.take n) t j = cutF X t j := by
  unfold cutF
  rw [List.getD_eq_getElem?_getD, List.getD_eq_getElem?_getD, List.getElem?_take, if_pos h]
theorem drop_app {A B : List UInt8} {t k : Nat} (hA : A.length = t) (hB : X.drop t = B) : (A ++ B).drop (t + k) = X.drop (t + k) := by
  rw [List.drop_append, List.drop_eq_nil_of_le (by omega), List.nil_append, hA, ← hB, List.drop_drop]
  congr 1
  omega
theorem flT_range (hC : ∀ x y, E16 x y → E16 (C x) (C y)) (hn : n ≤ X.length) : ∀ t, 16 * t ≤ n → flT C E st dl n o X (List.range t) = thW C dl o (X.take n) t ++ X.drop (16 * t)
  | 0, _ => by show X = [] ++ X.drop 0; rw [List.drop_zero, List.nil_append]
  | t + 1, h => by
    rw [List.range_succ, flT_snoc, ← List.range_succ, flO_range _ h, flT_range hC hn t (by omega)]
    unfold nxT
    rw [pl_whole (by omega), if_neg (Nat.lt_irrefl _), List.take_left' (thW_len t), drop_app (thW_len t) rfl, thW, List.append_assoc]
    congr 2
    exact lst_congr fun j hj => wb_E16 hC (fun q hq => (cut_app (thW_len t) rfl).trans (cut_take (by omega)).symm) j hj
theorem flT_all (hC : ∀ x y, E16 x y → E16 (C x) (C y)) (hn : n ≤ X.length) : flT C E st dl n o X (List.range ((n + 15) / 16)) = thL C E st dl o (X.take n) ++ X.drop n := by
  have hl : (X.take n).length = n := by rw [List.length_take]; omega
  unfold thL
  rw [hl, parts_of]
  unfold thN
  by_cases h : n % 16 = 0
  · rw [if_pos h, flT_range hC hn _ (by omega), h, show 16 * (n / 16) = n by omega]
    show _ = (_ ++ []) ++ _
    rw [List.append_nil]
  · rw [if_neg h, List.range_succ, flT_snoc, ← List.range_succ, flT_range hC hn _ (by omega)]
    have := flO_all (st := st) (dl := dl) (o := o) (n := n)
    rw [parts_of, if_neg h] at this
    rw [this]
    unfold nxT ofE
    rw [pl_rest, if_pos (by omega), List.take_left' (thW_len _), drop_app (thW_len _) rfl, if_neg h, List.append_assoc, show 16 * (n / 16) + n % 16 = n by omega]
    congr 2
    exact lst_congr fun j hj => by
      show xr _ _ = xr _ _
      rw [cut_app (thW_len _) rfl, cut_take (by omega)]
end
end Go.Proofs.YtfloiekaiiapnaaGreatDoor

namespace Go.Proofs.YtfloiekaiiapnaaGreatDoor
open Go Go.RowKit

section
variable {P : Program} {w0 w w' : World} {R : List Nat} {Hs : List Hl} {E : Hl}
theorem does_ofM {n : Nat} {l : Slots} {fn : Func} {c : Code} {f : FuncId} {args : Array Value} {Rd : World → Prop} {post : Value → Hl → Prop} (hf : P.funcs[f]? = some fn) (hb : fn.body = some c) (hn : fn.ntmps = n) (hsz : args.size ≤ n) (hl : argsL 0 args.toList = l)
    (h : ∀ w, HH w (bks E) [E] w → Rd w → CX P (bodyPostM Fence.wide 3 P fn fun e w' => ∃ v E', e = .returned v ∧ post v E' ∧ Hold w (bks E) E' w') c ⟨n, []⟩ l w) : Does P f args E Rd post := fun w hE hR => by
  refine (callsIn_wide (n := 3)).1 ?_
  refine callsIn_of_wp_marks hf hb trivial (wpIn_wide.2 ?_) rfl
  refine h w hE.start hR _ ⟨?_, rfl, fun x hx => ?_⟩
  · simp [hn]; omega
  · subst hl
    obtain ⟨i, h1, h2⟩ := argsL_mem _ _ _ hx
    rw [Nat.zero_add] at h1
    have hi : i < args.size := by
      have := (List.getElem?_eq_some_iff.1 h2).1
      simpa using this
    rw [h1]
    simp only [Array.getD_eq_getD_getElem?]
    rw [Array.getElem?_append_left hi, ← Array.getElem?_toList, h2]
    rfl
theorem pure_ofM {n : Nat} {l : Slots} {fn : Func} {c : Code} {f : FuncId} {args : Array Value} {Rd : World → Prop} {v : Value} (hf : P.funcs[f]? = some fn) (hb : fn.body = some c) (hn : fn.ntmps = n) (hsz : args.size ≤ n) (hl : argsL 0 args.toList = l)
    (h : ∀ w, HH w [] [] w → Rd w → CX P (bodyPostM Fence.wide 3 P fn fun e w' => e = .returned v ∧ Below w.heap.size w w') c ⟨n, []⟩ l w) : Pure P f args Rd v := fun w hR => by
  refine (callsIn_wide (n := 3)).1 ?_
  refine callsIn_of_wp_marks hf hb trivial (wpIn_wide.2 ?_) rfl
  refine h w (Hold.init w) hR _ ⟨?_, rfl, fun x hx => ?_⟩
  · simp [hn]; omega
  · subst hl
    obtain ⟨i, h1, h2⟩ := argsL_mem _ _ _ hx
    rw [Nat.zero_add] at h1
    have hi : i < args.size := by
      have := (List.getElem?_eq_some_iff.1 h2).1
      simpa using this
    rw [h1]
    simp only [Array.getD_eq_getD_getElem?]
    rw [Array.getElem?_append_left hi, ← Array.getElem?_toList, h2]
    rfl
section
variable {fn : Func} {RR : Ending → World → Prop} {l : Slots} {n : Nat}
theorem qxMRet2 {t u : Tmp} {v v2 : Value} (i j : Nat) (hf : fn.results = #[.tmp t, .tmp u]) (hi : l[i]? = some (t, v)) (hj : l[j]? = some (u, v2)) (hR : RR (.returned (.tuple #[v, v2])) w) : QX (bodyPostM Fence.wide 3 P fn RR) .ret ⟨n, []⟩ l w := fun a hF => by
  show LeavesInM _ _ _ _ _ _ a.defers _ _
  rw [hF.defers]
  exact ⟨_, results_tmp2 hf .., by rw [hF.at i hi, hF.at j hj]; exact hR⟩
theorem qxDRet2 {t u : Tmp} {v v2 : Value} {D : Nat} (i j c : Nat) (hH : HH w0 R Hs w) (hc : Hs[c]? = some [(D, .deferred (some []))]) (hf : fn.results = #[.tmp t, .tmp u]) (hi : l[i]? = some (t, v)) (hj : l[j]? = some (u, v2))
    (hR : ∀ w', HH w0 R (Hs.set c [(D, .deferred none)]) w' → RR (.returned (.tuple #[v, v2])) w') : QX (bodyPostM Fence.wide 3 P fn RR) .ret ⟨n, [{ target := .collected D, args := #[] }]⟩ l w := fun a hF => by
  have hK := hH.blk c hc
  have hD := hH.lt c hc (x := (D, .deferred (some []))) (by simp)
  show LeavesInM _ _ _ _ _ _ a.defers _ _
  rw [hF.defers]
  refine ⟨by simp, .inl ⟨_, _, rfl, run_takeDeferred hK, ?_⟩⟩
  refine ⟨_, results_tmp2 hf .., ?_⟩
  rw [hF.at i hi, hF.at j hj]
  refine hR _ (hH.turn c hc (E' := [(D, .deferred none)]) ?_)
  have h1 : Hold w [D] [(D, .deferred (some []))] w := Hold.init1 hK
  exact h1.upd 0 rfl rfl rfl rfl (by simp) (World.putObj_heap_same hD) fun k _ hk => World.putObj_heap_other hk
end

/-! ### A round -/
section
variable {ops : Array Oper} {Q : Exit → Act → World → Prop} {md : Region.Mode} {n l : Nat}
theorem anyIn_of (hno : ¬ LetsOut Q) (hd : ops.all noDefer = true) : ∀ (m : Nat) (L : Array Bool) (a : Act) (w : World), wpAny P md ops Q m L a w → wpAnyIn (Fence.wide.inRound l) n P md ops Q m L a w
  | 0, _, _, _, h => h
  | m + 1, L, a, w, h => ⟨h.1, fun i hi => by
    have h2 := h.2 i hi
    unfold wpOp at h2
    unfold wpOpIn
    cases ho : ops[i]? with
    | none => rw [ho] at h2; exact anyIn_of hno hd m _ _ _ h2
    | some o =>
      rw [ho] at h2
      have hdo : noDefer o = true := (Array.all_eq_true_iff_forall_mem.1 hd) _ (Array.mem_of_getElem? ho)
      dsimp only at h2 ⊢
      split
      · rename_i hw
        rw [if_pos hw] at h2
        rcases h2 with h2 | ⟨_, h2⟩
        · exact Oper.wpIn_mono (fun a' w' hk => anyIn_of hno hd m _ a' w' hk) (opIn_of hdo h2)
        · exact (hno h2).elim
      · rename_i hw
        rw [if_neg hw] at h2
        exact ⟨fun _ _ => trivial, anyIn_of hno hd m _ _ _ h2⟩⟩
/-- A region that draws its order, in a round. -/
theorem regionX_in {id : Nat} {ls : List Oper} {sz : Sz} {sl : Slots} {a : Act} {K : Act → World → Prop} (hm : P.follows .mixedOrders = true) (hok : okAll .any ls.toArray = true) (hd : ls.all noDefer = true) (hF : Fr sz sl a)
    (h : RX P ls.toArray (Only K) ls.length [] (Array.replicate ls.length false) sz sl w.drew) : (Code.region id ls.toArray true).wpIn (Fence.wide.inRound l) n P (Only K) a w := by
  refine wpIn_region_any hm (anyIn_of (fun ⟨_, _, h⟩ => h) (by simpa using hd) _ _ _ _ ?_)
  simpa using wpX_any _ (h hok (by simpa using Closed.none .any ls.toArray) (fun _ h => (by cases h)) a hF)
end

/-! ### The range -/
theorem Hold.grown {L : List (Nat × Obj)} {row : Option Nat} (h : Hold w0 R L w) (hg : w.grownBy w' row) (hr : ∀ r, row = some r → w0.heap.size ≤ r ∧ ∀ x ∈ L, x.1 ≠ r) : Hold w0 R L w' :=
  ⟨hg.os.trans h.os, hg.tape.trans h.tape, hg.output.trans h.output, Nat.le_trans h.size hg.size, fun x hx => (hg.block x.1 (h.lt hx) (fun e => (hr _ e.symm).2 x hx rfl)).trans (h.blk x hx), h.ne, h.own,
    fun k hk hkR => (hg.block k (Nat.lt_of_lt_of_le hk h.size) (fun e => by have := (hr _ e.symm).1; omega)).trans (h.frame k hk hkR)⟩
theorem Hold.more {L : List (Nat × Obj)} {g : Nat} {o : Obj} (h : Hold w0 R L w) (hb : w.heap[g]? = some o) (hne : ∀ x ∈ L, x.1 ≠ g) (ho : w0.heap.size ≤ g) : Hold w0 R (L ++ [(g, o)]) w := by
  refine ⟨h.os, h.tape, h.output, h.size, fun x hx => ?_, List.pairwise_append.2 ⟨h.ne, by simp, fun x hx y hy => ?_⟩, fun x hx => ?_, h.frame⟩
  · rcases List.mem_append.1 hx with hx | hx
    · exact h.blk x hx
    · obtain rfl : x = (g, o) := by simpa using hx
      exact hb
  · obtain rfl : y = (g, o) := by simpa using hy
    exact hne x hx
  · rcases List.mem_append.1 hx with hx | hx
    · exact h.own x hx
    · obtain rfl : x = (g, o) := by simpa using hx
      exact .inl ho
abbrev AllCells (L : List (Nat × Obj)) : Prop := ∀ x ∈ L, x.2.isCells = true
theorem not_cells_ne {L : List (Nat × Obj)} {g : Nat} {o : Obj} (h : Hold w0 R L w) (hc : AllCells L) (ho : w.heap[g]? = some o) (hn : o.isCells = false) : ∀ x ∈ L, x.1 ≠ g := fun x hx e => by
  have h1 := h.blk x hx
  have h2 := hc x hx
  rw [e, ho] at h1
  cases h1
  rw [hn] at h2
  cases h2
theorem cxRange {α : Type} {Q : Exit → Act → World → Prop} {n : Nat} {l : Slots} {k p d ida : Nat} {body : Code} {o : Oper} {gf : Nat} {lb : Array Value} {encs : α → Value} {Kp : World → World → Prop} {S : List α → Prop} {N : Nat} {E0 : Hl}
    (I : List α → Hl → Prop) (j : Nat) (hH : HH w0 R (Hs ++ [E0]) w) (hj : l[j]? = some (k, .func (.func gf) #[] lb)) (eg : ∀ args w, (callFunc gf args).run P w = .ok (.enter gf args) w)
    (hseq : SeqStopsK Fence.wide 2 P gf lb (fun x => #[encs x]) Kp S (fun _ => True) N w) (hKt : ∀ {A B C : World}, Kp A B → Kp B C → Kp A C)
    (hKb : ∀ (W : World) (l : Nat) (o o' : Obj), w.heap.size ≤ l → W.heap[l]? = some o → o.isCells = false → o.isWalk = false → Kp W (W.putObj l o'))
    (hKp : ∀ W W', Has Hs.flatten W → Has Hs.flatten W' → Kp W W') (hcs : AllCells Hs.flatten) (hIc : ∀ pre E, I pre E → AllCells E) (h0 : I [] E0)
    (hpl : keysB p l = true) (hpn : p < n) (ho : ∀ (a : Act) W v, a.eval (.tmp p) = v → (execOp a.eval o).run P W = .ok (.value v) W) (hod : o.dst = some d) (hog : ∀ a : Act, Region.wanted o (yielded [o].toArray a.tmps) = true) (hnd : noDefer o = true) (hdl : keysB d l = true) (hdn : d < n)
    (hbody : ∀ pre x E W lp, I pre E → pre.length < N → HH w0 R (Hs ++ [E]) W → ∀ a, Fr ⟨n, []⟩ ((d, encs x) :: l) a → body.wpIn (Fence.wide.inRound lp) 1 P (Only fun _ W' => ∃ E', I (pre ++ [x]) E' ∧ Hold W (bks E) E' W') a W)
    (hdone : ∀ xs E D W, S xs → I xs E → HH w0 R (Hs ++ [E] ++ [[(D, .deferred (some []))]]) W → QX Q .normal ⟨n, [{ target := .collected D, args := #[] }]⟩ l W) :
    CX P Q (.rangeFunc (.tmp k) #[p] (.region ida [o].toArray false) body) ⟨n, []⟩ l w := by
  intro a hF
  have hsz : w0.heap.size ≤ w.heap.size := Hold.size hH
  have hall : ∀ {pre E}, I pre E → AllCells (Hs ++ [E]).flatten := fun hi x hx => by
    rw [List.flatten_append] at hx
    rcases List.mem_append.1 hx with hx | hx
    · exact hcs x hx
    · exact hIc _ _ hi x (by simpa using hx)
  have hhas : ∀ {E W}, HH w0 R (Hs ++ [E]) W → Has Hs.flatten W := fun hh => (HH.hasAll hh).of (flatten_sub (List.sublist_append_left _ _))
  refine (wpIn_wide (n := 3)).1 ?_
  refine wpIn_rangeFunc_ownH (α := α) (w0 := w) rfl (by omega) (gf := gf) (lb := lb) (hF.ev j hj) trivial eg hseq hKt hKb (Below.refl _ _) (fun _ => rfl)
    (fun pre W => ∃ E, I pre E ∧ HH w0 R (Hs ++ [E]) W) (fun _ _ _ => False)
    (fun s A B row ⟨E, hi, hh⟩ hg hr => ⟨E, hi, Hold.grown hh hg fun r e => by
      obtain ⟨h1, o, ho, hc⟩ := hr r e
      exact ⟨Nat.le_trans hsz h1, not_cells_ne hh (hall hi) ho hc⟩⟩)
    (fun _ _ _ _ _ hs _ _ => hs) ⟨E0, h0, hH⟩ (fun x a' _ => Fr ⟨n, []⟩ ((d, encs x) :: l) a') (fun x a' => ownFrom_pure _ _) ?assign ?body ?done ?stop
  case assign =>
    rintro lp pre x W K ⟨E, hi, hh⟩ hK
    have hF1 : Fr ⟨n, []⟩ ((p, encs x) :: l) (a.put (some p) (encs x)) := hF.put _ (kA hpl) hpn
    have e1 : ({ tmps := (#[p].zip #[encs x]).foldl (fun t (p, v) => t.setIfInBounds p v) a.tmps, defers := [] } : Act) = a.put (some p) (encs x) := by
      have := hF.defers
      cases a
      simp only at this
      subst this
      simp [Act.put]
    rw [e1]
    refine region_in (by simpa using hnd) fun K' hK' => ?_
    refine stepV hF1 hod (hog _) (ho _ _ _ (hF1.ev 0 rfl)) (l' := l) ⟨List.sublist_cons_self _ _, hdl⟩ hdn fun a' hF2 => ?_
    exact hK' _ _ (hK _ _ (KeepsFrom.refl _ _) (hKp _ _ (hhas hh) (hhas hh)) ⟨E, hi, hh⟩ hF2)
  case body =>
    rintro lp pre x a' W hlp hrec ⟨E, hi, hh⟩ hax hlen
    refine wpIn_mono (hbody pre x E W lp hi hlen hh a' hax) ?_
    rintro e a3 W3 hp
    cases e with
    | normal =>
      obtain ⟨E', hi', hE⟩ := hp
      have hh' : HH w0 R (Hs ++ [E']) W3 := by
        have h2 := hh.turn Hs.length (by simp) hE
        simpa using h2
      refine ⟨⟨hE.size, fun k o hk hko hc => ?_⟩, hKp _ _ (hhas hh) (hhas hh'), E', hi', hh'⟩
      refine (hE.frame k (Array.getElem?_eq_some_iff.1 hko).1 fun hm => ?_).trans hko
      obtain ⟨y, hy, e⟩ := List.mem_map.1 hm
      exact not_cells_ne (L := E) (Has.hold (hh.has Hs.length (by simp))) (hIc _ _ hi) hko hc y hy e
    | _ => exact hp.elim
  case done =>
    rintro D xs W hD hS ⟨E, hi, hh⟩ hK
    refine hdone xs E D W hS hi ?_ _ ⟨hF.size, by simp [hF.defers], hF.get⟩
    have h2 := Hold.more hh hK (not_cells_ne hh (hall hi) hK rfl) (Nat.le_trans hsz hD)
    unfold HH
    rw [List.flatten_append]
    simpa using h2
  case stop =>
    rintro D c pre W _ _ h _
    exact h.elim
end
end Go.Proofs.YtfloiekaiiapnaaGreatDoor

namespace Go.Proofs.YtfloiekaiiapnaaGreatDoor
open Go Go.RowKit

abbrev Fl (l : Nat) : Fence := Fence.wide.inRound l
/-- Of every act whose live slots are sl, in a round. -/
def CXi (f : Nat) (P : Program) (Q : Exit → Act → World → Prop) (c : Code) (n : Sz) (l : Slots) (w : World) : Prop := ∀ a, Fr n l a → c.wpIn (Fl f) 1 P Q a w
abbrev QN (Q : Exit → Act → World → Prop) : Exit → Act → World → Prop := Only fun a w => Q .normal a w
section
variable {f : Nat} {P : Program} {ops : Array Oper} {Q : Exit → Act → World → Prop} {w w0 : World} {n : Sz} {l l' : Slots} {x y : Code} {id : Nat} {ls : List Oper}
theorem only_mono {c : Code} {a : Act} (h : c.wpIn (Fl f) 1 P (QN Q) a w) : c.wpIn (Fl f) 1 P Q a w := wpIn_mono h fun e _ _ q => by cases e <;> first | exact q | exact q.elim
theorem cxSeqI (h : CXi f P (Exit.then (y.wpIn (Fl f) 1 P Q) Q) x n l w) : CXi f P Q (.seq x y) n l w := fun a hF => wpIn_seq (h a hF)
theorem cxRegI (h : PX P ls.toArray (QN Q) ls n l w) (hd : ls.all noDefer = true := by kernel_rfl) : CXi f P Q (.region id ls.toArray false) n l w := fun a hF => only_mono (wpIn_region_lit (listIn_of (fun ⟨_, _, h⟩ => h) ls a w hd (h a hF)))
theorem cxRegXI (h : RX P ls.toArray (QN Q) ls.length [] (Array.replicate ls.length false) n l w.drew) (hm : P.follows .mixedOrders = true := by exact mixedOrders) (hok : okAll .any ls.toArray = true := by kernel_rfl) (hd : ls.all noDefer = true := by kernel_rfl) : CXi f P Q (.region id ls.toArray true) n l w := fun _ hF => only_mono (regionX_in hm hok hd hF h)
theorem cxSkipI (h : QX Q .normal n l w) : CXi f P Q .skip n l w := fun a hF => wpIn_skip (h a hF)
theorem cxExitI (h : QX Q (.exit id) n l w) : CXi f P Q (.exit id) n l w := fun a hF => wpIn_exit (h a hF)
theorem cxBlockI (h : CXi f P (Exit.inBlock id Q) x n l w) : CXi f P Q (.block id x) n l w := fun a hF => wpIn_block (h a hF)
theorem qxThenI (h : CXi f P Q y n l w) : QX (Exit.then (y.wpIn (Fl f) 1 P Q) Q) .normal n l w := h
theorem pxEndI (h : QX Q .normal n l w) : PX P ops (QN Q) [] n l w := h
theorem rxEndI {Ss : Pend} {L : Array Bool} {m : Nat} (hr : Region.ready .any ops L = []) (h : QX Q .normal n l w) : RX P ops (QN Q) m Ss L n l w := rxEnd hr h
theorem znI (h : CXi f P Q y n l w) : PX P ops (QN (Exit.then (y.wpIn (Fl f) 1 P Q) Q)) [] n l w := pxEndI (qxThenI h)
theorem zrI (h : PX P ls.toArray (QN (Exit.then (y.wpIn (Fl f) 1 P Q) Q)) ls n l w) (hd : ls.all noDefer = true := by kernel_rfl) : CXi f P Q (.seq (.region id ls.toArray false) y) n l w := cxSeqI (cxRegI h hd)
theorem zxI (h : RX P ls.toArray (QN (Exit.then (y.wpIn (Fl f) 1 P Q) Q)) ls.length [] (Array.replicate ls.length false) n l w.drew) (hm : P.follows .mixedOrders = true := by exact mixedOrders) (hok : okAll .any ls.toArray = true := by kernel_rfl) (hd : ls.all noDefer = true := by kernel_rfl) : CXi f P Q (.seq (.region id ls.toArray true) y) n l w := cxSeqI (cxRegXI h hm hok hd)
theorem rnI {Ss : Pend} {L : Array Bool} {m : Nat} (h : CXi f P Q y n l w) (hr : Region.ready .any ops L = [] := by kernel_rfl) : RX P ops (QN (Exit.then (y.wpIn (Fl f) 1 P Q) Q)) m Ss L n l w := rxEndI hr (qxThenI h)
theorem zPI {c : Operand} {p : Prop} [Decidable p] (ht : p → CXi f P Q x n l w) (hf : ¬ p → CXi f P Q y n l w) (hi : vo l c = some (.bool (decide p)) := by exact rfl) : CXi f P Q (.cond c x y) n l w := fun a hF => by
  have hv := hF.vo hi
  by_cases h : p
  · exact wpIn_cond_true (by rw [hv, decide_eq_true h]) (ht h a hF)
  · exact wpIn_cond_false (by rw [hv, decide_eq_false h]) (hf h a hF)
end
section
variable {f : Nat} {P : Program} {Q : Exit → Act → World → Prop} {w w0 : World} {n : Sz} {l : Slots} {y : Code} {a : Act}
theorem loopFI {F : Fence} {m : Nat} {σ : Type} {c : Code} (I : σ → Act → World → Prop) (μ : σ → Nat) (x0 : σ) (h0 : I x0 a w)
    (round : ∀ x a w, I x a w → c.wpIn F m P (Exit.then (fun a' w' => ∃ x', I x' a' w' ∧ μ x' < μ x) Q) a w) : (Code.loop c).wpIn F m P Q a w := by
  intro b k cs hro hb hr
  have key : ∀ j x a w, μ x = j → I x a w →
      ∃ e a' w', Q e a' w' ∧ ArrivesIn (Machine.fenced P F) P (lone (b.atR a (.code c :: .inLoop c :: k)) cs w) b k cs e a' w' := by
    intro j
    induction j using Nat.strongRecOn with
    | _ j ih =>
      intro x a w hn hI
      obtain ⟨e, a₁, w₁, hq, harr⟩ := round x a w hI b (.inLoop c :: k) cs hro hb hr
      cases e with
      | normal =>
        obtain ⟨x', hI₁, hlt⟩ := hq
        obtain ⟨e₂, a₂, w₂, hq₂, harr₂⟩ := ih (μ x') (hn ▸ hlt) x' a₁ w₁ rfl hI₁
        exact ⟨e₂, a₂, w₂, hq₂, .of_steps (StepsIn.trans harr (.one (fenced_calm hb hr rfl) stepR_inLoop)) harr₂⟩
      | exit id => exact ⟨_, a₁, w₁, hq, .pass (x := .inLoop c) rfl (fun _ _ => .inl (by simp)) harr⟩
      | goto l => exact ⟨_, a₁, w₁, hq, .pass (x := .inLoop c) rfl (fun _ _ => .inl (by simp)) harr⟩
      | ret => exact ⟨_, a₁, w₁, hq, .pass (x := .inLoop c) rfl (fun _ _ => .inl (by simp)) harr⟩
      | panic ch => exact ⟨_, a₁, w₁, hq, .pass (x := .inLoop c) rfl (fun _ _ => .inl (by simp)) harr⟩
      | outgrown => exact ⟨_, a₁, w₁, hq, .pass (x := .inLoop c) rfl (fun _ _ => .inl (by simp)) harr⟩
  obtain ⟨e, a', w', hq, harr⟩ := key _ x0 a w rfl h0
  exact ⟨e, a', w', hq, .of_steps (.one (fenced_calm hb hr rfl) stepR_loop) harr⟩
theorem cxLoopI {σ : Type} (fr : σ → Slots) (I : σ → World → Prop) (μ : σ → Nat) (x0 : σ) (h0 : I x0 w) (hfr : ∀ z ∈ fr x0, z ∈ l)
    (round : ∀ x w, I x w → CXi f P (Exit.then (qLoop n fr I μ x) Q) y n (fr x) w) : CXi f P Q (.loop y) n l w := fun _ hF =>
  loopFI (σ := σ) (fun x a w => Fr n (fr x) a ∧ I x w) μ x0 ⟨hF.of hfr, h0⟩ fun x a w ⟨h1, h2⟩ => round x w h2 a h1
theorem zL3I {α0 α1 α2 : Type} (fr : α0 → α1 → α2 → Slots) (I : α0 → α1 → α2 → World → Prop) (μ : α0 → α1 → α2 → Nat) (a0 : α0) (a1 : α1) (a2 : α2) (h0 : I a0 a1 a2 w) (round : ∀ a0 a1 a2 w, I a0 a1 a2 w → CXi f P (Exit.then (qL3 n fr I μ a0 a1 a2) Q) y n (fr a0 a1 a2) w) (hfr : Al l (fr a0 a1 a2) := by (repeat (first | exact Al.nil | refine Al.cons rfl ?_))) : CXi f P Q (.loop y) n l w :=
  cxLoopI (σ := α0 × α1 × α2) (fun x => fr x.1 x.2.1 x.2.2) (fun x => I x.1 x.2.1 x.2.2) (fun x => μ x.1 x.2.1 x.2.2) (a0, a1, a2) h0 hfr.all fun x w h => round x.1 x.2.1 x.2.2 w h
end
/-! ### Returns behind a range -/
section
variable {P : Program} {w w0 : World} {R : List Nat} {Hs : List Hl} {fn : Func} {RR : Ending → World → Prop} {l : Slots} {n D c : Nat}
theorem turn_dfr (hH : HH w0 R Hs w) (hc : Hs[c]? = some [(D, .deferred (some []))]) : HH w0 R (Hs.set c [(D, .deferred none)]) (w.putObj D (.deferred none)) := by
  have hK := hH.blk c hc
  have hD := hH.lt c hc (x := (D, .deferred (some []))) (by simp)
  refine hH.turn c hc (E' := [(D, .deferred none)]) ?_
  have h1 : Hold w [D] [(D, .deferred (some []))] w := Hold.init1 hK
  exact h1.upd 0 rfl rfl rfl rfl (by simp) (World.putObj_heap_same hD) fun k _ hk => World.putObj_heap_other hk
theorem qxDEnd0 (c : Nat) (hH : HH w0 R Hs w) (hc : Hs[c]? = some [(D, .deferred (some []))]) (hf : fn.results = #[]) (hR : ∀ w', HH w0 R (Hs.set c [(D, .deferred none)]) w' → RR (.returned (.tuple #[])) w') : QX (bodyPostM Fence.wide 3 P fn RR) .normal ⟨n, [{ target := .collected D, args := #[] }]⟩ l w := fun a hF => by
  have hK := hH.blk c hc
  show LeavesInM _ _ _ _ _ _ a.defers _ _
  rw [hF.defers]
  refine ⟨by simp, .inl ⟨_, _, rfl, run_takeDeferred hK, ?_⟩⟩
  exact ⟨_, results_none hf _ _ _, hR _ (turn_dfr hH hc)⟩
theorem qxDRetC {p : Tmp} {g m : Nat} {cs : Array Value} {t ty : TypeId} (i c k : Nat) (hH : HH w0 R Hs w) (hc : Hs[c]? = some [(D, .deferred (some []))]) (hb : (Hs.set c [(D, .deferred none)])[k]? = some [(g, .cells cs t (0, 0))]) (hf : fn.results = #[.cell p ty]) (hi : l[i]? = some (p, .pointer (some ⟨g, 0, none⟩))) (hdd : (P.underlying ty).map (·.isRow) = some true) (hz : cs.size = m) (hs : (P.info? ty).map (·.size) = some m)
    (hR : ∀ w', HH w0 R (Hs.set c [(D, .deferred none)]) w' → RR (.returned (.agg cs)) w') : QX (bodyPostM Fence.wide 3 P fn RR) .ret ⟨n, [{ target := .collected D, args := #[] }]⟩ l w := fun a hF => by
  have hK := hH.blk c hc
  have hT := turn_dfr hH hc
  obtain ⟨d, hu, hdr⟩ := isRow_desc hdd
  show LeavesInM _ _ _ _ _ _ a.defers _ _
  rw [hF.defers]
  refine ⟨by simp, .inl ⟨_, _, rfl, run_takeDeferred hK, ?_⟩⟩
  exact ⟨_, results_cell_row hf _ _ g t cs (0, 0) d (hF.at i hi) (hT.blk k hb) hu (by cases d <;> first | rfl | cases hdr) (by rw [hs, hz]), hR _ hT⟩
end
end Go.Proofs.YtfloiekaiiapnaaGreatDoor
