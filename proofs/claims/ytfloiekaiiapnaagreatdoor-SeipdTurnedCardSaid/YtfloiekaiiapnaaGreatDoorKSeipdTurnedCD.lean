/- What the claim leans on, part 4: plain theorems, and walks of functions of the program and of the document. -/
import Derived.Test.YtfloiekaiiapnaaGreatDoorKSeipdTurnedCC
import Derived.Shelf.Spec.TrailingZeros
import Derived.Test.YtfloiekaiiapnaaGreatDoorKSeipdTurnedCB
import Derived.Test.YtfloiekaiiapnaaGreatDoorKSeipdTurnedCA
import Derived.Test.YtfloiekaiiapnaaGreatDoorProg
namespace Go.Proofs.YtfloiekaiiapnaaGreatDoor
open Go Go.RowKit
set_option maxRecDepth 100000

set_option maxHeartbeats 8000000 in
theorem encrypt_c (A : Option Addr) (m c : Nat) (ks : List (Nat → UInt8)) (K : Nat → Nat → UInt8) (r : Nat) (hm : m = r + 1) (h1 : 1 ≤ r) (hr : r ≤ 100) (hK : ∀ i, i ≤ r → ks[i]? = some (K i)) (b : Nat → UInt8) : Pure Tryz.prog 81 #[(.slice A m c), ((cArr 16).val b)] (fun w => w.heap[2]? = some (.cells ((cArr 256).enc boxF) 105 (0, 0)) ∧ Vu (cArr 16) w A m c ks) ((cArr 16).val (encG K r b)) := by
  refine pure_of (fn := Tryz.f81) Tryz.func81 rfl Tryz.ntmps81 (Nat.le_of_ble_eq_true rfl) rfl ?_
  intro w0 hH hR
  have hlen := hR.2.len
  refine zr ?_
  refine zm hH (.bx (cArr 16) b) trivial 2 ?_
  clear hH
  rintro _ _ w ⟨g1, rfl, rfl⟩ hH
  refine zm hH (.al (cArr 16) (fun _ => 0)) trivial 0 ?_
  clear hH
  rintro _ _ w ⟨g2, rfl, rfl⟩ hH
  refine zn ?_
  refine zr ?_
  refine zv .mv 0 ?_
  refine zv .len 1 ?_
  refine zv (.sub (((r) : Nat) : Int)) 1 ?_
  refine zv .mv 1 ?_
  refine zn ?_
  have hK0 := hK 0 (by omega)
  have hKr := hK r (Nat.le_refl _)
  refine zx ?_
  replace hH := hH.drew
  refine rld 0 (hH.q 0 rfl) (.ld (cArr 16) b (fun _ hS => (holds_blk0 hS))) 0 ?_
  refine rv 1 .mv 0 ?_
  have hi3 : 0 < m := by omega
  obtain ⟨b4, off5, rfl, hL6, hb7, hR8⟩ := hR.2.blk (by decide) (Off.nil _ _) (by omega)
  have := hR.2.cap
  have hj11 : 0 < ks.length := by first | exact hi3 | (simp only [List.length_drop]; omega) | (simp only [List.length_drop, List.length_take]; omega) | omega
  refine rv 2 (.ix 16 0 (hi := hi3)) 1 ?_
  refine rld 3 (S := fun w => HoldsL (cArr 16) w b4 off5 ks) (hH.holdsL hL6 hb7 hR8) (.ld (cArr 16) (K 0) (fun _ hS => (hS 0 _ hK0))) 1 ?_
  refine rx1k 4 (rpc 4 Tryz.func92 (added_c b (K 0)) trivial hH 3 (pgo [] (pgo [] (.nil _ []))) ?_)
  clear hH
  intro w hH
  refine ⟨pnil, ?_⟩
  refine rx1k 5 ?_
  refine re0 5 0 hH rfl (.sw (cArr 16) b (added b (K 0))) trivial (.nil _ []) ?_
  clear hH
  rintro _ _ w rfl hH
  refine ⟨pnil, ?_⟩
  refine rn ?_
  refine cxSeq ?_
  refine zr ?_
  refine zv .mv 1 ?_
  refine zv .mv 0 ?_
  refine zv (v := (.slice (cutA (some ⟨b4, off5, none⟩) c 1 16) (r - 1) (c - 1))) (fun _ _ hF => opCutLH (k := 1) (h := r) (e := 61) (sz := 16) rfl (by kernel_rfl) (by kernel_rfl) (hF.ev 1 rfl) rfl (hF.ev 0 rfl) rfl rfl (by omega) (by omega)) 3 ?_
  refine zv .len 0 ?_
  refine zv .mv 0 ?_
  refine zn ?_
  refine cxBlock ?_
  have he12 : (cArr 16).enc (enM boxF K b 0) = (cArr 16).enc (added b (K 0)) := arr_congr (fun j _ => rfl)
  replace hH : HH w0 [] [[bl g1 61 ((cArr 16).enc (enM boxF K b 0))], [bl g2 61 ((cArr 16).enc (fun _ => 0))]] w := by rw [he12]; exact hH
  refine zL1 (fun (i : Nat) => [(20, (.int .i64 (((i) : Nat) : Int))), (19, (.int .i64 ((((r - 1)) : Nat) : Int))), (18, (.slice (cutA (some ⟨b4, off5, none⟩) c 1 16) (r - 1) (c - 1))), (5, (.int .i64 (((r) : Nat) : Int))), (4, (.pointer (some ⟨g2, 0, none⟩))), (3, (.pointer (some ⟨g1, 0, none⟩))), (0, (.slice (some ⟨b4, off5, none⟩) m c))]) (fun i w => HH w0 [] [[bl g1 61 ((cArr 16).enc (enM boxF K b i))], [bl g2 61 ((cArr 16).enc (fun _ => 0))]] w ∧ (i ≤ (r - 1))) (fun i => (r - 1) - i) 0 ⟨hH, (Nat.zero_le _)⟩ ?_
  clear hH
  rintro i w ⟨hH, hi⟩
  refine zr ?_
  refine zv (.lt (i < (r - 1))) 0 ?_
  refine zn ?_
  refine cxSeq ?_
  refine zP (fun hc13 => ?_) (fun hc13 => ?_)
  refine cxSkip ?_
  refine qxThen ?_
  refine cxSeq ?_
  refine cxBlock ?_
  have hKi : ((ks.take r).drop 1)[i]? = some (K (i + 1)) := by rw [List.getElem?_drop, List.getElem?_take, if_pos (by omega), Nat.add_comm]; exact hK _ (by omega)
  refine zr ?_
  have hi14 : i < (r - 1) := by omega
  have hj17 : i < ((ks.take r).drop 1).length := (by rw [List.length_drop, List.length_take]; omega)
  refine zv (v := (.pointer (some ⟨b4, off5 + 1 * 16 + i * 16, none⟩))) (fun _ _ hF => opIndexC (i := i) (e := 61) (sz := 16) rfl (by kernel_rfl) (by kernel_rfl) (hF.ev 3 rfl) (cutA_some (by omega)) (hF.ev 1 rfl) rfl hi14) 1 ?_
  refine zs (S := fun w => HoldsL (cArr 16) w b4 off5 ks) (hH.holdsL hL6 hb7 hR8) (.ld (cArr 16) (K (i + 1)) (fun _ hS => ((hS.cut 1 r) i _ hKi))) 1 ?_
  refine zm hH (.al (cArr 16) (fun _ => 0)) trivial 0 ?_
  clear hH
  rintro _ _ w ⟨g18, rfl, rfl⟩ hH
  refine ze0 2 hH rfl (.sw (cArr 16) (fun _ => 0) (K (i + 1))) trivial ?_
  clear hH
  rintro _ _ w rfl hH
  refine zn ?_
  refine cxRegX mixedOrders (by kernel_rfl) ?_
  replace hH := hH.drew
  refine rld 0 (hH.q 0 rfl) (.ld (cArr 16) (enM boxF K b i) (fun _ hS => (holds_blk0 hS))) 2 ?_
  refine rld 4 (hH.q 2 rfl) (.ld (cArr 16) (K (i + 1)) (fun _ hS => (holds_blk0 hS))) 2 ?_
  refine rx1k 1 (rpc 1 Tryz.func95 (boxed_c (enM boxF K b i)) (hH.oldBlk hR.1 (by simp)) hH 2 (.keep (pgo [] (.nil _ []))) ?_)
  clear hH
  intro w hH
  refine ⟨pcons (hH.blk 2 rfl) pnil, ?_⟩
  refine rx1k 2 (rpc 2 Tryz.func94 (shifted_c (boxed boxF (enM boxF K b i))) trivial hH 1 (.keep (.nil _ [])) ?_)
  clear hH
  intro w hH
  refine ⟨pcons (hH.blk 2 rfl) pnil, ?_⟩
  refine rx1k 3 (rpc 3 Tryz.func93 (mixed_c (shifted (boxed boxF (enM boxF K b i)))) trivial hH 1 (.keep (.nil _ [])) ?_)
  clear hH
  intro w hH
  refine ⟨pcons (hH.blk 2 rfl) pnil, ?_⟩
  refine rx1k 5 (rpc 5 Tryz.func92 (added_c (mixed (shifted (boxed boxF (enM boxF K b i)))) (K (i + 1))) trivial hH 3 (pgo [] (.nil _ [])) ?_)
  clear hH
  intro w hH
  refine ⟨pnil, ?_⟩
  refine rx1k 6 ?_
  refine re0 6 0 hH rfl (.sw (cArr 16) (enM boxF K b i) (added (mixed (shifted (boxed boxF (enM boxF K b i)))) (K (i + 1)))) trivial (.nil _ []) ?_
  clear hH
  rintro _ _ w rfl hH
  refine ⟨pnil, ?_⟩
  refine rxEnd (by kernel_rfl) ?_
  refine qxInN ?_
  refine qxThen ?_
  refine cxReg ?_
  refine zv (.add ((i + 1 : Nat) : Int)) 3 ?_
  refine zv .mv 1 ?_
  refine pxEnd ?_
  replace hH : HH w0 [] [[bl g1 61 ((cArr 16).enc (added (mixed (shifted (boxed boxF (enM boxF K b i)))) (K (i + 1))))], [bl g2 61 ((cArr 16).enc (fun _ => 0))]] w := hH.only [true, true, false]
  have he19 : (cArr 16).enc (enM boxF K b (i + 1)) = (cArr 16).enc (added (mixed (shifted (boxed boxF (enM boxF K b i)))) (K (i + 1))) := arr_congr (fun j _ => rfl)
  replace hH : HH w0 [] [[bl g1 61 ((cArr 16).enc (enM boxF K b (i + 1)))], [bl g2 61 ((cArr 16).enc (fun _ => 0))]] w := by rw [he19]; exact hH
  exact zR1 (i + 1) ⟨hH, (by omega)⟩ (by omega)
  refine cxExit ?_
  refine qxThenE ?_
  refine qxThenE ?_
  refine qxInE ?_
  refine qxThen ?_
  obtain rfl : i = r - 1 := by omega
  refine zx ?_
  replace hH := hH.drew
  refine rld 0 (hH.q 0 rfl) (.ld (cArr 16) (enM boxF K b (r - 1)) (fun _ hS => (holds_blk0 hS))) 79 ?_
  refine rv 3 .mv 8 ?_
  refine rv 4 .mv 4 ?_
  have hi20 : r < m := by omega
  have hj23 : r < ks.length := by first | exact hi20 | (simp only [List.length_drop]; omega) | (simp only [List.length_drop, List.length_take]; omega) | omega
  refine rv 5 (.ix 16 r (hi := hi20)) 3 ?_
  refine rld 6 (S := fun w => HoldsL (cArr 16) w b4 off5 ks) (hH.holdsL hL6 hb7 hR8) (.ld (cArr 16) (K r) (fun _ hS => (hS r _ hKr))) 1 ?_
  refine rx1k 1 (rpc 1 Tryz.func95 (boxed_c (enM boxF K b (r - 1))) (hH.oldBlk hR.1 (by simp)) hH 2 (.keep (pgo [] (.nil _ []))) ?_)
  clear hH
  intro w hH
  refine ⟨pcons (hH.holdsL hL6 hb7 hR8) pnil, ?_⟩
  refine rx1k 2 (rpc 2 Tryz.func94 (shifted_c (boxed boxF (enM boxF K b (r - 1)))) trivial hH 1 (.keep (.nil _ [])) ?_)
  clear hH
  intro w hH
  refine ⟨pcons (hH.holdsL hL6 hb7 hR8) pnil, ?_⟩
  refine rx1k 7 (rpc 7 Tryz.func92 (added_c (shifted (boxed boxF (enM boxF K b (r - 1)))) (K r)) trivial hH 3 (pgo [] (.nil _ [])) ?_)
  clear hH
  intro w hH
  refine ⟨pnil, ?_⟩
  refine rx1k 8 ?_
  refine re0 8 1 hH rfl (.sw (cArr 16) (fun _ => 0) (added (shifted (boxed boxF (enM boxF K b (r - 1)))) (K r))) trivial (.nil _ []) ?_
  clear hH
  rintro _ _ w rfl hH
  refine ⟨pnil, ?_⟩
  refine rn ?_
  refine cxRet ?_
  refine qxRetC 1 (hH.blk 1 rfl) rfl rfl (by kernel_rfl) (Cod.size _ _) (by kernel_rfl) ?_
  exact ⟨rfl, HH.toBelow hH⟩

set_option maxHeartbeats 8000000 in
theorem decrypt_c (g : Nat) (A : Option Addr) (m c : Nat) (ks : List (Nat → UInt8)) (K : Nat → Nat → UInt8) (r : Nat) (hm : m = r + 1) (h1 : 1 ≤ r) (hr : r ≤ 100) (hK : ∀ i, i ≤ r → ks[i]? = some (K i)) (b : Nat → UInt8) : Pure Tryz.prog 98 #[(.slice A m c), (.pointer (some ⟨g, 0, none⟩)), ((cArr 16).val b)] (fun w => w.heap[g]? = some (.cells ((cArr 256).enc (bk boxF 256)) 105 (0, 0)) ∧ Vu (cArr 16) w A m c ks) ((cArr 16).val (decG K r b)) := by
  refine pure_of (fn := Tryz.f98) Tryz.func98 rfl Tryz.ntmps98 (Nat.le_of_ble_eq_true rfl) rfl ?_
  intro w0 hH hR
  have hlen := hR.2.len
  refine zr ?_
  refine zm hH (.bx (cArr 16) b) trivial 4 ?_
  clear hH
  rintro _ _ w ⟨g1, rfl, rfl⟩ hH
  refine zm hH (.al (cArr 16) (fun _ => 0)) trivial 0 ?_
  clear hH
  rintro _ _ w ⟨g2, rfl, rfl⟩ hH
  refine zn ?_
  refine zr ?_
  refine zv .mv 0 ?_
  refine zv .len 1 ?_
  refine zv (.sub (((r) : Nat) : Int)) 1 ?_
  refine zv .mv 1 ?_
  refine zn ?_
  have hK0 := hK 0 (by omega)
  have hKr := hK r (Nat.le_refl _)
  refine zx ?_
  replace hH := hH.drew
  refine rv 0 .mv 0 ?_
  refine rld 1 (hH.q 0 rfl) (.ld (cArr 16) b (fun _ hS => (holds_blk0 hS))) 0 ?_
  refine rv 2 .mv 0 ?_
  refine rv 3 .mv 0 ?_
  have hi3 : r < m := by omega
  obtain ⟨b4, off5, rfl, hL6, hb7, hR8⟩ := hR.2.blk (by decide) (Off.nil _ _) (by omega)
  have := hR.2.cap
  have hj11 : r < ks.length := by first | exact hi3 | (simp only [List.length_drop]; omega) | (simp only [List.length_drop, List.length_take]; omega) | omega
  refine rv 4 (.ix 16 r (hi := hi3)) 3 ?_
  refine rld 5 (S := fun w => HoldsL (cArr 16) w b4 off5 ks) (hH.holdsL hL6 hb7 hR8) (.ld (cArr 16) (K r) (fun _ hS => (hS r _ hKr))) 1 ?_
  refine rx1k 6 (rpc 6 Tryz.func92 (added_c b (K r)) trivial hH 3 (pgo [] (pgo [] (.nil _ []))) ?_)
  clear hH
  intro w hH
  refine ⟨pnil, ?_⟩
  refine rx1k 7 (rpc 7 Tryz.func105 (unshifted_c (added b (K r))) trivial hH 1 (.nil _ []) ?_)
  clear hH
  intro w hH
  refine ⟨pnil, ?_⟩
  refine rx1k 8 (rpc 8 Tryz.func104 (unboxed_c g (bk boxF 256) (unshifted (added b (K r)))) (hH.oldBlk hR.1 (by simp)) hH 3 (.nil _ []) ?_)
  clear hH
  intro w hH
  refine ⟨pnil, ?_⟩
  refine rx1k 9 ?_
  refine re0 9 0 hH rfl (.sw (cArr 16) b (boxed (bk boxF 256) (unshifted (added b (K r))))) trivial (.nil _ []) ?_
  clear hH
  rintro _ _ w rfl hH
  refine ⟨pnil, ?_⟩
  refine rn ?_
  refine cxSeq ?_
  refine zr ?_
  refine zv .mv 3 ?_
  refine zv (.sub (((r - 1 - 0) : Nat) : Int)) 1 ?_
  refine zv .mv 1 ?_
  refine zn ?_
  refine cxBlock ?_
  have he12 : (cArr 16).enc (deM K r b 0) = (cArr 16).enc (boxed (bk boxF 256) (unshifted (added b (K r)))) := arr_congr (fun j _ => rfl)
  replace hH : HH w0 [] [[bl g1 61 ((cArr 16).enc (deM K r b 0))], [bl g2 61 ((cArr 16).enc (fun _ => 0))]] w := by rw [he12]; exact hH
  refine zL1 (fun (i : Nat) => [(8, (.int .i64 (((r - 1 - i) : Nat) : Int))), (6, (.pointer (some ⟨g2, 0, none⟩))), (5, (.pointer (some ⟨g1, 0, none⟩))), (1, (.pointer (some ⟨g, 0, none⟩))), (0, (.slice (some ⟨b4, off5, none⟩) m c))]) (fun i w => HH w0 [] [[bl g1 61 ((cArr 16).enc (deM K r b i))], [bl g2 61 ((cArr 16).enc (fun _ => 0))]] w ∧ (i ≤ (r - 1))) (fun i => (r - 1) - i) 0 ⟨hH, (Nat.zero_le _)⟩ ?_
  clear hH
  rintro i w ⟨hH, hi⟩
  refine cxSeq ?_
  refine zr ?_
  refine zv .mv 0 ?_
  refine zv (.gt (r - 1 - i > 0)) 1 ?_
  refine zn ?_
  refine zP (fun hc13 => ?_) (fun hc13 => ?_)
  refine cxSkip ?_
  refine qxThen ?_
  refine cxSeq ?_
  refine cxBlock ?_
  have hKi := hK (r - 1 - i) (by omega)
  refine cxRegX mixedOrders (by kernel_rfl) ?_
  replace hH := hH.drew
  refine rv 0 .mv 1 ?_
  refine rld 1 (hH.q 0 rfl) (.ld (cArr 16) (deM K r b i) (fun _ hS => (holds_blk0 hS))) 0 ?_
  refine rv 2 .mv 0 ?_
  refine rv 3 .mv 0 ?_
  have hi14 : r - 1 - i < m := by omega
  have hj17 : r - 1 - i < ks.length := by first | exact hi14 | (simp only [List.length_drop]; omega) | (simp only [List.length_drop, List.length_take]; omega) | omega
  refine rv 4 (.ix 16 (r - 1 - i) (hi := hi14)) 3 ?_
  refine rld 5 (S := fun w => HoldsL (cArr 16) w b4 off5 ks) (hH.holdsL hL6 hb7 hR8) (.ld (cArr 16) (K (r - 1 - i)) (fun _ hS => (hS (r - 1 - i) _ hKi))) 1 ?_
  refine rx1k 6 (rpc 6 Tryz.func92 (added_c (deM K r b i) (K (r - 1 - i))) trivial hH 3 (pgo [] (pgo [] (.nil _ []))) ?_)
  clear hH
  intro w hH
  refine ⟨pnil, ?_⟩
  refine rx1k 7 (rpc 7 Tryz.func106 (unmixed_c (added (deM K r b i) (K (r - 1 - i)))) trivial hH 1 (.nil _ []) ?_)
  clear hH
  intro w hH
  refine ⟨pnil, ?_⟩
  refine rx1k 8 (rpc 8 Tryz.func105 (unshifted_c (unmixed (added (deM K r b i) (K (r - 1 - i))))) trivial hH 1 (.nil _ []) ?_)
  clear hH
  intro w hH
  refine ⟨pnil, ?_⟩
  refine rx1k 9 (rpc 9 Tryz.func104 (unboxed_c g (bk boxF 256) (unshifted (unmixed (added (deM K r b i) (K (r - 1 - i)))))) (hH.oldBlk hR.1 (by simp)) hH 3 (.nil _ []) ?_)
  clear hH
  intro w hH
  refine ⟨pnil, ?_⟩
  refine rx1k 10 ?_
  refine re0 10 0 hH rfl (.sw (cArr 16) (deM K r b i) (boxed (bk boxF 256) (unshifted (unmixed (added (deM K r b i) (K (r - 1 - i))))))) trivial (.nil _ []) ?_
  clear hH
  rintro _ _ w rfl hH
  refine ⟨pnil, ?_⟩
  refine rxEnd (by kernel_rfl) ?_
  refine qxInN ?_
  refine qxThen ?_
  refine cxReg ?_
  refine zv .mv 3 ?_
  refine zv (.sub (((r - 1 - (i + 1)) : Nat) : Int)) 1 ?_
  refine zv .mv 1 ?_
  refine pxEnd ?_
  have he18 : (cArr 16).enc (deM K r b (i + 1)) = (cArr 16).enc (boxed (bk boxF 256) (unshifted (unmixed (added (deM K r b i) (K (r - 1 - i)))))) := arr_congr (fun j _ => rfl)
  replace hH : HH w0 [] [[bl g1 61 ((cArr 16).enc (deM K r b (i + 1)))], [bl g2 61 ((cArr 16).enc (fun _ => 0))]] w := by rw [he18]; exact hH
  exact zR1 (i + 1) ⟨hH, (by omega)⟩ (by omega)
  refine cxExit ?_
  refine qxThenE ?_
  refine qxThenE ?_
  refine qxInE ?_
  refine qxThen ?_
  obtain rfl : i = r - 1 := by omega
  refine zx ?_
  replace hH := hH.drew
  refine rld 0 (hH.q 0 rfl) (.ld (cArr 16) (deM K r b (r - 1)) (fun _ hS => (holds_blk0 hS))) 27 ?_
  refine rv 1 .mv 4 ?_
  have hi19 : 0 < m := by omega
  have hj22 : 0 < ks.length := by first | exact hi19 | (simp only [List.length_drop]; omega) | (simp only [List.length_drop, List.length_take]; omega) | omega
  refine rv 2 (.ix 16 0 (hi := hi19)) 1 ?_
  refine rld 3 (S := fun w => HoldsL (cArr 16) w b4 off5 ks) (hH.holdsL hL6 hb7 hR8) (.ld (cArr 16) (K 0) (fun _ hS => (hS 0 _ hK0))) 1 ?_
  refine rx1k 4 (rpc 4 Tryz.func92 (added_c (deM K r b (r - 1)) (K 0)) trivial hH 3 (pgo [] (pgo [] (.nil _ []))) ?_)
  clear hH
  intro w hH
  refine ⟨pnil, ?_⟩
  refine rx1k 5 ?_
  refine re0 5 1 hH rfl (.sw (cArr 16) (fun _ => 0) (added (deM K r b (r - 1)) (K 0))) trivial (.nil _ []) ?_
  clear hH
  rintro _ _ w rfl hH
  refine ⟨pnil, ?_⟩
  refine rn ?_
  refine cxRet ?_
  refine qxRetC 1 (hH.blk 1 rfl) rfl rfl (by kernel_rfl) (Cod.size _ _) (by kernel_rfl) ?_
  exact ⟨rfl, HH.toBelow hH⟩

def aeF (l : List UInt8) (i : Nat) : Nat → UInt8 := cutF (lst (16 * (l.length / 4 + 7)) (aeW l)) (16 * i)
theorem aeF_rk (l : List UInt8) (i : Nat) (h : i ≤ aeR l) : E16 (aeF l i) (rk (aeW l) i) := aeK_rk l (by unfold aeR at h; omega)
theorem aeF_enc (l : List UInt8) (b : Nat → UInt8) : E16 (encG (aeF l) (aeR l) b) (aeE l b) := encG_is (aeF_rk l)
theorem aeF_dec (l : List UInt8) (b : Nat → UInt8) : E16 (decG (aeF l) (aeR l) b) (aeD l b) := decG_is (aeF_rk l)
theorem val16 {f g : Nat → UInt8} (h : E16 f g) : (cArr 16).val f = (cArr 16).val g := congrArg Value.agg (arr_congr h)
/-- A block by the keys of rounds of the key l. -/
theorem encK_c (A : Option Addr) (m c : Nat) (l : List UInt8) (hl : l.length = 16 ∨ l.length = 32) (hm : m = l.length / 4 + 7) (b : Nat → UInt8) : Pure Tryz.prog 81 #[.slice A m c, (cArr 16).val b] (fun w => w.heap[2]? = some (.cells ((cArr 256).enc boxF) 105 (0, 0)) ∧ Vu (cArr 16) w A m c (aeK l)) ((cArr 16).val (aeE l b)) :=
  (encrypt_c A m c (aeK l) (aeF l) (aeR l) (by unfold aeR; omega) (by unfold aeR; omega) (by unfold aeR; omega) (fun i hi => aeK_get l (by unfold aeR at hi; omega)) b).as (val16 (aeF_enc l b))
theorem decK_c (g : Nat) (A : Option Addr) (m c : Nat) (l : List UInt8) (hl : l.length = 16 ∨ l.length = 32) (hm : m = l.length / 4 + 7) (b : Nat → UInt8) : Pure Tryz.prog 98 #[.slice A m c, (.pointer (some ⟨g, 0, none⟩)), (cArr 16).val b] (fun w => w.heap[g]? = some (.cells ((cArr 256).enc (bk boxF 256)) 105 (0, 0)) ∧ Vu (cArr 16) w A m c (aeK l)) ((cArr 16).val (aeD l b)) :=
  (decrypt_c g A m c (aeK l) (aeF l) (aeR l) (by unfold aeR; omega) (by unfold aeR; omega) (by unfold aeR; omega) (fun i hi => aeK_get l (by unfold aeR at hi; omega)) b).as (val16 (aeF_dec l b))
end Go.Proofs.YtfloiekaiiapnaaGreatDoor

namespace Go.Proofs.YtfloiekaiiapnaaGreatDoor
open Go Go.RowKit

/-! ### Blocks -/
/-- The double of a block. -/
def dbB (b : Nat → UInt8) : Nat → UInt8 := fun j => if j = 15 then sl8 (b 15) 1 ^^^ sr8 (b 0) 7 * 135 else sl8 (b j) 1 ||| sr8 (b (j + 1)) 7
def dbs : Nat → (Nat → UInt8) → (Nat → UInt8)
  | 0, b => b
  | k + 1, b => dbB (dbs k b)
theorem dbs_in (b : Nat → UInt8) : ∀ k, dbs k (dbB b) = dbs (k + 1) b
  | 0 => rfl
  | k + 1 => by rw [dbs, dbs_in b k]; rfl
/-- A part of k bytes as a block. -/
def pdB (k : Nat) (f : Nat → UInt8) : Nat → UInt8 := fun j => if j < k then f j else if j = k then 128 else 0
theorem added_comm (a b : Nat → UInt8) : added a b = added b a := funext fun _ => UInt8.xor_comm _ _
theorem added_assoc (a b c : Nat → UInt8) : added (added a b) c = added a (added b c) := funext fun _ => UInt8.xor_assoc _ _ _

/-! ### Offsets -/
/-- What is put into the offset at the whole block i, from 1 on. -/
def stp (dl : Nat → UInt8) (i : Nat) : Nat → UInt8 := dbs (Lib.ctz 64 i + 1) dl
def ofs (dl o : Nat → UInt8) : Nat → Nat → UInt8
  | 0 => o
  | i + 1 => added (ofs dl o i) (stp dl (i + 1))
/-- Behind all n bytes. -/
def ofE (st dl o : Nat → UInt8) (n : Nat) : Nat → UInt8 := if n % 16 = 0 then ofs dl o (n / 16) else added (ofs dl o (n / 16)) st
section
variable {C D E : (Nat → UInt8) → Nat → UInt8} {st dl o : Nat → UInt8} {T : List UInt8} {m : Nat}
def wb (C : (Nat → UInt8) → Nat → UInt8) (o b : Nat → UInt8) : Nat → UInt8 := added (C (added b o)) o
theorem wb_E16 (hC : ∀ x y, E16 x y → E16 (C x) (C y)) {b b' : Nat → UInt8} (h : E16 b b') : E16 (wb C o b) (wb C o b') := (hC _ _ (h.added (E16.refl o))).added (E16.refl o)
theorem wb_back (hDE : ∀ x, E16 (D (E x)) x) (b : Nat → UInt8) : E16 (wb D o (wb E o b)) b := by
  unfold wb
  rw [added_added]
  have := (hDE (added b o)).added (E16.refl o)
  rwa [added_added] at this

/-! ### Bytes gone through -/
/-- The first m whole blocks. -/
def thW (C : (Nat → UInt8) → Nat → UInt8) (dl o : Nat → UInt8) (T : List UInt8) : Nat → List UInt8
  | 0 => []
  | m + 1 => thW C dl o T m ++ lst 16 (wb C (ofs dl o (m + 1)) (cutF T (16 * m)))
theorem thW_len : ∀ m, (thW C dl o T m).length = 16 * m
  | 0 => rfl
  | m + 1 => by rw [thW, List.length_append, thW_len m, lst_len]; omega
/-- What is left behind the whole ones. -/
def thR (E : (Nat → UInt8) → Nat → UInt8) (st dl o : Nat → UInt8) (T : List UInt8) (n : Nat) : Nat → UInt8 := added (cutF T (16 * (n / 16))) (E (added (ofs dl o (n / 16)) st))
def thN (C E : (Nat → UInt8) → Nat → UInt8) (st dl o : Nat → UInt8) (T : List UInt8) (n : Nat) : List UInt8 := thW C dl o T (n / 16) ++ lst (n % 16) (thR E st dl o T n)
def thL (C E : (Nat → UInt8) → Nat → UInt8) (st dl o : Nat → UInt8) (T : List UInt8) : List UInt8 := thN C E st dl o T T.length
variable {n : Nat}
theorem thN_len : (thN C E st dl o T n).length = n := by unfold thN; rw [List.length_append, thW_len, lst_len]; omega
theorem thL_len : (thL C E st dl o T).length = T.length := thN_len
theorem thW_at : ∀ m i j, i < m → j < 16 → (thW C dl o T m)[16 * i + j]? = some (wb C (ofs dl o (i + 1)) (cutF T (16 * i)) j)
  | 0, _, _, h, _ => by omega
  | m + 1, i, j, h, hj => by
    rw [thW]
    by_cases hi : i < m
    · rw [List.getElem?_append_left (by rw [thW_len]; omega)]; exact thW_at m i j hi hj
    · obtain rfl : i = m := by omega
      rw [List.getElem?_append_right (by rw [thW_len]; omega), thW_len, show 16 * i + j - 16 * i = j by omega, lst_get hj]
theorem thN_get {i j : Nat} (hi : i < n / 16) (hj : j < 16) : (thN C E st dl o T n)[16 * i + j]? = some (wb C (ofs dl o (i + 1)) (cutF T (16 * i)) j) := by
  unfold thN
  rw [List.getElem?_append_left (by rw [thW_len]; omega), thW_at _ _ _ hi hj]
theorem thN_end {j : Nat} (hj : j < n % 16) : (thN C E st dl o T n)[16 * (n / 16) + j]? = some (thR E st dl o T n j) := by
  unfold thN
  rw [List.getElem?_append_right (by rw [thW_len]; omega), thW_len, show 16 * (n / 16) + j - 16 * (n / 16) = j by omega, lst_get hj]
theorem cut_of {k j : Nat} {x : UInt8} (h : T[k + j]? = some x) : cutF T k j = x := by
  unfold cutF
  rw [List.getD_eq_getElem?_getD, h]
  rfl
theorem cut_get {k j : Nat} (h : k + j < T.length) : T[k + j]? = some (cutF T k j) := by
  unfold cutF
  rw [List.getD_eq_getElem?_getD, List.getElem?_eq_getElem h]
  rfl
/-- What was sealed is opened. -/
theorem thN_back (hD : ∀ x y, E16 x y → E16 (D x) (D y)) (hDE : ∀ x, E16 (D (E x)) x) (hn : T.length = n) : thN D E st dl o (thN E E st dl o T n) n = T := by
  apply List.ext_getElem?
  intro j
  by_cases hj : j < n
  · by_cases hw : j < 16 * (n / 16)
    · obtain ⟨i, r, rfl, hr⟩ : ∃ i r, j = 16 * i + r ∧ r < 16 := ⟨j / 16, j % 16, by omega, by omega⟩
      have h1 : E16 (cutF (thN E E st dl o T n) (16 * i)) (wb E (ofs dl o (i + 1)) (cutF T (16 * i))) := fun q hq => cut_of (thN_get (by omega) hq)
      rw [thN_get (by omega) hr, cut_get (by omega)]
      exact congrArg some (((wb_E16 hD h1).trans (wb_back hDE _)) r hr)
    · obtain ⟨r, rfl⟩ : ∃ r, j = 16 * (n / 16) + r := ⟨j - 16 * (n / 16), by omega⟩
      have hr : r < n % 16 := by omega
      rw [thN_end hr, cut_get (by omega)]
      show some (xr (cutF (thN E E st dl o T n) (16 * (n / 16)) r) (E (added (ofs dl o (n / 16)) st) r)) = _
      rw [cut_of (thN_end hr)]
      exact congrArg some (by
        show (cutF T _ r ^^^ _) ^^^ _ = _
        rw [UInt8.xor_assoc, UInt8.xor_self, UInt8.xor_zero])
  · rw [List.getElem?_eq_none (by rw [thN_len]; omega), List.getElem?_eq_none (by omega)]
theorem thL_back (hD : ∀ x y, E16 x y → E16 (D x) (D y)) (hDE : ∀ x, E16 (D (E x)) x) : thL D E st dl o (thL E E st dl o T) = T := by
  show thN D E st dl o (thN E E st dl o T T.length) (thN E E st dl o T T.length).length = T
  rw [thN_len]
  exact thN_back hD hDE rfl
end

/-! ### Sums -/
def smW (T : List UInt8) : Nat → Nat → UInt8
  | 0 => fun _ => 0
  | m + 1 => added (smW T m) (cutF T (16 * m))
def smL (T : List UInt8) : Nat → UInt8 := if T.length % 16 = 0 then smW T (T.length / 16) else added (smW T (T.length / 16)) (pdB (T.length % 16) (cutF T (16 * (T.length / 16))))
def hsW (E : (Nat → UInt8) → Nat → UInt8) (dl : Nat → UInt8) (A : List UInt8) : Nat → Nat → UInt8
  | 0 => fun _ => 0
  | m + 1 => added (hsW E dl A m) (E (added (cutF A (16 * m)) (ofs dl (fun _ => 0) (m + 1))))
def hsL (E : (Nat → UInt8) → Nat → UInt8) (st dl : Nat → UInt8) (A : List UInt8) : Nat → UInt8 :=
  if A.length % 16 = 0 then hsW E dl A (A.length / 16) else added (hsW E dl A (A.length / 16)) (E (added (pdB (A.length % 16) (cutF A (16 * (A.length / 16)))) (added (ofs dl (fun _ => 0) (A.length / 16)) st)))
def tgB (E : (Nat → UInt8) → Nat → UInt8) (st dl o : Nat → UInt8) (A T : List UInt8) : Nat → UInt8 := added (E (added (smL T) (added (ofE st dl o T.length) dl))) (hsL E st dl A)

/-! ### The first offset -/
/-- A nonce as a block. -/
def ncB (N : List UInt8) : Nat → UInt8 := fun j => if j < 15 - N.length then 0 else if j = 15 - N.length then 1 else cutF N 0 (j - (16 - N.length))
def ncT (N : List UInt8) : Nat → UInt8 := stF (ncB N) 15 (ncB N 15 &&& 192)
def btm (N : List UInt8) : Nat := (ncB N 15 &&& 63).toNat
/-- Stretch of Ktop. -/
def srB (t : Nat → UInt8) : Nat → UInt8 := fun j => if j < 16 then t j else xr (t (j - 16)) (t (j - 15))
def ctB (s : Nat → UInt8) (b : Nat) : Nat → UInt8 := fun j => sl8 (s (b / 8 + j)) (b % 8) ||| sr8 (s (b / 8 + j + 1)) (8 - b % 8)
def of0 (E : (Nat → UInt8) → Nat → UInt8) (N : List UInt8) : Nat → UInt8 := ctB (srB (E (ncT N))) (btm N)

/-! ### Seal, Open -/
def ocA (K N : List UInt8) : Prop := (K.length = 16 ∨ K.length = 32) ∧ 1 ≤ N.length ∧ N.length ≤ 15
instance (K N : List UInt8) : Decidable (ocA K N) := by unfold ocA; infer_instance
def ocSt (K : List UInt8) : Nat → UInt8 := aeE K fun _ => 0
def ocDl (K : List UInt8) : Nat → UInt8 := dbB (ocSt K)
def ocT (K N A T : List UInt8) : Nat → UInt8 := tgB (aeE K) (ocSt K) (ocDl K) (of0 (aeE K) N) A T
/-- Sealed: the bytes, and the tag. -/
def ocS (K N A T : List UInt8) : List UInt8 := thL (aeE K) (aeE K) (ocSt K) (ocDl K) (of0 (aeE K) N) T ++ lst 16 (ocT K N A T)
def ocP (K N S : List UInt8) : List UInt8 := thL (aeD K) (aeE K) (ocSt K) (ocDl K) (of0 (aeE K) N) (S.take (S.length - 16))
/-- It is opened. -/
def ocG (K N A S : List UInt8) : Prop := 16 ≤ S.length ∧ lst 16 (ocT K N A (ocP K N S)) = S.drop (S.length - 16)
instance (K N A S : List UInt8) : Decidable (ocG K N A S) := by unfold ocG; infer_instance
theorem ocS_len (K N A T : List UInt8) : (ocS K N A T).length = T.length + 16 := by unfold ocS; rw [List.length_append, thL_len, lst_len]
theorem ocP_seal (K N A T : List UInt8) : ocP K N (ocS K N A T) = T := by
  unfold ocP
  rw [ocS_len, Nat.add_sub_cancel]
  unfold ocS
  rw [List.take_left' thL_len]
  exact thL_back (fun x y h => aeD_E16 K h) (aeD_aeE K)
/-- What was sealed is opened. -/
theorem ocG_seal (K N A T : List UInt8) : ocG K N A (ocS K N A T) := by
  refine ⟨by rw [ocS_len]; omega, ?_⟩
  rw [ocP_seal, ocS_len, Nat.add_sub_cancel]
  unfold ocS
  rw [List.drop_left' thL_len]
end Go.Proofs.YtfloiekaiiapnaaGreatDoor

namespace Go.Proofs.YtfloiekaiiapnaaGreatDoor

/-- A number in k bytes, the highest first; the number that bytes are. -/
def beL (k n : Nat) : List UInt8 := (List.range k).map fun j => UInt8.ofNat (n / 2 ^ (8 * (k - 1 - j)))
theorem beL_len (k n : Nat) : (beL k n).length = k := by simp [beL]
theorem beL_get {k n j : Nat} (h : j < k) : (beL k n)[j]? = some (UInt8.ofNat (n / 2 ^ (8 * (k - 1 - j)))) := by simp [beL, h]
end Go.Proofs.YtfloiekaiiapnaaGreatDoor

namespace Go.Proofs.YtfloiekaiiapnaaGreatDoor
open Go Go.RowKit

/-- What says how it is sealed; the key, and the beginning of nonces. -/
def spI (c : Nat) : List UInt8 := [210, 2, 9, 2, UInt8.ofNat c]
def spD (S salt : List UInt8) (c : Nat) : List UInt8 := okmL salt S (spI c) 39
def spN (b : List UInt8) (i : Nat) : List UInt8 := b ++ beL 8 i
/-- The chunk i of z bytes; how many there are of n bytes. -/
def spK (z : Nat) (P : List UInt8) (i : Nat) : List UInt8 := (P.drop (z * i)).take z
def spC (z n : Nat) : Nat := (n + (z - 1)) / z
theorem spK_len (z : Nat) (P : List UInt8) (i : Nat) : (spK z P i).length = min z (P.length - z * i) := by unfold spK; rw [List.length_take, List.length_drop]
theorem spC_lt {z n i : Nat} (hz : 0 < z) : i < spC z n ↔ z * i < n := by
  unfold spC
  rw [Nat.lt_div_iff_mul_lt hz, Nat.mul_comm z i]
  constructor <;> intro h <;> omega
theorem spN_len {b : List UInt8} (h : b.length = 7) (i : Nat) : (spN b i).length = 15 := by unfold spN; rw [List.length_append, beL_len, h]
section
variable (K b A : List UInt8) (z : Nat)

/-! ### Sealed -/
/-- The first n chunks. -/
def spW (P : List UInt8) : Nat → List UInt8
  | 0 => []
  | i + 1 => spW P i ++ ocS K (spN b i) A (spK z P i)
/-- The last tag, behind n chunks of m bytes. -/
def spE (n m : Nat) : List UInt8 := ocS K (spN b n) (A ++ beL 8 m) []
def spS (P : List UInt8) : List UInt8 := spW K b A z P (spC z P.length) ++ spE K b A (spC z P.length) P.length
theorem spE_len (n m : Nat) : (spE K b A n m).length = 16 := by unfold spE; rw [ocS_len]; rfl
/-! ### Opened -/
/-- The end of what is opened, O until now. -/
def spL (i : Nat) (R O : List UInt8) : Option (List UInt8) := if ocG K (spN b i) (A ++ beL 8 O.length) R ∧ (ocP K (spN b i) R).length = 0 then some O else none
/-- The next chunk's bytes. -/
def spH (R : List UInt8) : List UInt8 := R.take (min (z + 16) (R.length - 16))
def spO : Nat → Nat → List UInt8 → List UInt8 → Option (List UInt8)
  | 0, i, R, O => spL K b A i R O
  | f + 1, i, R, O =>
    if R.length ≤ 16 then spL K b A i R O
    else if ocG K (spN b i) A (spH z R) ∧ (ocP K (spN b i) (spH z R)).length ≠ 0 then spO f (i + 1) (R.drop (min (z + 16) (R.length - 16))) (O ++ ocP K (spN b i) (spH z R))
    else none
variable {K b A z}
theorem spO_end {f i : Nat} {R O : List UInt8} (h : R.length ≤ 16) : spO K b A z f i R O = spL K b A i R O := by
  cases f with
  | zero => rfl
  | succ f => rw [spO, if_pos h]
theorem spO_next {f i : Nat} {R O : List UInt8} (h : 16 < R.length) (h1 : ocG K (spN b i) A (spH z R)) (h2 : (ocP K (spN b i) (spH z R)).length ≠ 0) : spO K b A z (f + 1) i R O = spO K b A z f (i + 1) (R.drop (min (z + 16) (R.length - 16))) (O ++ ocP K (spN b i) (spH z R)) := by
  rw [spO, if_neg (by omega), if_pos ⟨h1, h2⟩]
theorem spO_bad {f i : Nat} {R O : List UInt8} (h : 16 < R.length) (h1 : ¬ (ocG K (spN b i) A (spH z R) ∧ (ocP K (spN b i) (spH z R)).length ≠ 0)) : spO K b A z (f + 1) i R O = none := by
  rw [spO, if_neg (by omega), if_neg h1]
end
/-! ### The whole -/
def spKey (S salt : List UInt8) (c : Nat) : List UInt8 := (spD S salt c).take 32
def spBeg (S salt : List UInt8) (c : Nat) : List UInt8 := (spD S salt c).drop 32
/-- A sealed body. -/
def spBody (S salt : List UInt8) (c : Nat) (P : List UInt8) : List UInt8 := [2, 9, 2, UInt8.ofNat c] ++ salt ++ spS (spKey S salt c) (spBeg S salt c) (spI c) (2 ^ (6 + c)) P
/-- What a body of at least 36 bytes opens to, its kinds right. -/
def spOpen (S B : List UInt8) : Option (List UInt8) := spO (spKey S ((B.drop 4).take 32) (B.getD 3 0).toNat) (spBeg S ((B.drop 4).take 32) (B.getD 3 0).toNat) (spI (B.getD 3 0).toNat) (2 ^ (6 + (B.getD 3 0).toNat)) (B.length - 36) 0 (B.drop 36) []
theorem spD_len (S salt : List UInt8) (c : Nat) : (spD S salt c).length = 39 := okm_len _ _ _ (by decide)
end Go.Proofs.YtfloiekaiiapnaaGreatDoor

namespace Go.Proofs.YtfloiekaiiapnaaGreatDoor
open Go Go.RowKit

theorem bytes_step {m n i : Nat} (hi : i < m) : (List.replicate (m - i) 0 ++ (beL m n).drop (m - i)).set (m - 1 - i) (UInt8.ofNat (n / 2 ^ (8 * i))) = List.replicate (m - (i + 1)) 0 ++ (beL m n).drop (m - (i + 1)) := by
  have e : m - i = (m - (i + 1)) + 1 := by omega
  rw [List.set_append_left _ _ (by rw [List.length_replicate]; omega), e, List.replicate_succ', List.set_append_right _ _ (by rw [List.length_replicate]; omega), List.length_replicate, show m - 1 - i - (m - (i + 1)) = 0 by omega, List.set_cons_zero, List.append_assoc]
  congr 1
  have hg := beL_get (k := m) (n := n) (j := m - (i + 1)) (by omega)
  rw [show m - 1 - (m - (i + 1)) = i by omega] at hg
  exact (drop_at hg).symm
end Go.Proofs.YtfloiekaiiapnaaGreatDoor

namespace Go.Proofs.YtfloiekaiiapnaaGreatDoor
open Go Go.RowKit
set_option maxRecDepth 100000

set_option maxHeartbeats 8000000 in
theorem bytes_r (n m : Nat) (h8 : m ≤ 8) : Does Tryz.prog 21 #[(.int .u64 (((n) : Nat) : Int)), (.int .i64 (((m) : Nat) : Int))] [] (fun _ => True) (fun v E' => OwnT cByte 5 v (beL m n) E') := by
  refine does_of (fn := Tryz.f21) Tryz.func21 rfl Tryz.ntmps21 (Nat.le_of_ble_eq_true rfl) rfl ?_
  intro w0 hH hR
  replace hH : HH w0 [] [] w0 := hH.only [false]
  refine cxSeq ?_
  refine cxReg ?_
  refine pxV (v := (.slice none 0 0)) (fun _ _ hF => opAssign rfl rfl) rfl (fun _ _ => rfl) (kA rfl) (by decide) ?_
  refine pxEnd ?_
  refine qxThen ?_
  refine cxSeq ?_
  refine cxReg ?_
  refine pxV (v := (.int .i64 (((m) : Nat) : Int))) (fun _ _ hF => opMove rfl (hF.ev 2 rfl)) rfl (fun _ _ => rfl) (kM [false, true, true] rfl rfl) (by decide) ?_
  refine pxM hH (fun _ hF => smMake (e := 5) (n := m) (sz := 1) (by_ := 1) (z := (.int .u8 0)) (cs := madeCells (cByte.enc 0) (m * 1)) rfl (by kernel_rfl) (by kernel_rfl) (hF.ev 0 rfl) (hF.ev 0 rfl) rfl rfl (by omega) (by omega) rfl) trivial rfl (fun _ _ => rfl) (kM [false, true, true] rfl rfl) (by decide) ?_
  clear hH
  rintro _ _ w ⟨g1, rfl, rfl⟩ hH
  replace hH : HH w0 [] [[bl g1 5 (madeCells (cByte.enc 0) (m * 1))]] w := hH
  refine pxV (v := (.slice (some ⟨g1, 0, none⟩) m m)) (fun _ _ hF => opAssign rfl (hF.ev 0 rfl)) rfl (fun _ _ => rfl) (kM [false, true, true] rfl rfl) (by decide) ?_
  refine pxEnd ?_
  refine qxThen ?_
  refine cxSeq ?_
  refine cxSeq ?_
  refine cxReg ?_
  refine pxV (v := (.int .i64 (((m) : Nat) : Int))) (fun _ _ hF => opMove rfl (hF.ev 2 rfl)) rfl (fun _ _ => rfl) (kA rfl) (by decide) ?_
  refine pxV (v := (.int .i64 0)) (fun _ _ hF => opMove rfl rfl) rfl (fun _ _ => rfl) (kA rfl) (by decide) ?_
  refine pxEnd ?_
  refine qxThen ?_
  refine cxBlock ?_
  refine cxLoop (σ := Nat × (List UInt8) × (Array Value)) (fun x => [(10, (.int .i64 (((x.1) : Nat) : Int))), (9, (.int .i64 (((m) : Nat) : Int))), (5, (.slice (some ⟨g1, 0, none⟩) m m)), (1, (.int .i64 (((m) : Nat) : Int))), (0, (.int .u64 (((n) : Nat) : Int)))]) (fun x w => HH w0 [] [[bl g1 5 x.2.2]] w ∧ (x.1 ≤ m) ∧ (Bk cByte m x.2.2 x.2.1) ∧ (x.2.1.length = m) ∧ (x.2.1 = List.replicate (m - x.1) 0 ++ (beL m n).drop (m - x.1))) (fun x => m - x.1) (0, (List.replicate m 0), (madeCells (cByte.enc 0) (m * 1))) ⟨hH, (Nat.zero_le _), (Bk.make (C := cByte) 0 m (ltb rfl) (by unfold maxLen; omega)), List.length_replicate, (by rw [Nat.sub_zero, List.drop_eq_nil_of_le (by rw [beL_len]; exact Nat.le_refl _), List.append_nil])⟩ (slots_at [0, 1, 2, 4, 3] rfl) ?_
  clear hH
  rintro ⟨i, L, cur'⟩ w ⟨hH, hi, hB', hlen, hL⟩
  change CX _ _ _ _ [(10, (.int .i64 (((i) : Nat) : Int))), (9, (.int .i64 (((m) : Nat) : Int))), (5, (.slice (some ⟨g1, 0, none⟩) m m)), (1, (.int .i64 (((m) : Nat) : Int))), (0, (.int .u64 (((n) : Nat) : Int)))] _
  replace hH : HH w0 [] [[bl g1 5 cur']] w := hH
  replace hi : i ≤ m := hi
  replace hB' : Bk cByte m cur' L := hB'
  replace hlen : L.length = m := hlen
  replace hL : L = List.replicate (m - i) 0 ++ (beL m n).drop (m - i) := hL
  refine cxSeq ?_
  refine cxReg ?_
  refine pxV (v := (.bool (decide (i < m)))) (fun _ _ hF => opLss rfl (hF.ev 0 rfl) (hF.ev 1 rfl) (dc (by omega))) rfl (fun _ _ => rfl) (kA rfl) (by decide) ?_
  refine pxEnd ?_
  refine qxThen ?_
  refine cxSeq ?_
  refine cxP 0 rfl rfl (fun hc2 => ?_) (fun hc2 => ?_)
  · refine cxSkip ?_
    refine qxThen ?_
    refine cxSeq ?_
    refine cxBlock ?_
    refine cxSeq ?_
    refine cxReg ?_
    refine pxV (v := (.int .i64 (((i) : Nat) : Int))) (fun _ _ hF => opMove rfl (hF.ev 1 rfl)) rfl (fun _ _ => rfl) (kM [false, true, true, true, true, true] rfl rfl) (by decide) ?_
    refine pxV (v := (.int .i64 (((i) : Nat) : Int))) (fun _ _ hF => opAssign rfl (hF.ev 0 rfl)) rfl (fun _ _ => rfl) (kM [false, true, true, true, true, true] rfl rfl) (by decide) ?_
    refine pxEnd ?_
    refine qxThen ?_
    refine cxReg ?_
    refine pxV (v := (.slice (some ⟨g1, 0, none⟩) m m)) (fun _ _ hF => opMove rfl (hF.ev 3 rfl)) rfl (fun _ _ => rfl) (kA rfl) (by decide) ?_
    refine pxV (v := (.int .i64 (((m) : Nat) : Int))) (fun _ _ hF => opMove rfl (hF.ev 5 rfl)) rfl (fun _ _ => rfl) (kA rfl) (by decide) ?_
    refine pxV (v := (.int .i64 (((m - 1) : Nat) : Int))) (fun _ _ hF => opSub rfl (hF.ev 0 rfl) rfl (wI (by omega) (by omega) (by omega))) rfl (fun _ _ => rfl) (kM [false, true, true, true, true, true, true, true] rfl rfl) (by decide) ?_
    refine pxV (v := (.int .i64 (((i) : Nat) : Int))) (fun _ _ hF => opMove rfl (hF.ev 2 rfl)) rfl (fun _ _ => rfl) (kA rfl) (by decide) ?_
    refine pxV (v := (.int .i64 (((m - 1 - i) : Nat) : Int))) (fun _ _ hF => opSub rfl (hF.ev 1 rfl) (hF.ev 0 rfl) (wI (by omega) (by omega) (by omega))) rfl (fun _ _ => rfl) (kM [false, false, true, true, true, true, true, true, true] rfl rfl) (by decide) ?_
    refine pxV (v := (.int .u64 (((n) : Nat) : Int))) (fun _ _ hF => opMove rfl (hF.ev 7 rfl)) rfl (fun _ _ => rfl) (kA rfl) (by decide) ?_
    refine pxV (v := (.int .i64 (((i) : Nat) : Int))) (fun _ _ hF => opMove rfl (hF.ev 3 rfl)) rfl (fun _ _ => rfl) (kM [true, true, true, false, true, true, true, true, true] rfl rfl) (by decide) ?_
    refine pxV (v := (.int .i64 (((8 * i) : Nat) : Int))) (fun _ _ hF => opMul rfl rfl (hF.ev 0 rfl) (wI (by omega) (by omega) (by omega))) rfl (fun _ _ => rfl) (kM [false, true, true, true, true, true, true, true, true] rfl rfl) (by decide) ?_
    refine pxV (v := (.int .u64 (((n / 2 ^ (8 * i)) : Nat) : Int))) (fun _ _ hF => opShrU (n := 8 * i) (z := (n / 2 ^ (8 * i))) rfl (hF.ev 1 rfl) (hF.ev 0 rfl) (by show _ ≤ 64; omega) (rfl)) rfl (fun _ _ => rfl) (kM [false, false, true, true, true, true, true, true, true] rfl rfl) (by decide) ?_
    refine pxV (v := (.int .u8 ((((UInt8.ofNat (n / 2 ^ (8 * i))).toNat) : Nat) : Int))) (fun _ _ hF => opConvU (k' := .u8) rfl rfl (by kernel_rfl) (by kernel_rfl) (hF.ev 0 rfl) (UInt8.toNat_ofNat' (n := n / 2 ^ (8 * i))).symm) rfl (fun _ _ => rfl) (kM [false, true, true, true, true, true, true, true] rfl rfl) (by decide) ?_
    have hi3 : m - 1 - i < m := by omega
    have hj6 : m - 1 - i < L.length := by first | exact hi3 | (simp only [List.length_drop]; omega) | (simp only [List.length_drop, List.length_take]; omega) | omega
    obtain ⟨x4, hx5⟩ := get_at L (m - 1 - i) hj6
    have hb7 := UInt8.toNat_lt x4
    refine pxV (v := (.pointer (some ⟨g1, 0 + (m - 1 - i) * 1, none⟩))) (fun _ _ hF => opIndex (i := m - 1 - i) (e := 5) (sz := 1) rfl (by kernel_rfl) (by kernel_rfl) (hF.ev 2 rfl) (hF.ev 1 rfl) rfl hi3) rfl (fun _ _ => rfl) (kM [true, false, false, true, true, true, true, true] rfl rfl) (by decide) ?_
    obtain ⟨cur9, hcs10, hB8⟩ : ∃ cs, putL cur' (0 + (m - 1 - i) * 1) (cByte.enc (UInt8.ofNat (n / 2 ^ (8 * i)))).toList = cs ∧ Bk cByte m cs (L.set (m - 1 - i) (UInt8.ofNat (n / 2 ^ (8 * i)))) := ⟨_, rfl, put_at hB' (m - 1 - i) hj6 (UInt8.ofNat (n / 2 ^ (8 * i)))⟩
    refine pxE0 0 hH rfl (fun _ hF => smStoreT (C := cByte) (z := (UInt8.ofNat (n / 2 ^ (8 * i)))) rfl (hF.ev 0 rfl) (hF.ev 1 rfl) rfl (by kernel_rfl) (room_at hB' hj6) hcs10) trivial rfl (fun _ _ => rfl) ?_
    clear hH
    rintro _ _ w rfl hH
    replace hH : HH w0 [] [[bl g1 5 cur9]] w := hH
    refine pxEnd ?_
    refine qxInN ?_
    refine qxThen ?_
    refine cxReg ?_
    refine pxV (v := (.int .i64 (((i + 1) : Nat) : Int))) (fun _ _ hF => opAdd rfl (hF.ev 2 rfl) rfl (wI (by omega) (by omega) (by omega))) rfl (fun _ _ => rfl) (kM [false, false, false, true, true, true, true] rfl rfl) (by decide) ?_
    refine pxV (v := (.int .i64 (((i + 1) : Nat) : Int))) (fun _ _ hF => opMove rfl (hF.ev 0 rfl)) rfl (fun _ _ => rfl) (kM [false, true, true, true, true] rfl rfl) (by decide) ?_
    refine pxEnd ?_
    exact qxRound (i + 1, (L.set (m - 1 - i) (UInt8.ofNat (n / 2 ^ (8 * i)))), cur9) ⟨hH, (show (i + 1) ≤ m from (by omega)), hB8, (by rw [List.length_set]; exact hlen), (show (L.set (m - 1 - i) (UInt8.ofNat (n / 2 ^ (8 * i)))) = List.replicate (m - (i + 1)) 0 ++ (beL m n).drop (m - (i + 1)) from (by rw [hL]; exact bytes_step (by omega)))⟩ (by omega) (slots_at [0, 1, 2, 3, 4] rfl)
  · refine cxExit ?_
    refine qxThenE ?_
    refine qxThenE ?_
    refine qxInE ?_
    refine qxThen ?_
    refine cxSeq ?_
    refine cxReg ?_
    refine pxV (v := (.slice (some ⟨g1, 0, none⟩) m m)) (fun _ _ hF => opMove rfl (hF.ev 3 rfl)) rfl (fun _ _ => rfl) (kM [false, false, false, false, false, false] rfl rfl) (by decide) ?_
    refine pxV (v := (.slice (some ⟨g1, 0, none⟩) m m)) (fun _ _ hF => opAssign rfl (hF.ev 0 rfl)) rfl (fun _ _ => rfl) (kM [false] rfl rfl) (by decide) ?_
    refine pxEnd ?_
    refine qxThen ?_
    refine cxRet ?_
    refine qxRet1 0 rfl rfl ?_
    have he : L = beL m n := by rw [hL, show m - i = 0 by omega]; rfl
    exact ⟨_, _, rfl, (he ▸ hB'.own 5 g1 hlen), hH.out1 [true] rfl⟩
end Go.Proofs.YtfloiekaiiapnaaGreatDoor

namespace Go.Proofs.YtfloiekaiiapnaaGreatDoor
open Go Go.RowKit
set_option maxRecDepth 100000

set_option maxHeartbeats 8000000 in
theorem rkeyed_c (s : Nat → UInt8) (A : Option Addr) (y : Nat) (l : List UInt8) (h32 : l.length = 32) (c : Nat) : Does Tryz.prog 17 #[((cArr 32).val s), (.slice A l.length y), (.int .i64 (((c) : Nat) : Int))] [] (fun w => Vu cByte w A l.length y l) (fun v E' => ∃ B d si Ek Ei, v = .tuple #[.slice B 32 d, .slice (cutA B d 32 1) 7 (d - 32), si] ∧ E' = Ei ++ Ek ∧ OwnT cByte 5 (.slice B 39 d) (spD (lst 32 s) l c) Ek ∧ OwnT cByte 5 si (spI c) Ei) := by
  refine does_of (fn := Tryz.f17) Tryz.func17 rfl Tryz.ntmps17 (Nat.le_of_ble_eq_true rfl) rfl ?_
  intro w0 hH hR
  replace hH : HH w0 [] [] w0 := hH.only [false]
  refine zr ?_
  refine zm hH (.bx (cArr 32) s) trivial 1 ?_
  clear hH
  rintro _ _ w ⟨g1, rfl, rfl⟩ hH
  refine zv .mv 0 ?_
  refine zv .mv 1 ?_
  refine zv .mv 1 ?_
  refine zn ?_
  refine zr ?_
  refine zv .mv 9 ?_
  refine zv .cb 1 ?_
  refine zm hH (fun _ hF => smLits (C := cByte) (e := 5) (z := (.int .u8 0)) (by_ := 1) [210, 2, 9, 2, (UInt8.ofNat c)] rfl (by kernel_rfl) (by kernel_rfl) (EvP.cons (v := cByte.val 210) rfl (EvP.cons (v := cByte.val 2) rfl (EvP.cons (v := cByte.val 9) rfl (EvP.cons (v := cByte.val 2) rfl (EvP.cons (v := cByte.val (UInt8.ofNat c)) (hF.ev 0 rfl) EvP.nil))))) rfl (ltb rfl) (leb rfl) rfl) trivial 1 ?_
  clear hH
  rintro _ _ w ⟨g2, rfl, rfl⟩ hH
  refine zv .mv 1 ?_
  refine zn ?_
  refine zr ?_
  refine zv .mv 4 ?_
  refine zv (v := (.slice (some ⟨g1, 0, none⟩) 32 32)) (fun _ _ hF => opSliceA (n := 32) (e := 5) (sz := 1) rfl (by kernel_rfl) (by kernel_rfl) (hF.ev 2 rfl)) 4 ?_
  refine zv .mv 0 ?_
  refine zm hH (.call Tryz.func34 ((rhkdfs_c A l.length y l (by omega) (some ⟨g1, 0, none⟩) 32 32 (lst 32 s) (by decide) (some ⟨g2, 0, none⟩) 5 5 ([210, 2, 9, 2, (UInt8.ofNat c)]) (by decide) 39 (by decide) (by decide)))) (⟨(hH.vu hR (by decide) (Off.nil _ _)), (vu_arr (hH.blk 0 rfl)), ((Bk.lits (C := cByte) [210, 2, 9, 2, (UInt8.ofNat c)] (by show 5 ≤ _; unfold maxLen; decide)).vu (n := 5) (hH.blk 1 rfl) rfl)⟩) 7 ?_
  clear hH
  rintro v7 E3 w hO4 hH
  obtain ⟨A5, c6, rfl⟩ := hO4.slice
  refine zv .mv 1 ?_
  refine zn ?_
  have hl : (okmL l (lst 32 s) ([210, 2, 9, 2, (UInt8.ofNat c)]) 39).length = 39 := okm_len _ _ _ (by decide)
  have hcl := hO4.capLe
  refine zx ?_
  replace hH := hH.drew
  refine rv 0 .mv 0 ?_
  refine rv 1 (v := (.slice A5 32 c6)) (fun _ _ hF => opCutH (h := 32) (e := 5) (sz := 1) rfl (by kernel_rfl) (by kernel_rfl) (hF.ev 0 rfl) rfl rfl (by omega)) 1 ?_
  refine rv 2 .mv 2 ?_
  refine rv 3 (v := (.slice (cutA A5 c6 32 1) (((okmL l (lst 32 s) ([210, 2, 9, 2, (UInt8.ofNat c)]) 39).length) - 32) (c6 - 32))) (fun _ _ hF => opCutL (k := 32) (e := 5) (sz := 1) rfl (by kernel_rfl) (by kernel_rfl) (hF.ev 0 rfl) rfl rfl (by omega)) 1 ?_
  refine rv 4 .mv 4 ?_
  refine rv 5 .mv 4 ?_
  refine rv 6 .mv 4 ?_
  refine rv 7 .mv 4 ?_
  refine rn ?_
  refine cxRet ?_
  refine qxRet3 2 1 0 rfl rfl rfl rfl ?_
  have hk : OwnT cByte 5 _ (spD (lst 32 s) l c) _ := hO4
  rw [show (okmL l (lst 32 s) ([210, 2, 9, 2, (UInt8.ofNat c)]) 39).length = 39 from hl] at hk ⊢
  exact ⟨_, _, rfl, ⟨_, _, _, _, _, rfl, rfl, hk, (Bk.lits (C := cByte) [210, 2, 9, 2, (UInt8.ofNat c)] (by show 5 ≤ _; unfold maxLen; decide)).own 5 g2 rfl⟩, by simpa [pickG] using hH.out [false, true, true]⟩

theorem rkeyed_n (s : Nat → UInt8) (A : Option Addr) (n y : Nat) (l : List UInt8) (h32 : l.length = 32) (c : Nat) : Does Tryz.prog 17 #[((cArr 32).val s), (.slice A n y), (.int .i64 (((c) : Nat) : Int))] [] (fun w => Vu cByte w A n y l) (fun v E' => ∃ B d si Ek Ei, v = .tuple #[.slice B 32 d, .slice (cutA B d 32 1) 7 (d - 32), si] ∧ E' = Ei ++ Ek ∧ OwnT cByte 5 (.slice B 39 d) (spD (lst 32 s) l c) Ek ∧ OwnT cByte 5 si (spI c) Ei) := fun w hE hR => by
  obtain rfl := hR.len
  exact rkeyed_c s A y l h32 c w hE hR

theorem rjoin2 (A : Option Addr) (c : Nat) (hs : List (Option Addr × Nat × Nat)) (a b : List UInt8) (hb : a.length + b.length ≤ 70368744177664) : Does Tryz.prog 18 #[.slice A 2 c] [] (fun w => Vu cSl w A 2 c hs ∧ ViewsL w hs [a, b]) (fun v E' => OwnT cByte 5 v (a ++ b) E') := by
  have e : [a, b].flatten = a ++ b := by simp
  have h := rjoin_c A 2 c hs [a, b] rfl (by decide) (by rw [e, List.length_append]; exact hb)
  rw [e] at h
  exact h

set_option maxHeartbeats 8000000 in
theorem rnonce_c (A : Option Addr) (n y : Nat) (b : List UInt8) (h7 : b.length = 7) (i : Nat) (hi : i < 2 ^ 63) : Does Tryz.prog 20 #[(.slice A n y), (.int .i64 (((i) : Nat) : Int))] [] (fun w => Vu cByte w A n y b) (fun v E' => OwnT cByte 5 v (spN b i) E') := by
  refine does_of (fn := Tryz.f20) Tryz.func20 rfl Tryz.ntmps20 (Nat.le_of_ble_eq_true rfl) rfl ?_
  intro w0 hH hR
  replace hH : HH w0 [] [] w0 := hH.only [false]
  refine zr ?_
  refine zv .mv 0 ?_
  refine zn ?_
  refine zr ?_
  refine zv .mv 3 ?_
  refine zv .mv 2 ?_
  refine zv (.cu .u64) 1 ?_
  refine zm hH (.call Tryz.func21 ((bytes_r i 8 (by decide)))) trivial 1 ?_
  clear hH
  rintro v5 E1 w hO2 hH
  obtain ⟨A3, c4, rfl⟩ := hO2.slice
  refine zm hH (fun _ hF => smLits (C := cSl) (e := 23) (z := (.slice none 0 0)) (by_ := 24) [(A, n, y), (A3, (beL 8 i).length, c4)] rfl (by kernel_rfl) (by kernel_rfl) (EvP.cons (v := cSl.val (A, n, y)) (hF.ev 1 rfl) (EvP.cons (v := cSl.val (A3, (beL 8 i).length, c4)) (hF.ev 0 rfl) EvP.nil)) rfl (ltb rfl) (leb rfl) rfl) trivial 3 ?_
  clear hH
  rintro _ _ w ⟨g7, rfl, rfl⟩ hH
  refine zm hH (.call Tryz.func18 ((rjoin2 (some ⟨g7, 0, none⟩) 2 [(A, n, y), (A3, (beL 8 i).length, c4)] b (beL 8 i) (by rw [beL_len]; omega)))) (⟨((Bk.lits (C := cSl) [(A, n, y), (A3, (beL 8 i).length, c4)] (by show 2 ≤ _; unfold maxLen; decide)).vu (n := 2) (hH.blk 1 rfl) rfl), (.cons (hH.vu hR (by decide) (Off.nil _ _)) (.cons (hO2.vuAt (hH.has 0 rfl)) ViewsL.nil))⟩) 1 ?_
  clear hH
  rintro v12 E8 w hO9 hH
  obtain ⟨A10, c11, rfl⟩ := hO9.slice
  refine zv .mv 1 ?_
  refine zn ?_
  refine cxRet ?_
  refine qxRet1 0 rfl rfl ?_
  exact ⟨_, _, rfl, hO9, hH.out1 [false, false, true] rfl⟩
end Go.Proofs.YtfloiekaiiapnaaGreatDoor

namespace Go.Proofs.YtfloiekaiiapnaaGreatDoor
open Go Go.RowKit

def ovA (k : Nat) (l : List UInt8) (f : Nat → UInt8) : Nat → UInt8 := fun j => if k ≤ j ∧ j < k + l.length then l.getD (j - k) 0 else f j
theorem arr_ovA {n : Nat} (k : Nat) (l : List UInt8) (f : Nat → UInt8) : putL ((cArr n).enc f) (0 + k * 1) (flat cByte l) = (cArr n).enc (ovA k l f) := by
  apply Array.ext_getElem?
  intro j
  have hf : (flat cByte l).length = l.length := by rw [flat_len]; exact Nat.mul_one _
  rw [putL_get, enc_arr, enc_arr, row_size, hf, Nat.zero_add, Nat.mul_one]
  by_cases hj : j < n
  · rw [row_get n _ j hj, row_get n _ j hj]
    by_cases h1 : k ≤ j ∧ j < k + l.length
    · rw [if_pos (by omega)]
      have hx : l[j - k]? = some l[j - k] := List.getElem?_eq_getElem (by omega)
      have h2 := flat_get (C := cByte) l (j - k) 0 l[j - k] (by8 l[j - k]) hx rfl
      rw [show (j - k) * cByte.sz + 0 = j - k from Nat.mul_one _] at h2
      have hv : ovA k l f j = l[j - k] := by
        unfold ovA
        rw [if_pos h1, List.getD_eq_getElem?_getD, hx]
        rfl
      rw [hv]
      exact h2
    · rw [if_neg (by omega)]
      have hv : ovA k l f j = f j := if_neg h1
      rw [hv]
  · rw [if_neg (by omega), Array.getElem?_eq_none (by rw [row_size]; omega), Array.getElem?_eq_none (by rw [row_size]; omega)]
theorem Holds.row {w : World} {b off N : Nat} {f : Nat → UInt8} (h : Holds (cArr N) w b off f) (i m : Nat) (hi : m * i + m ≤ N) : Holds (cArr m) w b (off + i * m) (fun k => f (m * i + k)) := fun j u hu => by
  have hj : j < m := by
    by_cases hj : j < m
    · exact hj
    · rw [enc_arr, Array.getElem?_eq_none (by rw [row_size]; omega)] at hu; cases hu
  rw [enc_arr, row_get m _ j hj] at hu
  have := h (m * i + j) u (by rw [enc_arr, row_get N _ _ (by omega)]; exact hu)
  rwa [show off + i * m + j = off + (m * i + j) by rw [Nat.mul_comm i m]; omega]
end Go.Proofs.YtfloiekaiiapnaaGreatDoor

namespace Go.Proofs.YtfloiekaiiapnaaGreatDoor
open Go Go.RowKit

section
variable {P : Program} {Q : Exit → Act → World → Prop} {w w0 : World} {n : Sz} {l l' : Slots} {x y : Code} {fn : Func} {σ : Type}
def qJoin (n : Sz) (fr : σ → Slots) (I : σ → World → Prop) (a : Act) (w : World) : Prop := ∃ z, Fr n (fr z) a ∧ I z w
/-- Whatever way has been gone, what is left is told by σ. -/
theorem cxJoin (fr : σ → Slots) (I : σ → World → Prop) (h1 : CX P (Exit.then (qJoin n fr I) Q) x n l w) (h2 : ∀ z w, I z w → CX P Q y n (fr z) w) : CX P Q (.seq x y) n l w := fun a hF => by
  refine wp_seq (wp_mono (h1 a hF) fun e a w q => ?_)
  cases e with
  | normal =>
    obtain ⟨z, hz, hI⟩ := q
    exact h2 z w hI a hz
  | _ => exact q
theorem qxJoin {fr : σ → Slots} {I : σ → World → Prop} (z : σ) (hI : I z w) (hfr : ∀ q ∈ fr z, q ∈ l) : QX (Exit.then (qJoin n fr I) Q) .normal n l w := fun _ hF => ⟨z, hF.of hfr, hI⟩
end
end Go.Proofs.YtfloiekaiiapnaaGreatDoor

namespace Go.Proofs.YtfloiekaiiapnaaGreatDoor
open Go Go.RowKit
set_option maxRecDepth 100000

abbrev cCi := cPair (cArr 256) (cPair (cArr 256) (cPair (cArr 240) (cNat .i64)))
theorem ci_congr {s s' b b' : Nat → UInt8} {f f' : Nat → UInt8} {r : Nat} (h0 : ∀ j, j < 256 → s j = s' j) (h1 : ∀ j, j < 256 → b j = b' j) (h2 : ∀ j, j < 240 → f j = f' j) : cCi.enc (s, b, f, r) = cCi.enc (s', b', f', r) := by
  rw [enc_pair, enc_pair, enc_pair, enc_pair, enc_pair, enc_pair, arr_congr h0, arr_congr h1, arr_congr h2]
theorem ci_zero (n : Nat) : cCi.enc (fun _ => 0, fun _ => 0, fun _ => 0, n) = (row 752 fun _ => 0).push (.int .i64 (n : Int)) := by
  have e : (cNat .i64).enc n = #[.int .i64 (n : Int)] := rfl
  rw [enc_pair, enc_pair, enc_pair, enc_arr, enc_arr, e]
  apply Array.ext_getElem?
  intro j
  rw [Array.getElem?_push, row_size]
  by_cases h0 : j < 256
  · rw [Array.getElem?_append_left (by rw [row_size]; exact h0), row_get _ _ _ h0, if_neg (by omega), row_get _ _ _ (by omega)]
  · rw [Array.getElem?_append_right (by rw [row_size]; omega), row_size]
    by_cases h1 : j < 512
    · rw [Array.getElem?_append_left (by rw [row_size]; omega), row_get _ _ _ (by omega), if_neg (by omega), row_get _ _ _ (by omega)]
    · rw [Array.getElem?_append_right (by rw [row_size]; omega), row_size]
      by_cases h2 : j < 752
      · rw [Array.getElem?_append_left (by rw [row_size]; omega), row_get _ _ _ (by omega), if_neg (by omega), row_get _ _ _ (by omega)]
      · rw [Array.getElem?_append_right (by rw [row_size]; omega), row_size]
        by_cases h3 : j = 752
        · subst h3; rfl
        · rw [if_neg h3, Array.getElem?_eq_none (by show 1 ≤ _; omega), Array.getElem?_eq_none (by rw [row_size]; omega)]
theorem built10 : Tryz.prog.built 109 [(3, .int .i64 10)] = some ((row 752 fun _ => 0).push (.int .i64 10)) := by kernel_rfl
theorem built14 : Tryz.prog.built 109 [(3, .int .i64 14)] = some ((row 752 fun _ => 0).push (.int .i64 14)) := by kernel_rfl
theorem builtCi (n : Nat) (h : n = 10 ∨ n = 14) : Tryz.prog.built 109 [(3, .int .i64 (n : Int))] = some (cCi.enc (fun _ => 0, fun _ => 0, fun _ => 0, n)) := by
  rw [ci_zero]
  rcases h with rfl | rfl
  · exact built10
  · exact built14

theorem tmS_succ (a b : UInt8) (k : Nat) : tmS a b (k + 1) = (if (tmS a b k).2.2 &&& 1 = 1 then (tmS a b k).1 ^^^ (tmS a b k).2.1 else (tmS a b k).1, sl8 (tmS a b k).2.1 1 ^^^ 27 * sr8 (tmS a b k).2.1 7, sr8 (tmS a b k).2.2 1) := rfl
theorem byte_eq {x : UInt8} {n : Nat} (h : x.toNat = n) : x = UInt8.ofNat n := by rw [← h, UInt8.ofNat_toNat]
theorem byte_ne {x : UInt8} {n : Nat} (h : ¬ x.toNat = n) (hn : n < 256) : ¬ x = UInt8.ofNat n := fun e => h (by rw [e, UInt8.toNat_ofNat', Nat.mod_eq_of_lt hn])

set_option maxHeartbeats 8000000 in
theorem times_c (a b : UInt8) : Pure Tryz.prog 70 #[(.int .u8 (((a.toNat) : Nat) : Int)), (.int .u8 (((b.toNat) : Nat) : Int))] (fun _ => True) (.int .u8 ((((tmB a b).toNat) : Nat) : Int)) := by
  refine pure_of (fn := Tryz.f70) Tryz.func70 rfl Tryz.ntmps70 (Nat.le_of_ble_eq_true rfl) rfl ?_
  intro w0 hH hR
  refine zr ?_
  refine zv .mv 0 ?_
  refine zn ?_
  refine zr ?_
  refine zv .mv 1 ?_
  refine zn ?_
  refine cxSeq ?_
  refine zr ?_
  refine zv .mv 0 ?_
  refine zn ?_
  refine cxBlock ?_
  refine zL4 (fun (k : Nat) (p : UInt8) (x : UInt8) (y : UInt8) => [(7, (.int .i64 (((k) : Nat) : Int))), (5, (.int .u8 (((p.toNat) : Nat) : Int))), (1, (.int .u8 (((y.toNat) : Nat) : Int))), (0, (.int .u8 (((x.toNat) : Nat) : Int)))]) (fun k p x y w => HH w0 [] [] w ∧ (k ≤ 8) ∧ ((p, x, y) = tmS a b k)) (fun k _ _ _ => 8 - k) 0 0 a b ⟨hH, (Nat.zero_le _), rfl⟩ ?_
  clear hH
  rintro k p x y w ⟨hH, hk, hq⟩
  refine zr ?_
  refine zv (.lt (k < 8)) 0 ?_
  refine zn ?_
  refine cxSeq ?_
  refine zP (fun hc1 => ?_) (fun hc1 => ?_)
  refine cxSkip ?_
  refine qxThen ?_
  refine cxSeq ?_
  refine cxBlock ?_
  refine cxSeq ?_
  refine zr ?_
  refine zv .mv 1 ?_
  refine zv (.ab (y &&& (1 : UInt8)) (u := y) (v := (1 : UInt8))) 1 ?_
  refine zv (.eq ((y &&& (1 : UInt8)).toNat = 1)) 1 ?_
  refine zn ?_
  refine zP (fun hc2 => ?_) (fun hc2 => ?_)
  refine cxReg ?_
  refine zv .mv 5 ?_
  refine zv .mv 0 ?_
  refine zv (.xb (p ^^^ x) (u := p) (v := x)) 3 ?_
  refine zv .mv 1 ?_
  refine zn ?_
  refine zr ?_
  refine zv .mv 0 ?_
  refine zv (.rb 7 (u := x)) 1 ?_
  refine zv .mv 1 ?_
  refine zn ?_
  refine zr ?_
  refine zv .mv 16 ?_
  refine zv (.lb 1 (u := x)) 1 ?_
  refine zv .mv 2 ?_
  refine zv (.ub ((27 : UInt8) * (sr8 x 7)) (u := (27 : UInt8)) (v := (sr8 x 7))) 1 ?_
  refine zv (.xb ((sl8 x 1) ^^^ ((27 : UInt8) * (sr8 x 7))) (u := (sl8 x 1)) (v := ((27 : UInt8) * (sr8 x 7)))) 3 ?_
  refine zv .mv 1 ?_
  refine zn ?_
  refine cxReg ?_
  refine zv .mv 8 ?_
  refine zv (.rb 1 (u := y)) 1 ?_
  refine zv .mv 1 ?_
  refine pxEnd ?_
  refine qxInN ?_
  refine qxThen ?_
  refine cxReg ?_
  refine zv (.add ((k + 1 : Nat) : Int)) 8 ?_
  refine zv .mv 1 ?_
  refine pxEnd ?_
  exact zR4 (k + 1) (p ^^^ x) ((sl8 x 1) ^^^ ((27 : UInt8) * (sr8 x 7))) (sr8 y 1) ⟨hH, (by omega), (by rw [tmS_succ, if_pos (by rw [← hq]; exact byte_eq hc2), ← hq])⟩ (by omega)
  refine cxSkip ?_
  refine qxThen ?_
  refine zr ?_
  refine zv .mv 1 ?_
  refine zv (.rb 7 (u := x)) 1 ?_
  refine zv .mv 1 ?_
  refine zn ?_
  refine zr ?_
  refine zv .mv 16 ?_
  refine zv (.lb 1 (u := x)) 1 ?_
  refine zv .mv 2 ?_
  refine zv (.ub ((27 : UInt8) * (sr8 x 7)) (u := (27 : UInt8)) (v := (sr8 x 7))) 1 ?_
  refine zv (.xb ((sl8 x 1) ^^^ ((27 : UInt8) * (sr8 x 7))) (u := (sl8 x 1)) (v := ((27 : UInt8) * (sr8 x 7)))) 3 ?_
  refine zv .mv 1 ?_
  refine zn ?_
  refine cxReg ?_
  refine zv .mv 8 ?_
  refine zv (.rb 1 (u := y)) 1 ?_
  refine zv .mv 1 ?_
  refine pxEnd ?_
  refine qxInN ?_
  refine qxThen ?_
  refine cxReg ?_
  refine zv (.add ((k + 1 : Nat) : Int)) 4 ?_
  refine zv .mv 1 ?_
  refine pxEnd ?_
  exact zR4 (k + 1) p ((sl8 x 1) ^^^ ((27 : UInt8) * (sr8 x 7))) (sr8 y 1) ⟨hH, (by omega), (by rw [tmS_succ, if_neg (by rw [← hq]; exact byte_ne hc2 (by decide)), ← hq])⟩ (by omega)
  refine cxExit ?_
  refine qxThenE ?_
  refine qxThenE ?_
  refine qxInE ?_
  refine qxThen ?_
  obtain rfl : k = 8 := by omega
  refine zr ?_
  refine zv .mv 31 ?_
  refine zv .mv 1 ?_
  refine zn ?_
  refine cxRet ?_
  refine qxRet1 0 rfl rfl ?_
  exact ⟨by rw [show p = tmB a b from congrArg Prod.fst hq], HH.toBelow hH⟩

set_option maxHeartbeats 8000000 in
theorem sub_c (b : UInt8) : Pure Tryz.prog 69 #[(.int .u8 (((b.toNat) : Nat) : Int))] (fun _ => True) (.int .u8 ((((subF b).toNat) : Nat) : Int)) := by
  refine pure_of (fn := Tryz.f69) Tryz.func69 rfl Tryz.ntmps69 (Nat.le_of_ble_eq_true rfl) rfl ?_
  intro w0 hH hR
  refine zr ?_
  refine zv .mv 0 ?_
  refine zn ?_
  refine zr ?_
  refine zv .mv 1 ?_
  refine zn ?_
  refine zr ?_
  refine zv .mv 2 ?_
  refine zv .mv 1 ?_
  refine zn ?_
  refine cxSeq ?_
  refine zr ?_
  refine zv .mv 0 ?_
  refine zn ?_
  refine cxBlock ?_
  refine zL1 (fun (k : Nat) => [(5, (.int .i64 (((k + 1) : Nat) : Int))), (4, (.int .u8 ((((sqS b k).2.toNat) : Nat) : Int))), (3, (.int .u8 ((((sqS b k).1.toNat) : Nat) : Int)))]) (fun k w => HH w0 [] [] w ∧ (k ≤ 7)) (fun k => 7 - k) 0 ⟨hH, (Nat.zero_le _)⟩ ?_
  clear hH
  rintro k w ⟨hH, hk⟩
  refine cxSeq ?_
  refine zr ?_
  refine zv .mv 0 ?_
  refine zv (.lt (k + 1 < 8)) 1 ?_
  refine zn ?_
  refine zP (fun hc1 => ?_) (fun hc1 => ?_)
  refine cxSkip ?_
  refine qxThen ?_
  refine cxSeq ?_
  refine cxBlock ?_
  refine zr ?_
  refine zv .mv 1 ?_
  refine zv .mv 4 ?_
  refine zc Tryz.func70 (times_c (sqS b k).2 (sqS b k).2) trivial hH 3 ?_
  clear hH
  intro w hH
  refine zv .mv 1 ?_
  refine zn ?_
  refine cxReg ?_
  refine zv .mv 4 ?_
  refine zv .mv 0 ?_
  refine zc Tryz.func70 (times_c (sqS b k).1 (tmB (sqS b k).2 (sqS b k).2)) trivial hH 3 ?_
  clear hH
  intro w hH
  refine zv .mv 1 ?_
  refine pxEnd ?_
  refine qxInN ?_
  refine qxThen ?_
  refine cxReg ?_
  refine zv .mv 4 ?_
  refine zv (.add (((k + 1 + 1) : Nat) : Int)) 1 ?_
  refine zv .mv 1 ?_
  refine pxEnd ?_
  exact zR1 (k + 1) ⟨hH, (by omega)⟩ (by omega)
  refine cxExit ?_
  refine qxThenE ?_
  refine qxThenE ?_
  refine qxInE ?_
  refine qxThen ?_
  obtain rfl : k = 7 := by omega
  refine zr ?_
  refine zv .mv 7 ?_
  refine zn ?_
  refine cxSeq ?_
  refine zr ?_
  refine zv .mv 0 ?_
  refine zn ?_
  refine cxBlock ?_
  refine zL1 (fun (i : Nat) => [(20, (.int .i64 (((i) : Nat) : Int))), (6, (.int .u8 ((((outS (sqS b 7).1 i).toNat) : Nat) : Int))), (3, (.int .u8 ((((sqS b 7).1.toNat) : Nat) : Int)))]) (fun i w => HH w0 [] [] w ∧ (i ≤ 8)) (fun i => 8 - i) 0 ⟨hH, (Nat.zero_le _)⟩ ?_
  clear hH
  rintro i w ⟨hH, hi⟩
  refine zr ?_
  refine zv (.lt (i < 8)) 0 ?_
  refine zn ?_
  refine cxSeq ?_
  refine zP (fun hc2 => ?_) (fun hc2 => ?_)
  refine cxSkip ?_
  refine qxThen ?_
  refine cxSeq ?_
  refine cxBlock ?_
  refine zr ?_
  refine zv .mv 1 ?_
  refine zv .mv 1 ?_
  refine zn ?_
  refine zr ?_
  refine zv .mv 0 ?_
  refine zv .mv 0 ?_
  refine zv (.cu .u64) 1 ?_
  refine zv (.rb i (u := (sqS b 7).1)) 3 ?_
  refine zv .mv 0 ?_
  refine zv .mv 0 ?_
  refine zv (.add ((i + 4 : Nat) : Int)) 1 ?_
  refine zv (v := (.int .i64 ((((i + 4) % 8) : Nat) : Int))) (fun _ _ hF => opRem (z := (((i + 4) % 8 : Nat) : Int)) rfl (hF.ev 0 rfl) rfl (by omega) remN) 1 ?_
  refine zv (.cu .u64) 1 ?_
  refine zv (.rb ((i + 4) % 8) (u := (sqS b 7).1)) 3 ?_
  refine zv (.xb ((sr8 (sqS b 7).1 i) ^^^ (sr8 (sqS b 7).1 ((i + 4) % 8))) (u := (sr8 (sqS b 7).1 i)) (v := (sr8 (sqS b 7).1 ((i + 4) % 8)))) 3 ?_
  refine zv .mv 0 ?_
  refine zv .mv 0 ?_
  refine zv (.add ((i + 5 : Nat) : Int)) 1 ?_
  refine zv (v := (.int .i64 ((((i + 5) % 8) : Nat) : Int))) (fun _ _ hF => opRem (z := (((i + 5) % 8 : Nat) : Int)) rfl (hF.ev 0 rfl) rfl (by omega) remN) 1 ?_
  refine zv (.cu .u64) 1 ?_
  refine zv (.rb ((i + 5) % 8) (u := (sqS b 7).1)) 3 ?_
  refine zv (.xb (((sr8 (sqS b 7).1 i) ^^^ (sr8 (sqS b 7).1 ((i + 4) % 8))) ^^^ (sr8 (sqS b 7).1 ((i + 5) % 8))) (u := ((sr8 (sqS b 7).1 i) ^^^ (sr8 (sqS b 7).1 ((i + 4) % 8)))) (v := (sr8 (sqS b 7).1 ((i + 5) % 8)))) 3 ?_
  refine zv .mv 0 ?_
  refine zv .mv 0 ?_
  refine zv (.add ((i + 6 : Nat) : Int)) 1 ?_
  refine zv (v := (.int .i64 ((((i + 6) % 8) : Nat) : Int))) (fun _ _ hF => opRem (z := (((i + 6) % 8 : Nat) : Int)) rfl (hF.ev 0 rfl) rfl (by omega) remN) 1 ?_
  refine zv (.cu .u64) 1 ?_
  refine zv (.rb ((i + 6) % 8) (u := (sqS b 7).1)) 3 ?_
  refine zv (.xb ((((sr8 (sqS b 7).1 i) ^^^ (sr8 (sqS b 7).1 ((i + 4) % 8))) ^^^ (sr8 (sqS b 7).1 ((i + 5) % 8))) ^^^ (sr8 (sqS b 7).1 ((i + 6) % 8))) (u := (((sr8 (sqS b 7).1 i) ^^^ (sr8 (sqS b 7).1 ((i + 4) % 8))) ^^^ (sr8 (sqS b 7).1 ((i + 5) % 8)))) (v := (sr8 (sqS b 7).1 ((i + 6) % 8)))) 3 ?_
  refine zv .mv 0 ?_
  refine zv .mv 0 ?_
  refine zv (.add ((i + 7 : Nat) : Int)) 1 ?_
  refine zv (v := (.int .i64 ((((i + 7) % 8) : Nat) : Int))) (fun _ _ hF => opRem (z := (((i + 7) % 8 : Nat) : Int)) rfl (hF.ev 0 rfl) rfl (by omega) remN) 1 ?_
  refine zv (.cu .u64) 1 ?_
  refine zv (.rb ((i + 7) % 8) (u := (sqS b 7).1)) 3 ?_
  refine zv (.xb (((((sr8 (sqS b 7).1 i) ^^^ (sr8 (sqS b 7).1 ((i + 4) % 8))) ^^^ (sr8 (sqS b 7).1 ((i + 5) % 8))) ^^^ (sr8 (sqS b 7).1 ((i + 6) % 8))) ^^^ (sr8 (sqS b 7).1 ((i + 7) % 8))) (u := ((((sr8 (sqS b 7).1 i) ^^^ (sr8 (sqS b 7).1 ((i + 4) % 8))) ^^^ (sr8 (sqS b 7).1 ((i + 5) % 8))) ^^^ (sr8 (sqS b 7).1 ((i + 6) % 8)))) (v := (sr8 (sqS b 7).1 ((i + 7) % 8)))) 3 ?_
  refine zv .mv 0 ?_
  refine zv (.cu .u64) 1 ?_
  refine zv (.rb i (u := (99 : UInt8))) 1 ?_
  refine zv (.xb ((((((sr8 (sqS b 7).1 i) ^^^ (sr8 (sqS b 7).1 ((i + 4) % 8))) ^^^ (sr8 (sqS b 7).1 ((i + 5) % 8))) ^^^ (sr8 (sqS b 7).1 ((i + 6) % 8))) ^^^ (sr8 (sqS b 7).1 ((i + 7) % 8))) ^^^ (sr8 (99 : UInt8) i)) (u := (((((sr8 (sqS b 7).1 i) ^^^ (sr8 (sqS b 7).1 ((i + 4) % 8))) ^^^ (sr8 (sqS b 7).1 ((i + 5) % 8))) ^^^ (sr8 (sqS b 7).1 ((i + 6) % 8))) ^^^ (sr8 (sqS b 7).1 ((i + 7) % 8)))) (v := (sr8 (99 : UInt8) i))) 3 ?_
  refine zv .mv 1 ?_
  refine zn ?_
  refine cxReg ?_
  refine zv .mv 8 ?_
  refine zv .mv 2 ?_
  refine zv (.ab (((((((sr8 (sqS b 7).1 i) ^^^ (sr8 (sqS b 7).1 ((i + 4) % 8))) ^^^ (sr8 (sqS b 7).1 ((i + 5) % 8))) ^^^ (sr8 (sqS b 7).1 ((i + 6) % 8))) ^^^ (sr8 (sqS b 7).1 ((i + 7) % 8))) ^^^ (sr8 (99 : UInt8) i)) &&& (1 : UInt8)) (u := ((((((sr8 (sqS b 7).1 i) ^^^ (sr8 (sqS b 7).1 ((i + 4) % 8))) ^^^ (sr8 (sqS b 7).1 ((i + 5) % 8))) ^^^ (sr8 (sqS b 7).1 ((i + 6) % 8))) ^^^ (sr8 (sqS b 7).1 ((i + 7) % 8))) ^^^ (sr8 (99 : UInt8) i))) (v := (1 : UInt8))) 1 ?_
  refine zv .mv 4 ?_
  refine zv (.cu .u64) 1 ?_
  refine zv (.lb i (u := (((((((sr8 (sqS b 7).1 i) ^^^ (sr8 (sqS b 7).1 ((i + 4) % 8))) ^^^ (sr8 (sqS b 7).1 ((i + 5) % 8))) ^^^ (sr8 (sqS b 7).1 ((i + 6) % 8))) ^^^ (sr8 (sqS b 7).1 ((i + 7) % 8))) ^^^ (sr8 (99 : UInt8) i)) &&& (1 : UInt8)))) 3 ?_
  refine zv (.ob ((outS (sqS b 7).1 i) ||| (sl8 (((((((sr8 (sqS b 7).1 i) ^^^ (sr8 (sqS b 7).1 ((i + 4) % 8))) ^^^ (sr8 (sqS b 7).1 ((i + 5) % 8))) ^^^ (sr8 (sqS b 7).1 ((i + 6) % 8))) ^^^ (sr8 (sqS b 7).1 ((i + 7) % 8))) ^^^ (sr8 (99 : UInt8) i)) &&& (1 : UInt8)) i)) (u := (outS (sqS b 7).1 i)) (v := (sl8 (((((((sr8 (sqS b 7).1 i) ^^^ (sr8 (sqS b 7).1 ((i + 4) % 8))) ^^^ (sr8 (sqS b 7).1 ((i + 5) % 8))) ^^^ (sr8 (sqS b 7).1 ((i + 6) % 8))) ^^^ (sr8 (sqS b 7).1 ((i + 7) % 8))) ^^^ (sr8 (99 : UInt8) i)) &&& (1 : UInt8)) i))) 3 ?_
  refine zv .mv 1 ?_
  refine pxEnd ?_
  refine qxInN ?_
  refine qxThen ?_
  refine cxReg ?_
  refine zv (.add ((i + 1 : Nat) : Int)) 2 ?_
  refine zv .mv 1 ?_
  refine pxEnd ?_
  exact zR1 (i + 1) ⟨hH, (by omega)⟩ (by omega)
  refine cxExit ?_
  refine qxThenE ?_
  refine qxThenE ?_
  refine qxInE ?_
  refine qxThen ?_
  obtain rfl : i = 8 := by omega
  refine zr ?_
  refine zv .mv 15 ?_
  refine zv .mv 1 ?_
  refine zn ?_
  refine cxRet ?_
  refine qxRet1 0 rfl rfl ?_
  exact ⟨rfl, HH.toBelow hH⟩

theorem get_upF {W : Nat → UInt8} {m j : Nat} (h : j < m) : upF m W (fun _ => 0) j = W j := upF_lt _ _ h
section
variable {l : List UInt8} {nk d k : Nat} {c : UInt8}
theorem rwdX (hd : 0 < nk) {j : Nat} (hj : j < 4) (w : Nat → UInt8) (hw : w = upF (4 * (nk + d)) (aeW l) fun _ => 0) : w (4 * (nk + d - 1) + j) = aeW l (4 * d + (4 * nk - 4) + j) := by
  rw [hw, get_upF (by omega)]
  congr 1
  omega
theorem rwdA (hnk : l.length = 4 * nk) (h4 : nk = 4 ∨ nk = 8) (hd : d < 3 * nk + 28) (hA : (nk + d) % nk = 0) (hc : c = rc ((d + (nk - 1)) / nk)) (w : Nat → UInt8) (hw : w = upF (4 * (nk + d)) (aeW l) fun _ => 0) (k : Nat) (hk : k < 4) :
    aeW l (4 * (nk + d) + k) = aeW l (4 * d + k) ^^^ pk4 (boxF (w (4 * (nk + d - 1) + 1)).toNat ^^^ c) (boxF (w (4 * (nk + d - 1) + 2)).toNat) (boxF (w (4 * (nk + d - 1) + 3)).toNat) (boxF (w (4 * (nk + d - 1) + 0)).toNat) k := by
  rw [Nat.add_comm nk d] at hA
  have h := sched_A (by omega) (keyS hnk h4) d _ hd rfl hA k hk
  rw [show 4 * d + (4 * nk - 4) + 4 + k - 4 * nk = 4 * d + k by omega, show 4 * d + (4 * nk - 4) + 4 + k = 4 * (nk + d) + k by omega] at h
  have h0 : 0 < nk := by omega
  rw [rwdX h0 (j := 0) (by decide) w hw, rwdX h0 (j := 1) (by decide) w hw, rwdX h0 (j := 2) (by decide) w hw, rwdX h0 (j := 3) (by decide) w hw, hc, h]
  unfold pk4 xr
  rcases (by omega : k = 0 ∨ k = 1 ∨ k = 2 ∨ k = 3) with rfl | rfl | rfl | rfl <;> simp
theorem rwdC (hnk : l.length = 4 * nk) (h4 : nk = 4 ∨ nk = 8) (hd : d < 3 * nk + 28) (hA : ¬ (nk + d) % nk = 0) (hC : nk = 8 ∧ (nk + d) % nk = 4) (w : Nat → UInt8) (hw : w = upF (4 * (nk + d)) (aeW l) fun _ => 0) (k : Nat) (hk : k < 4) :
    aeW l (4 * (nk + d) + k) = aeW l (4 * d + k) ^^^ pk4 (boxF (w (4 * (nk + d - 1) + 0)).toNat) (boxF (w (4 * (nk + d - 1) + 1)).toNat) (boxF (w (4 * (nk + d - 1) + 2)).toNat) (boxF (w (4 * (nk + d - 1) + 3)).toNat) k := by
  rw [Nat.add_comm nk d] at hA hC
  have h := sched_C (by omega) (keyS hnk h4) d _ hd rfl hA hC k hk
  rw [show 4 * d + (4 * nk - 4) + 4 + k - 4 * nk = 4 * d + k by omega, show 4 * d + (4 * nk - 4) + 4 + k = 4 * (nk + d) + k by omega] at h
  have h0 : 0 < nk := by omega
  rw [rwdX h0 (j := 0) (by decide) w hw, rwdX h0 (j := 1) (by decide) w hw, rwdX h0 (j := 2) (by decide) w hw, rwdX h0 (j := 3) (by decide) w hw, h]
  unfold pk4 xr
  rcases (by omega : k = 0 ∨ k = 1 ∨ k = 2 ∨ k = 3) with rfl | rfl | rfl | rfl <;> simp
theorem rwdB (hnk : l.length = 4 * nk) (h4 : nk = 4 ∨ nk = 8) (hd : d < 3 * nk + 28) (hA : ¬ (nk + d) % nk = 0) (hC : ¬ (nk = 8 ∧ (nk + d) % nk = 4)) (w : Nat → UInt8) (hw : w = upF (4 * (nk + d)) (aeW l) fun _ => 0) (k : Nat) (hk : k < 4) :
    aeW l (4 * (nk + d) + k) = aeW l (4 * d + k) ^^^ w (4 * (nk + d - 1) + k) := by
  rw [Nat.add_comm nk d] at hA hC
  have h := sched_B (by omega) (keyS hnk h4) d _ hd rfl hA hC k hk
  rw [show 4 * d + (4 * nk - 4) + 4 + k - 4 * nk = 4 * d + k by omega, show 4 * d + (4 * nk - 4) + 4 + k = 4 * (nk + d) + k by omega] at h
  rw [rwdX (by omega) hk w hw, h]
  rfl
theorem row_put {w T : Nat → UInt8} {v : UInt8} (hw : w = upF (4 * (nk + d) + k) (aeW l) fun _ => 0) (_ : k < 4) (h0 : 0 < nk) (hT : aeW l (4 * (nk + d) + k) = aeW l (4 * d + k) ^^^ T k) (hv : v = w (4 * d + k) ^^^ T k) : stF w (4 * (nk + d) + k) v = upF (4 * (nk + d) + (k + 1)) (aeW l) fun _ => 0 := by
  rw [hw]
  exact upF_step _ _ _ (by rw [hv, hw, get_upF (by omega), hT])
end

set_option maxHeartbeats 8000000 in
theorem new_r (A : Option Addr) (z : Nat) (l : List UInt8) (hk : l.length = 16 ∨ l.length = 32) : Does Tryz.prog 49 #[(.slice A l.length z)] [] (fun w => Vu cByte w A l.length z l) (fun v E' => ∃ g, v = .tuple #[.pointer (some ⟨g, 0, none⟩), .bool true] ∧ E' = [bl g 109 (cCi.enc (boxF, bk boxF 256, (upF (16 * (l.length / 4 + 7)) (aeW l) fun _ => 0), (l.length / 4 + 6)))]) := by
  refine does_of (fn := Tryz.f49) Tryz.func49 rfl Tryz.ntmps49 (Nat.le_of_ble_eq_true rfl) rfl ?_
  intro w0 hH hR
  replace hH : HH w0 [] [] w0 := hH.only [false]
  obtain ⟨nk, hnk, h4⟩ : ∃ nk, l.length = 4 * nk ∧ (nk = 4 ∨ nk = 8) := ⟨l.length / 4, by omega, by omega⟩
  have hlk := hR.len
  refine zr ?_
  refine zv .mv 0 ?_
  refine zv .mv 1 ?_
  refine zn ?_
  refine cxJoin (σ := Unit) (fun x => [(0, (.slice A l.length z))]) (fun x w => HH w0 [] [] w) ?_ ?_
  refine zr ?_
  refine zv .mv 1 ?_
  refine zv .len 1 ?_
  refine zv (.ne (l.length ≠ 16)) 1 ?_
  refine zv .mv 1 ?_
  refine pxSplitP 0 rfl (l1 := [(15, (.bool true)), (0, (.slice A l.length z))]) (l2 := [(15, (.bool false)), (0, (.slice A l.length z))]) rfl rfl (fun hg1 => ?_) (fun hg1 => ?_)
  refine pxV (v := (.slice A l.length z)) (fun _ _ hF => opMove rfl (hF.ev 1 rfl)) rfl (gOn 0 rfl rfl rfl (by decide)) (kA rfl) (by decide) ?_
  refine pxV (v := (.int .i64 (((l.length) : Nat) : Int))) (fun _ _ hF => opLen (e := 5) rfl (by kernel_rfl) (hF.ev 0 rfl)) rfl (gOn 1 rfl rfl rfl (by decide)) (kM [false, true, true] rfl rfl) (by decide) ?_
  refine pxV (v := (.bool (decide (l.length ≠ 32)))) (fun _ _ hF => opNeI rfl (hF.ev 0 rfl) rfl (dc (by omega))) rfl (gOn 1 rfl rfl rfl (by decide)) (kM [false, true, true] rfl rfl) (by decide) ?_
  refine zv (v := (.bool (decide (l.length ≠ 32)))) (fun _ _ hF => opPickT rfl (hF.ev 1 rfl) (hF.ev 0 rfl)) 3 ?_
  refine zn ?_
  refine zP (fun hc2 => ?_) (fun hc2 => ?_)
  omega
  refine cxSkip ?_
  exact qxJoin () hH (slots_at [1] rfl)
  refine pxU rfl (gOff 0 rfl rfl rfl (by decide)) (kA rfl) (by decide) ?_
  refine pxU rfl (gOff 0 rfl rfl rfl (by decide)) (kA rfl) (by decide) ?_
  refine pxU rfl (gOff 0 rfl rfl rfl (by decide)) (kA rfl) (by decide) ?_
  refine zv (v := (.bool false)) (fun _ _ hF => opPickF rfl (hF.ev 0 rfl) rfl) 1 ?_
  refine zn ?_
  refine zF ?_
  refine cxSkip ?_
  exact qxJoin () hH (slots_at [1] rfl)
  clear hH
  rintro _u w hH
  change CX _ _ _ _ [(0, (.slice A l.length z))] _
  replace hH : HH w0 [] [] w := hH
  refine zr ?_
  refine zv .mv 0 ?_
  refine zv .len 1 ?_
  refine zv (v := (.int .i64 (((l.length / 4) : Nat) : Int))) (fun _ _ hF => opQuo (z := ((l.length / 4 : Nat) : Int)) rfl (hF.ev 0 rfl) rfl (by omega) (wI quoN (by omega) (by omega))) 1 ?_
  refine zv (.add (((l.length / 4) + 6 : Nat) : Int)) 1 ?_
  refine zv (v := (cCi.val (fun _ => 0, fun _ => 0, fun _ => 0, (l.length / 4 + 6)))) (fun _ _ hF => opBuildP (cells := cCi.enc (fun _ => 0, fun _ => 0, fun _ => 0, (l.length / 4 + 6))) (vals := [(3, .int .i64 (((l.length / 4 + 6) : Nat) : Int))]) rfl (EvP.cons (v := .int .i64 (((l.length / 4 + 6) : Nat) : Int)) (hF.ev 0 rfl) EvP.nil) (builtCi _ (by omega)) _) 1 ?_
  refine zm hH (.bx cCi (fun _ => 0, fun _ => 0, fun _ => 0, (l.length / 4 + 6))) trivial 1 ?_
  clear hH
  rintro _ _ w ⟨g3, rfl, rfl⟩ hH
  refine zv .mv 1 ?_
  refine zn ?_
  refine cxSeq ?_
  refine zr ?_
  refine zv .mv 0 ?_
  refine zn ?_
  refine cxBlock ?_
  have he4 : cCi.enc (upF 0 boxF (fun _ => 0), bk boxF 0, (fun _ => 0), (l.length / 4 + 6)) = cCi.enc (fun _ => 0, fun _ => 0, fun _ => 0, (l.length / 4 + 6)) := ci_congr (fun j _ => by rw [upF_zero]) (fun _ _ => rfl) (fun _ _ => rfl)
  replace hH : HH w0 [] [[bl g3 109 (cCi.enc (upF 0 boxF (fun _ => 0), bk boxF 0, (fun _ => 0), (l.length / 4 + 6)))]] w := by rw [he4]; exact hH
  refine zL1 (fun (i : Nat) => [(26, (.int .i64 (((i) : Nat) : Int))), (4, (.pointer (some ⟨g3, 0, none⟩))), (0, (.slice A l.length z))]) (fun i w => HH w0 [] [[bl g3 109 (cCi.enc (upF i boxF (fun _ => 0), bk boxF i, (fun _ => 0), (l.length / 4 + 6)))]] w ∧ (i ≤ 256)) (fun i => 256 - i) 0 ⟨hH, (Nat.zero_le _)⟩ ?_
  clear hH
  rintro i w ⟨hH, hi⟩
  refine zr ?_
  refine zv (.lt (i < 256)) 0 ?_
  refine zn ?_
  refine cxSeq ?_
  refine zP (fun hc5 => ?_) (fun hc5 => ?_)
  refine cxSkip ?_
  refine qxThen ?_
  refine cxSeq ?_
  refine cxBlock ?_
  refine zr ?_
  refine zv .mv 1 ?_
  refine zv .mv 1 ?_
  refine zn ?_
  refine zx ?_
  replace hH := hH.drew
  refine rv 0 .mv 0 ?_
  refine rv 1 .mv 0 ?_
  refine rv 2 .mv 0 ?_
  refine rv 3 .cb 1 ?_
  refine rv 5 .nc 4 ?_
  refine rv 6 (.fld 0) 1 ?_
  refine rx1k 4 (rpc 4 Tryz.func69 (sub_c (UInt8.ofNat i)) trivial hH 2 (.nil _ []) ?_)
  clear hH
  intro w hH
  refine ⟨pnil, ?_⟩
  have hi6 : i < 256 := by omega
  refine rv 7 (.ia 1 256 i (hi := hi6)) 6 ?_
  refine rx1k 8 ?_
  refine re0 8 0 hH rfl (.st cByte (subF (UInt8.ofNat i)) (by rw [Cod.size]; show 0 + i * 1 + 1 ≤ 753; omega) (put_fst (arr_set0 (upF i boxF (fun _ => 0)) (subF (UInt8.ofNat i)) hi6) (by show 0 + i * 1 + 1 ≤ 256; omega))) trivial (.nil _ []) ?_
  clear hH
  rintro _ _ w rfl hH
  refine ⟨pnil, ?_⟩
  refine rn ?_
  have he7 : cCi.enc (upF (i + 1) boxF (fun _ => 0), bk boxF i, (fun _ => 0), (l.length / 4 + 6)) = cCi.enc ((stF (upF i boxF (fun _ => 0)) i (subF (UInt8.ofNat i))), bk boxF i, (fun _ => 0), (l.length / 4 + 6)) := ci_congr (fun j _ => (congrFun (upF_step i boxF (fun _ => 0) (sub_box i (by omega))) j).symm) (fun _ _ => rfl) (fun _ _ => rfl)
  replace hH : HH w0 [] [[bl g3 109 (cCi.enc (upF (i + 1) boxF (fun _ => 0), bk boxF i, (fun _ => 0), (l.length / 4 + 6)))]] w := by rw [he7]; exact hH
  refine cxRegX mixedOrders (by kernel_rfl) ?_
  replace hH := hH.drew
  refine rv 0 .mv 3 ?_
  refine rv 1 .mv 0 ?_
  refine rv 2 .mv 0 ?_
  refine rv 3 .nc 2 ?_
  refine rv 4 (.fld 0) 1 ?_
  have hi8 : i < 256 := by omega
  refine rv 5 (.ia 1 256 i (hi := hi8)) 3 ?_
  refine rld 6 (hH.q 0 rfl) (.ld cByte ((upF (i + 1) boxF (fun _ => 0)) i) (fun _ hS => ((holds_blk0 hS).fst.elt hi8))) 1 ?_
  refine rv 7 .mv 4 ?_
  refine rv 8 .cb 1 ?_
  refine rv 9 .nc 4 ?_
  refine rv 10 (.fld 256) 1 ?_
  have hi9 : ((upF (i + 1) boxF (fun _ => 0)) i).toNat < 256 := UInt8.toNat_lt _
  refine rv 11 (.ia 1 256 (((upF (i + 1) boxF (fun _ => 0)) i).toNat) (hi := hi9)) 5 ?_
  refine rx1k 12 ?_
  refine re0 12 0 hH rfl (.st cByte (UInt8.ofNat i) (by rw [Cod.size]; show 256 + (((upF (i + 1) boxF (fun _ => 0)) i).toNat) * 1 + 1 ≤ 753; omega) (put_snA (a := 256) (o := 256 + (((upF (i + 1) boxF (fun _ => 0)) i).toNat) * 1) (put_fst (arr_set0 (bk boxF i) (UInt8.ofNat i) hi9) (by show 0 + (((upF (i + 1) boxF (fun _ => 0)) i).toNat) * 1 + 1 ≤ 256; omega)) (by omega))) trivial (pgo [] (.nil _ [])) ?_
  clear hH
  rintro _ _ w rfl hH
  refine ⟨pnil, ?_⟩
  refine rxEnd (by kernel_rfl) ?_
  refine qxInN ?_
  refine qxThen ?_
  refine cxReg ?_
  refine zv (.add ((i + 1 : Nat) : Int)) 7 ?_
  refine zv .mv 1 ?_
  refine pxEnd ?_
  have he10 : cCi.enc (upF (i + 1) boxF (fun _ => 0), bk boxF (i + 1), (fun _ => 0), (l.length / 4 + 6)) = cCi.enc (upF (i + 1) boxF (fun _ => 0), (stF (bk boxF i) (((upF (i + 1) boxF (fun _ => 0)) i).toNat) (UInt8.ofNat i)), (fun _ => 0), (l.length / 4 + 6)) := ci_congr (fun _ _ => rfl) (fun j _ => by rw [upF_lt _ _ (Nat.lt_succ_self i)]; rfl) (fun _ _ => rfl)
  replace hH : HH w0 [] [[bl g3 109 (cCi.enc (upF (i + 1) boxF (fun _ => 0), bk boxF (i + 1), (fun _ => 0), (l.length / 4 + 6)))]] w := by rw [he10]; exact hH
  exact zR1 (i + 1) ⟨hH, (by omega)⟩ (by omega)
  refine cxExit ?_
  refine qxThenE ?_
  refine qxThenE ?_
  refine qxInE ?_
  refine qxThen ?_
  obtain rfl : i = 256 := by omega
  have he11 : cCi.enc (boxF, bk boxF 256, upF 0 (aeW l) (fun _ => 0), (l.length / 4 + 6)) = cCi.enc (upF 256 boxF (fun _ => 0), bk boxF 256, (fun _ => 0), (l.length / 4 + 6)) := ci_congr (fun j hj => (upF_lt _ _ hj).symm) (fun _ _ => rfl) (fun j _ => by rw [upF_zero])
  replace hH : HH w0 [] [[bl g3 109 (cCi.enc (boxF, bk boxF 256, upF 0 (aeW l) (fun _ => 0), (l.length / 4 + 6)))]] w := by rw [he11]; exact hH
  refine zr ?_
  refine zv .mv 3 ?_
  refine zv .len 1 ?_
  refine zv (v := (.int .i64 (((nk) : Nat) : Int))) (fun _ _ hF => opQuo rfl (hF.ev 0 rfl) rfl (by omega) (wI (quoN.trans (congrArg (fun q : Nat => (q : Int)) (show l.length / 4 = nk by omega))) (by omega) (by omega))) 1 ?_
  refine zv .mv 1 ?_
  refine zn ?_
  refine cxSeq ?_
  refine zr ?_
  refine zv .mv 0 ?_
  refine zv .len 1 ?_
  refine zv .mv 0 ?_
  refine zn ?_
  refine cxBlock ?_
  refine zL1 (fun (i : Nat) => [(55, (.int .i64 (((i) : Nat) : Int))), (54, (.int .i64 (((l.length) : Nat) : Int))), (6, (.int .i64 (((nk) : Nat) : Int))), (4, (.pointer (some ⟨g3, 0, none⟩))), (0, (.slice A l.length z))]) (fun i w => HH w0 [] [[bl g3 109 (cCi.enc (boxF, bk boxF 256, upF i (aeW l) (fun _ => 0), (l.length / 4 + 6)))]] w ∧ (i ≤ l.length)) (fun i => l.length - i) 0 ⟨hH, (Nat.zero_le _)⟩ ?_
  clear hH
  rintro i w ⟨hH, hi⟩
  refine zr ?_
  refine zv (.lt (i < l.length)) 0 ?_
  refine zn ?_
  refine cxSeq ?_
  refine zP (fun hc12 => ?_) (fun hc12 => ?_)
  refine cxSkip ?_
  refine qxThen ?_
  refine cxSeq ?_
  refine cxBlock ?_
  refine zr ?_
  refine zv .mv 1 ?_
  refine zv .mv 1 ?_
  refine zn ?_
  refine cxRegX mixedOrders (by kernel_rfl) ?_
  replace hH := hH.drew
  refine rv 0 .mv 0 ?_
  refine rv 1 .mv 0 ?_
  refine rv 2 (v := (.int .i64 (((i / 4) : Nat) : Int))) (fun _ _ hF => opQuo (z := ((i / 4 : Nat) : Int)) rfl (hF.ev 0 rfl) rfl (by omega) (wI quoN (by omega) (by omega))) 1 ?_
  refine rv 3 .mv 0 ?_
  refine rv 4 (v := (.int .i64 (((i % 4) : Nat) : Int))) (fun _ _ hF => opRem (z := ((i % 4 : Nat) : Int)) rfl (hF.ev 0 rfl) rfl (by omega) remN) 1 ?_
  refine rv 5 .mv 0 ?_
  refine rv 6 .mv 16 ?_
  have hi13 : i < l.length := by omega
  obtain ⟨b14, off15, rfl, hL16, hb17, hR18⟩ := hR.blk (by decide) (Off.nil _ _) (by omega)
  have := hR.cap
  have hj21 : i < l.length := by first | exact hi13 | (simp only [List.length_drop]; omega) | (simp only [List.length_drop, List.length_take]; omega) | omega
  obtain ⟨x19, hx20⟩ := get_at l i hj21
  have hb22 := UInt8.toNat_lt x19
  refine rv 7 (.ix 1 i (hi := hi13)) 3 ?_
  refine rld 8 (S := fun w => HoldsL cByte w b14 off15 l) (hH.holdsL hL16 hb17 hR18) (.ld cByte x19 (fun _ hS => (hS i _ hx20))) 1 ?_
  refine rv 9 .nc 8 ?_
  refine rv 10 (.fld 512) 1 ?_
  have hi23 : i / 4 < 60 := by omega
  refine rv 11 (.ia 4 60 (i / 4) (hi := hi23)) 9 ?_
  have hi24 : i % 4 < 4 := by omega
  refine rv 12 (.ia 1 4 (i % 4) (hi := hi24)) 5 ?_
  have hi25 : 4 * (i / 4) + (i % 4) < 240 := by omega
  refine rx1k 13 ?_
  refine re0 13 0 hH rfl (.st cByte x19 (by rw [Cod.size]; show 512 + (i / 4) * 4 + (i % 4) * 1 + 1 ≤ 753; omega) (put_snA (a := 256) (o := 512 + (i / 4) * 4 + (i % 4) * 1) (put_snA (a := 256) (o := 256 + (4 * (i / 4) + (i % 4)) * 1) (put_fst (arr_set0 (upF i (aeW l) (fun _ => 0)) x19 hi25) (by show 0 + (4 * (i / 4) + (i % 4)) * 1 + 1 ≤ 240; omega)) (by omega)) (by omega))) trivial (pgo [] (.nil _ [])) ?_
  clear hH
  rintro _ _ w rfl hH
  refine ⟨pnil, ?_⟩
  refine rxEnd (by kernel_rfl) ?_
  refine qxInN ?_
  refine qxThen ?_
  refine cxReg ?_
  refine zv (.add ((i + 1 : Nat) : Int)) 7 ?_
  refine zv .mv 1 ?_
  refine pxEnd ?_
  have he26 : cCi.enc (boxF, bk boxF 256, upF (i + 1) (aeW l) (fun _ => 0), (l.length / 4 + 6)) = cCi.enc (boxF, bk boxF 256, (stF (upF i (aeW l) (fun _ => 0)) (4 * (i / 4) + (i % 4)) x19), (l.length / 4 + 6)) := ci_congr (fun _ _ => rfl) (fun _ _ => rfl) (fun j _ => by rw [show 4 * (i / 4) + i % 4 = i by omega, upF_step i _ _ (by rw [known0 l hnk h4 (by omega)] at hx20; exact (Option.some.inj hx20).symm)])
  replace hH : HH w0 [] [[bl g3 109 (cCi.enc (boxF, bk boxF 256, upF (i + 1) (aeW l) (fun _ => 0), (l.length / 4 + 6)))]] w := by rw [he26]; exact hH
  exact zR1 (i + 1) ⟨hH, (by omega)⟩ (by omega)
  refine cxExit ?_
  refine qxThenE ?_
  refine qxThenE ?_
  refine qxInE ?_
  refine qxThen ?_
  obtain rfl : i = l.length := by omega
  have he27 : cCi.enc (boxF, bk boxF 256, upF (4 * (nk + 0)) (aeW l) (fun _ => 0), (l.length / 4 + 6)) = cCi.enc (boxF, bk boxF 256, upF l.length (aeW l) (fun _ => 0), (l.length / 4 + 6)) := ci_congr (fun _ _ => rfl) (fun _ _ => rfl) (fun j _ => by rw [show 4 * (nk + 0) = l.length by omega])
  replace hH : HH w0 [] [[bl g3 109 (cCi.enc (boxF, bk boxF 256, upF (4 * (nk + 0)) (aeW l) (fun _ => 0), (l.length / 4 + 6)))]] w := by rw [he27]; exact hH
  refine zr ?_
  refine zv .mv 39 ?_
  refine zn ?_
  refine cxSeq ?_
  refine zr ?_
  refine zv .mv 0 ?_
  refine zv .mv 1 ?_
  refine zn ?_
  refine cxBlock ?_
  refine zL2 (fun (d : Nat) (c : UInt8) => [(9, (.int .i64 (((nk + d) : Nat) : Int))), (8, (.int .u8 (((c.toNat) : Nat) : Int))), (6, (.int .i64 (((nk) : Nat) : Int))), (4, (.pointer (some ⟨g3, 0, none⟩)))]) (fun d c w => HH w0 [] [[bl g3 109 (cCi.enc (boxF, bk boxF 256, upF (4 * (nk + d)) (aeW l) (fun _ => 0), (l.length / 4 + 6)))]] w ∧ (d ≤ 3 * nk + 28) ∧ (c = rc ((d + (nk - 1)) / nk))) (fun d _ => 3 * nk + 28 - d) 0 1 ⟨hH, (Nat.zero_le _), (by rw [Nat.zero_add, Nat.div_eq_of_lt (by omega)]; rfl)⟩ ?_
  clear hH
  rintro d c w ⟨hH, hd, hcc⟩
  refine cxSeq ?_
  refine zr ?_
  refine zv .mv 0 ?_
  refine zv .mv 0 ?_
  refine zv .nc 1 ?_
  refine zv (.fld 752) 1 ?_
  refine zs (hH.q 0 rfl) (.ld (cNat .i64) (l.length / 4 + 6) (fun _ hS => (((holds_blk0 hS).snd).snd).snd)) 1 ?_
  refine zv (.mul ((4 * (l.length / 4 + 6) : Nat) : Int)) 1 ?_
  refine zv (.add (((4 * (l.length / 4 + 6)) + 4 : Nat) : Int)) 1 ?_
  refine zv (.lt (nk + d < (4 * (l.length / 4 + 6)) + 4)) 3 ?_
  refine zn ?_
  refine zP (fun hc28 => ?_) (fun hc28 => ?_)
  refine cxSkip ?_
  refine qxThen ?_
  refine cxSeq ?_
  refine cxBlock ?_
  refine zr ?_
  refine zv .mv 1 ?_
  refine zv .mv 0 ?_
  refine zv (.sub (((nk + d - 1) : Nat) : Int)) 1 ?_
  refine zv .nc 2 ?_
  refine zv (.fld 512) 1 ?_
  have hi29 : nk + d - 1 < 60 := by omega
  refine zv (.ia 4 60 (nk + d - 1) (hi := hi29)) 3 ?_
  refine zs (hH.q 0 rfl) (.ld (cArr 4) (fun q9 => (upF (4 * (nk + d)) (aeW l) (fun _ => 0)) (4 * (nk + d - 1) + q9)) (fun _ hS => (Holds.row ((((holds_blk0 hS).snd).snd).fst) (nk + d - 1) 4 (by omega)))) 1 ?_
  refine zm hH (.al (cArr 4) (fun _ => 0)) trivial 0 ?_
  clear hH
  rintro _ _ w ⟨g30, rfl, rfl⟩ hH
  refine ze0 1 hH rfl (.sw (cArr 4) (fun _ => 0) (fun q9 => (upF (4 * (nk + d)) (aeW l) (fun _ => 0)) (4 * (nk + d - 1) + q9))) trivial ?_
  clear hH
  rintro _ _ w rfl hH
  refine zn ?_
  refine cxJoin (σ := UInt8 × (Nat → UInt8)) (fun x => [(10, (.pointer (some ⟨g30, 0, none⟩))), (9, (.int .i64 (((nk + d) : Nat) : Int))), (8, (.int .u8 (((x.1.toNat) : Nat) : Int))), (6, (.int .i64 (((nk) : Nat) : Int))), (4, (.pointer (some ⟨g3, 0, none⟩)))]) (fun x w => HH w0 [] [[bl g3 109 (cCi.enc (boxF, bk boxF 256, upF (4 * (nk + d)) (aeW l) (fun _ => 0), (l.length / 4 + 6)))], [bl g30 106 ((cArr 4).enc x.2)]] w ∧ (∀ k, k < 4 → aeW l (4 * (nk + d) + k) = aeW l (4 * d + k) ^^^ x.2 k) ∧ (x.1 = rc ((d + 1 + (nk - 1)) / nk))) ?_ ?_
  refine zr ?_
  refine zv .mv 2 ?_
  refine zv .mv 0 ?_
  refine zv (v := (.int .i64 ((((nk + d) % nk) : Nat) : Int))) (fun _ _ hF => opRem (z := (((nk + d) % nk : Nat) : Int)) rfl (hF.ev 1 rfl) (hF.ev 0 rfl) (by omega) remN) 3 ?_
  refine zv (.eq ((nk + d) % nk = 0)) 1 ?_
  refine zn ?_
  refine zP (fun hc31 => ?_) (fun hc31 => ?_)
  refine zx ?_
  replace hH := hH.drew
  refine rv 0 .mv 1 ?_
  have hi32 : 1 < 4 := by omega
  refine rv 1 (.ia 1 4 1 (hi := hi32)) 0 ?_
  refine rld 2 (hH.q 1 rfl) (.ld cByte ((fun q9 => (upF (4 * (nk + d)) (aeW l) (fun _ => 0)) (4 * (nk + d - 1) + q9)) 1) (fun _ hS => ((holds_blk0 hS).elt hi32))) 1 ?_
  refine rv 3 .nc 2 ?_
  refine rv 4 (.fld 0) 1 ?_
  have hi33 : ((fun q9 => (upF (4 * (nk + d)) (aeW l) (fun _ => 0)) (4 * (nk + d - 1) + q9)) 1).toNat < 256 := UInt8.toNat_lt _
  refine rv 5 (.ia 1 256 (((fun q9 => (upF (4 * (nk + d)) (aeW l) (fun _ => 0)) (4 * (nk + d - 1) + q9)) 1).toNat) (hi := hi33)) 3 ?_
  refine rld 6 (hH.q 0 rfl) (.ld cByte (boxF (((fun q9 => (upF (4 * (nk + d)) (aeW l) (fun _ => 0)) (4 * (nk + d - 1) + q9)) 1).toNat)) (fun _ hS => ((holds_blk0 hS).fst.elt hi33))) 1 ?_
  refine rv 7 .mv 0 ?_
  refine rv 8 (.xb ((boxF (((fun q9 => (upF (4 * (nk + d)) (aeW l) (fun _ => 0)) (4 * (nk + d - 1) + q9)) 1).toNat)) ^^^ c) (u := (boxF (((fun q9 => (upF (4 * (nk + d)) (aeW l) (fun _ => 0)) (4 * (nk + d - 1) + q9)) 1).toNat))) (v := c)) 3 ?_
  refine rv 9 .mv 0 ?_
  have hi34 : 2 < 4 := by omega
  refine rv 10 (.ia 1 4 2 (hi := hi34)) 0 ?_
  refine rld 11 (hH.q 1 rfl) (.ld cByte ((fun q9 => (upF (4 * (nk + d)) (aeW l) (fun _ => 0)) (4 * (nk + d - 1) + q9)) 2) (fun _ hS => ((holds_blk0 hS).elt hi34))) 1 ?_
  refine rv 12 .nc 2 ?_
  refine rv 13 (.fld 0) 1 ?_
  have hi35 : ((fun q9 => (upF (4 * (nk + d)) (aeW l) (fun _ => 0)) (4 * (nk + d - 1) + q9)) 2).toNat < 256 := UInt8.toNat_lt _
  refine rv 14 (.ia 1 256 (((fun q9 => (upF (4 * (nk + d)) (aeW l) (fun _ => 0)) (4 * (nk + d - 1) + q9)) 2).toNat) (hi := hi35)) 3 ?_
  refine rld 15 (hH.q 0 rfl) (.ld cByte (boxF (((fun q9 => (upF (4 * (nk + d)) (aeW l) (fun _ => 0)) (4 * (nk + d - 1) + q9)) 2).toNat)) (fun _ hS => ((holds_blk0 hS).fst.elt hi35))) 1 ?_
  refine rv 16 .mv 0 ?_
  have hi36 : 3 < 4 := by omega
  refine rv 17 (.ia 1 4 3 (hi := hi36)) 0 ?_
  refine rld 18 (hH.q 1 rfl) (.ld cByte ((fun q9 => (upF (4 * (nk + d)) (aeW l) (fun _ => 0)) (4 * (nk + d - 1) + q9)) 3) (fun _ hS => ((holds_blk0 hS).elt hi36))) 1 ?_
  refine rv 19 .nc 2 ?_
  refine rv 20 (.fld 0) 1 ?_
  have hi37 : ((fun q9 => (upF (4 * (nk + d)) (aeW l) (fun _ => 0)) (4 * (nk + d - 1) + q9)) 3).toNat < 256 := UInt8.toNat_lt _
  refine rv 21 (.ia 1 256 (((fun q9 => (upF (4 * (nk + d)) (aeW l) (fun _ => 0)) (4 * (nk + d - 1) + q9)) 3).toNat) (hi := hi37)) 3 ?_
  refine rld 22 (hH.q 0 rfl) (.ld cByte (boxF (((fun q9 => (upF (4 * (nk + d)) (aeW l) (fun _ => 0)) (4 * (nk + d - 1) + q9)) 3).toNat)) (fun _ hS => ((holds_blk0 hS).fst.elt hi37))) 1 ?_
  refine rv 23 .mv 0 ?_
  have hi38 : 0 < 4 := by omega
  refine rv 24 (.ia 1 4 0 (hi := hi38)) 0 ?_
  refine rld 25 (hH.q 1 rfl) (.ld cByte ((fun q9 => (upF (4 * (nk + d)) (aeW l) (fun _ => 0)) (4 * (nk + d - 1) + q9)) 0) (fun _ hS => ((holds_blk0 hS).elt hi38))) 1 ?_
  refine rv 26 .nc 2 ?_
  refine rv 27 (.fld 0) 1 ?_
  have hi39 : ((fun q9 => (upF (4 * (nk + d)) (aeW l) (fun _ => 0)) (4 * (nk + d - 1) + q9)) 0).toNat < 256 := UInt8.toNat_lt _
  refine rv 28 (.ia 1 256 (((fun q9 => (upF (4 * (nk + d)) (aeW l) (fun _ => 0)) (4 * (nk + d - 1) + q9)) 0).toNat) (hi := hi39)) 3 ?_
  refine rld 29 (hH.q 0 rfl) (.ld cByte (boxF (((fun q9 => (upF (4 * (nk + d)) (aeW l) (fun _ => 0)) (4 * (nk + d - 1) + q9)) 0).toNat)) (fun _ hS => ((holds_blk0 hS).fst.elt hi39))) 1 ?_
  refine rv 30 (v := ((cArr 4).val (pk4 ((boxF (upF (4 * (nk + d)) (aeW l) (fun _ => 0) (4 * (nk + d - 1) + 1)).toNat) ^^^ c) (boxF (upF (4 * (nk + d)) (aeW l) (fun _ => 0) (4 * (nk + d - 1) + 2)).toNat) (boxF (upF (4 * (nk + d)) (aeW l) (fun _ => 0) (4 * (nk + d - 1) + 3)).toNat) (boxF (upF (4 * (nk + d)) (aeW l) (fun _ => 0) (4 * (nk + d - 1) + 0)).toNat)))) (fun _ _ hF => opBuildP (cells := (cArr 4).enc (pk4 ((boxF (upF (4 * (nk + d)) (aeW l) (fun _ => 0) (4 * (nk + d - 1) + 1)).toNat) ^^^ c) (boxF (upF (4 * (nk + d)) (aeW l) (fun _ => 0) (4 * (nk + d - 1) + 2)).toNat) (boxF (upF (4 * (nk + d)) (aeW l) (fun _ => 0) (4 * (nk + d - 1) + 3)).toNat) (boxF (upF (4 * (nk + d)) (aeW l) (fun _ => 0) (4 * (nk + d - 1) + 0)).toNat))) (vals := [(0, (.int .u8 (((((boxF (((fun q9 => (upF (4 * (nk + d)) (aeW l) (fun _ => 0)) (4 * (nk + d - 1) + q9)) 1).toNat)) ^^^ c).toNat) : Nat) : Int))), (1, (.int .u8 ((((boxF (((fun q9 => (upF (4 * (nk + d)) (aeW l) (fun _ => 0)) (4 * (nk + d - 1) + q9)) 2).toNat)).toNat) : Nat) : Int))), (2, (.int .u8 ((((boxF (((fun q9 => (upF (4 * (nk + d)) (aeW l) (fun _ => 0)) (4 * (nk + d - 1) + q9)) 3).toNat)).toNat) : Nat) : Int))), (3, (.int .u8 ((((boxF (((fun q9 => (upF (4 * (nk + d)) (aeW l) (fun _ => 0)) (4 * (nk + d - 1) + q9)) 0).toNat)).toNat) : Nat) : Int)))]) rfl (EvP.cons (v := (.int .u8 (((((boxF (((fun q9 => (upF (4 * (nk + d)) (aeW l) (fun _ => 0)) (4 * (nk + d - 1) + q9)) 1).toNat)) ^^^ c).toNat) : Nat) : Int))) (hF.ev 3 rfl) (EvP.cons (v := (.int .u8 ((((boxF (((fun q9 => (upF (4 * (nk + d)) (aeW l) (fun _ => 0)) (4 * (nk + d - 1) + q9)) 2).toNat)).toNat) : Nat) : Int))) (hF.ev 2 rfl) (EvP.cons (v := (.int .u8 ((((boxF (((fun q9 => (upF (4 * (nk + d)) (aeW l) (fun _ => 0)) (4 * (nk + d - 1) + q9)) 3).toNat)).toNat) : Nat) : Int))) (hF.ev 1 rfl) (EvP.cons (v := (.int .u8 ((((boxF (((fun q9 => (upF (4 * (nk + d)) (aeW l) (fun _ => 0)) (4 * (nk + d - 1) + q9)) 0).toNat)).toNat) : Nat) : Int))) (hF.ev 0 rfl) EvP.nil)))) (by kernel_rfl) _) 15 ?_
  refine rx1k 31 ?_
  refine re0 31 1 hH rfl (.sw (cArr 4) (fun q9 => (upF (4 * (nk + d)) (aeW l) (fun _ => 0)) (4 * (nk + d - 1) + q9)) (pk4 ((boxF (upF (4 * (nk + d)) (aeW l) (fun _ => 0) (4 * (nk + d - 1) + 1)).toNat) ^^^ c) (boxF (upF (4 * (nk + d)) (aeW l) (fun _ => 0) (4 * (nk + d - 1) + 2)).toNat) (boxF (upF (4 * (nk + d)) (aeW l) (fun _ => 0) (4 * (nk + d - 1) + 3)).toNat) (boxF (upF (4 * (nk + d)) (aeW l) (fun _ => 0) (4 * (nk + d - 1) + 0)).toNat))) trivial (pgo [] (pgo [] (pgo [] (pgo [] (pgo [] (pgo [] (pgo [] (pgo [] (.nil _ []))))))))) ?_
  clear hH
  rintro _ _ w rfl hH
  refine ⟨pnil, ?_⟩
  refine rn ?_
  refine cxReg ?_
  refine zv .mv 9 ?_
  refine zc Tryz.func70 (times_c c 2) trivial hH 1 ?_
  clear hH
  intro w hH
  refine zv .mv 1 ?_
  refine pxEnd ?_
  exact qxJoin ((tmB c 2), (pk4 ((boxF (upF (4 * (nk + d)) (aeW l) (fun _ => 0) (4 * (nk + d - 1) + 1)).toNat) ^^^ c) (boxF (upF (4 * (nk + d)) (aeW l) (fun _ => 0) (4 * (nk + d - 1) + 2)).toNat) (boxF (upF (4 * (nk + d)) (aeW l) (fun _ => 0) (4 * (nk + d - 1) + 3)).toNat) (boxF (upF (4 * (nk + d)) (aeW l) (fun _ => 0) (4 * (nk + d - 1) + 0)).toNat))) ⟨hH, (show ∀ k, k < 4 → aeW l (4 * (nk + d) + k) = aeW l (4 * d + k) ^^^ (pk4 ((boxF (upF (4 * (nk + d)) (aeW l) (fun _ => 0) (4 * (nk + d - 1) + 1)).toNat) ^^^ c) (boxF (upF (4 * (nk + d)) (aeW l) (fun _ => 0) (4 * (nk + d - 1) + 2)).toNat) (boxF (upF (4 * (nk + d)) (aeW l) (fun _ => 0) (4 * (nk + d - 1) + 3)).toNat) (boxF (upF (4 * (nk + d)) (aeW l) (fun _ => 0) (4 * (nk + d - 1) + 0)).toNat)) k from (rwdA hnk h4 (by omega) (by omega) hcc (upF (4 * (nk + d)) (aeW l) (fun _ => 0)) rfl)), (show (tmB c 2) = rc ((d + 1 + (nk - 1)) / nk) from (by rw [hcc, tmx2]; exact rc_next h4 (by rw [Nat.add_comm]; omega)))⟩ (slots_at [1, 2, 0, 3, 4] rfl)
  refine zr ?_
  refine zv .mv 1 ?_
  refine zv (.eq (nk = 8)) 1 ?_
  refine zv .mv 1 ?_
  refine pxSplitP 0 rfl (l1 := [(129, (.bool true)), (10, (.pointer (some ⟨g30, 0, none⟩))), (9, (.int .i64 (((nk + d) : Nat) : Int))), (8, (.int .u8 (((c.toNat) : Nat) : Int))), (6, (.int .i64 (((nk) : Nat) : Int))), (4, (.pointer (some ⟨g3, 0, none⟩)))]) (l2 := [(129, (.bool false)), (10, (.pointer (some ⟨g30, 0, none⟩))), (9, (.int .i64 (((nk + d) : Nat) : Int))), (8, (.int .u8 (((c.toNat) : Nat) : Int))), (6, (.int .i64 (((nk) : Nat) : Int))), (4, (.pointer (some ⟨g3, 0, none⟩)))]) rfl rfl (fun hg40 => ?_) (fun hg40 => ?_)
  refine pxV (v := (.int .i64 (((nk + d) : Nat) : Int))) (fun _ _ hF => opMove rfl (hF.ev 2 rfl)) rfl (gOn 0 rfl rfl rfl (by decide)) (kA rfl) (by decide) ?_
  refine pxV (v := (.int .i64 (((nk) : Nat) : Int))) (fun _ _ hF => opMove rfl (hF.ev 5 rfl)) rfl (gOn 1 rfl rfl rfl (by decide)) (kA rfl) (by decide) ?_
  refine pxV (v := (.int .i64 ((((nk + d) % nk) : Nat) : Int))) (fun _ _ hF => opRem (z := (((nk + d) % nk : Nat) : Int)) rfl (hF.ev 1 rfl) (hF.ev 0 rfl) (by omega) remN) rfl (gOn 2 rfl rfl rfl (by decide)) (kM [false, false, true, true, true, true, true, true] rfl rfl) (by decide) ?_
  refine pxV (v := (.bool (decide ((nk + d) % nk = 4)))) (fun _ _ hF => opEqI rfl (hF.ev 0 rfl) rfl (dc (by omega))) rfl (gOn 1 rfl rfl rfl (by decide)) (kM [false, true, true, true, true, true, true] rfl rfl) (by decide) ?_
  refine zv (v := (.bool (decide ((nk + d) % nk = 4)))) (fun _ _ hF => opPickT rfl (hF.ev 1 rfl) (hF.ev 0 rfl)) 3 ?_
  refine zn ?_
  refine zP (fun hc41 => ?_) (fun hc41 => ?_)
  refine cxRegX mixedOrders (by kernel_rfl) ?_
  replace hH := hH.drew
  refine rv 0 .mv 1 ?_
  have hi42 : 0 < 4 := by omega
  refine rv 1 (.ia 1 4 0 (hi := hi42)) 0 ?_
  refine rld 2 (hH.q 1 rfl) (.ld cByte ((fun q9 => (upF (4 * (nk + d)) (aeW l) (fun _ => 0)) (4 * (nk + d - 1) + q9)) 0) (fun _ hS => ((holds_blk0 hS).elt hi42))) 1 ?_
  refine rv 3 .nc 2 ?_
  refine rv 4 (.fld 0) 1 ?_
  have hi43 : ((fun q9 => (upF (4 * (nk + d)) (aeW l) (fun _ => 0)) (4 * (nk + d - 1) + q9)) 0).toNat < 256 := UInt8.toNat_lt _
  refine rv 5 (.ia 1 256 (((fun q9 => (upF (4 * (nk + d)) (aeW l) (fun _ => 0)) (4 * (nk + d - 1) + q9)) 0).toNat) (hi := hi43)) 3 ?_
  refine rld 6 (hH.q 0 rfl) (.ld cByte (boxF (((fun q9 => (upF (4 * (nk + d)) (aeW l) (fun _ => 0)) (4 * (nk + d - 1) + q9)) 0).toNat)) (fun _ hS => ((holds_blk0 hS).fst.elt hi43))) 1 ?_
  refine rv 7 .mv 0 ?_
  have hi44 : 1 < 4 := by omega
  refine rv 8 (.ia 1 4 1 (hi := hi44)) 0 ?_
  refine rld 9 (hH.q 1 rfl) (.ld cByte ((fun q9 => (upF (4 * (nk + d)) (aeW l) (fun _ => 0)) (4 * (nk + d - 1) + q9)) 1) (fun _ hS => ((holds_blk0 hS).elt hi44))) 1 ?_
  refine rv 10 .nc 2 ?_
  refine rv 11 (.fld 0) 1 ?_
  have hi45 : ((fun q9 => (upF (4 * (nk + d)) (aeW l) (fun _ => 0)) (4 * (nk + d - 1) + q9)) 1).toNat < 256 := UInt8.toNat_lt _
  refine rv 12 (.ia 1 256 (((fun q9 => (upF (4 * (nk + d)) (aeW l) (fun _ => 0)) (4 * (nk + d - 1) + q9)) 1).toNat) (hi := hi45)) 3 ?_
  refine rld 13 (hH.q 0 rfl) (.ld cByte (boxF (((fun q9 => (upF (4 * (nk + d)) (aeW l) (fun _ => 0)) (4 * (nk + d - 1) + q9)) 1).toNat)) (fun _ hS => ((holds_blk0 hS).fst.elt hi45))) 1 ?_
  refine rv 14 .mv 0 ?_
  have hi46 : 2 < 4 := by omega
  refine rv 15 (.ia 1 4 2 (hi := hi46)) 0 ?_
  refine rld 16 (hH.q 1 rfl) (.ld cByte ((fun q9 => (upF (4 * (nk + d)) (aeW l) (fun _ => 0)) (4 * (nk + d - 1) + q9)) 2) (fun _ hS => ((holds_blk0 hS).elt hi46))) 1 ?_
  refine rv 17 .nc 2 ?_
  refine rv 18 (.fld 0) 1 ?_
  have hi47 : ((fun q9 => (upF (4 * (nk + d)) (aeW l) (fun _ => 0)) (4 * (nk + d - 1) + q9)) 2).toNat < 256 := UInt8.toNat_lt _
  refine rv 19 (.ia 1 256 (((fun q9 => (upF (4 * (nk + d)) (aeW l) (fun _ => 0)) (4 * (nk + d - 1) + q9)) 2).toNat) (hi := hi47)) 3 ?_
  refine rld 20 (hH.q 0 rfl) (.ld cByte (boxF (((fun q9 => (upF (4 * (nk + d)) (aeW l) (fun _ => 0)) (4 * (nk + d - 1) + q9)) 2).toNat)) (fun _ hS => ((holds_blk0 hS).fst.elt hi47))) 1 ?_
  refine rv 21 .mv 0 ?_
  have hi48 : 3 < 4 := by omega
  refine rv 22 (.ia 1 4 3 (hi := hi48)) 0 ?_
  refine rld 23 (hH.q 1 rfl) (.ld cByte ((fun q9 => (upF (4 * (nk + d)) (aeW l) (fun _ => 0)) (4 * (nk + d - 1) + q9)) 3) (fun _ hS => ((holds_blk0 hS).elt hi48))) 1 ?_
  refine rv 24 .nc 2 ?_
  refine rv 25 (.fld 0) 1 ?_
  have hi49 : ((fun q9 => (upF (4 * (nk + d)) (aeW l) (fun _ => 0)) (4 * (nk + d - 1) + q9)) 3).toNat < 256 := UInt8.toNat_lt _
  refine rv 26 (.ia 1 256 (((fun q9 => (upF (4 * (nk + d)) (aeW l) (fun _ => 0)) (4 * (nk + d - 1) + q9)) 3).toNat) (hi := hi49)) 3 ?_
  refine rld 27 (hH.q 0 rfl) (.ld cByte (boxF (((fun q9 => (upF (4 * (nk + d)) (aeW l) (fun _ => 0)) (4 * (nk + d - 1) + q9)) 3).toNat)) (fun _ hS => ((holds_blk0 hS).fst.elt hi49))) 1 ?_
  refine rv 28 (v := ((cArr 4).val (pk4 (boxF (upF (4 * (nk + d)) (aeW l) (fun _ => 0) (4 * (nk + d - 1) + 0)).toNat) (boxF (upF (4 * (nk + d)) (aeW l) (fun _ => 0) (4 * (nk + d - 1) + 1)).toNat) (boxF (upF (4 * (nk + d)) (aeW l) (fun _ => 0) (4 * (nk + d - 1) + 2)).toNat) (boxF (upF (4 * (nk + d)) (aeW l) (fun _ => 0) (4 * (nk + d - 1) + 3)).toNat)))) (fun _ _ hF => opBuildP (cells := (cArr 4).enc (pk4 (boxF (upF (4 * (nk + d)) (aeW l) (fun _ => 0) (4 * (nk + d - 1) + 0)).toNat) (boxF (upF (4 * (nk + d)) (aeW l) (fun _ => 0) (4 * (nk + d - 1) + 1)).toNat) (boxF (upF (4 * (nk + d)) (aeW l) (fun _ => 0) (4 * (nk + d - 1) + 2)).toNat) (boxF (upF (4 * (nk + d)) (aeW l) (fun _ => 0) (4 * (nk + d - 1) + 3)).toNat))) (vals := [(0, (.int .u8 ((((boxF (((fun q9 => (upF (4 * (nk + d)) (aeW l) (fun _ => 0)) (4 * (nk + d - 1) + q9)) 0).toNat)).toNat) : Nat) : Int))), (1, (.int .u8 ((((boxF (((fun q9 => (upF (4 * (nk + d)) (aeW l) (fun _ => 0)) (4 * (nk + d - 1) + q9)) 1).toNat)).toNat) : Nat) : Int))), (2, (.int .u8 ((((boxF (((fun q9 => (upF (4 * (nk + d)) (aeW l) (fun _ => 0)) (4 * (nk + d - 1) + q9)) 2).toNat)).toNat) : Nat) : Int))), (3, (.int .u8 ((((boxF (((fun q9 => (upF (4 * (nk + d)) (aeW l) (fun _ => 0)) (4 * (nk + d - 1) + q9)) 3).toNat)).toNat) : Nat) : Int)))]) rfl (EvP.cons (v := (.int .u8 ((((boxF (((fun q9 => (upF (4 * (nk + d)) (aeW l) (fun _ => 0)) (4 * (nk + d - 1) + q9)) 0).toNat)).toNat) : Nat) : Int))) (hF.ev 3 rfl) (EvP.cons (v := (.int .u8 ((((boxF (((fun q9 => (upF (4 * (nk + d)) (aeW l) (fun _ => 0)) (4 * (nk + d - 1) + q9)) 1).toNat)).toNat) : Nat) : Int))) (hF.ev 2 rfl) (EvP.cons (v := (.int .u8 ((((boxF (((fun q9 => (upF (4 * (nk + d)) (aeW l) (fun _ => 0)) (4 * (nk + d - 1) + q9)) 2).toNat)).toNat) : Nat) : Int))) (hF.ev 1 rfl) (EvP.cons (v := (.int .u8 ((((boxF (((fun q9 => (upF (4 * (nk + d)) (aeW l) (fun _ => 0)) (4 * (nk + d - 1) + q9)) 3).toNat)).toNat) : Nat) : Int))) (hF.ev 0 rfl) EvP.nil)))) (by kernel_rfl) _) 15 ?_
  refine rx1k 29 ?_
  refine re0 29 1 hH rfl (.sw (cArr 4) (fun q9 => (upF (4 * (nk + d)) (aeW l) (fun _ => 0)) (4 * (nk + d - 1) + q9)) (pk4 (boxF (upF (4 * (nk + d)) (aeW l) (fun _ => 0) (4 * (nk + d - 1) + 0)).toNat) (boxF (upF (4 * (nk + d)) (aeW l) (fun _ => 0) (4 * (nk + d - 1) + 1)).toNat) (boxF (upF (4 * (nk + d)) (aeW l) (fun _ => 0) (4 * (nk + d - 1) + 2)).toNat) (boxF (upF (4 * (nk + d)) (aeW l) (fun _ => 0) (4 * (nk + d - 1) + 3)).toNat))) trivial (pgo [] (pgo [] (pgo [] (pgo [] (pgo [] (pgo [] (pgo [] (pgo [] (.nil _ []))))))))) ?_
  clear hH
  rintro _ _ w rfl hH
  refine ⟨pnil, ?_⟩
  refine rxEnd (by kernel_rfl) ?_
  exact qxJoin (c, (pk4 (boxF (upF (4 * (nk + d)) (aeW l) (fun _ => 0) (4 * (nk + d - 1) + 0)).toNat) (boxF (upF (4 * (nk + d)) (aeW l) (fun _ => 0) (4 * (nk + d - 1) + 1)).toNat) (boxF (upF (4 * (nk + d)) (aeW l) (fun _ => 0) (4 * (nk + d - 1) + 2)).toNat) (boxF (upF (4 * (nk + d)) (aeW l) (fun _ => 0) (4 * (nk + d - 1) + 3)).toNat))) ⟨hH, (show ∀ k, k < 4 → aeW l (4 * (nk + d) + k) = aeW l (4 * d + k) ^^^ (pk4 (boxF (upF (4 * (nk + d)) (aeW l) (fun _ => 0) (4 * (nk + d - 1) + 0)).toNat) (boxF (upF (4 * (nk + d)) (aeW l) (fun _ => 0) (4 * (nk + d - 1) + 1)).toNat) (boxF (upF (4 * (nk + d)) (aeW l) (fun _ => 0) (4 * (nk + d - 1) + 2)).toNat) (boxF (upF (4 * (nk + d)) (aeW l) (fun _ => 0) (4 * (nk + d - 1) + 3)).toNat)) k from (rwdC hnk h4 (by omega) (by omega) (by omega) (upF (4 * (nk + d)) (aeW l) (fun _ => 0)) rfl)), (show c = rc ((d + 1 + (nk - 1)) / nk) from (hcc.trans (rc_same h4 (by rw [Nat.add_comm]; omega))))⟩ (slots_at [1, 2, 3, 4, 5] rfl)
  refine cxSkip ?_
  exact qxJoin (c, (fun q9 => (upF (4 * (nk + d)) (aeW l) (fun _ => 0)) (4 * (nk + d - 1) + q9))) ⟨hH, (show ∀ k, k < 4 → aeW l (4 * (nk + d) + k) = aeW l (4 * d + k) ^^^ (fun q9 => (upF (4 * (nk + d)) (aeW l) (fun _ => 0)) (4 * (nk + d - 1) + q9)) k from (rwdB hnk h4 (by omega) (by omega) (by omega) (upF (4 * (nk + d)) (aeW l) (fun _ => 0)) rfl)), (show c = rc ((d + 1 + (nk - 1)) / nk) from (hcc.trans (rc_same h4 (by rw [Nat.add_comm]; omega))))⟩ (slots_at [1, 2, 3, 4, 5] rfl)
  refine pxU rfl (gOff 0 rfl rfl rfl (by decide)) (kA rfl) (by decide) ?_
  refine pxU rfl (gOff 0 rfl rfl rfl (by decide)) (kA rfl) (by decide) ?_
  refine pxU rfl (gOff 0 rfl rfl rfl (by decide)) (kA rfl) (by decide) ?_
  refine pxU rfl (gOff 0 rfl rfl rfl (by decide)) (kA rfl) (by decide) ?_
  refine zv (v := (.bool false)) (fun _ _ hF => opPickF rfl (hF.ev 0 rfl) rfl) 1 ?_
  refine zn ?_
  refine zF ?_
  refine cxSkip ?_
  exact qxJoin (c, (fun q9 => (upF (4 * (nk + d)) (aeW l) (fun _ => 0)) (4 * (nk + d - 1) + q9))) ⟨hH, (show ∀ k, k < 4 → aeW l (4 * (nk + d) + k) = aeW l (4 * d + k) ^^^ (fun q9 => (upF (4 * (nk + d)) (aeW l) (fun _ => 0)) (4 * (nk + d - 1) + q9)) k from (rwdB hnk h4 (by omega) (by omega) (by omega) (upF (4 * (nk + d)) (aeW l) (fun _ => 0)) rfl)), (show c = rc ((d + 1 + (nk - 1)) / nk) from (hcc.trans (rc_same h4 (by rw [Nat.add_comm]; omega))))⟩ (slots_at [1, 2, 3, 4, 5] rfl)
  clear hH
  rintro ⟨c2, T⟩ w ⟨hH, hT, hc2⟩
  change CX _ _ _ _ [(10, (.pointer (some ⟨g30, 0, none⟩))), (9, (.int .i64 (((nk + d) : Nat) : Int))), (8, (.int .u8 (((c2.toNat) : Nat) : Int))), (6, (.int .i64 (((nk) : Nat) : Int))), (4, (.pointer (some ⟨g3, 0, none⟩)))] _
  replace hH : HH w0 [] [[bl g3 109 (cCi.enc (boxF, bk boxF 256, upF (4 * (nk + d)) (aeW l) (fun _ => 0), (l.length / 4 + 6)))], [bl g30 106 ((cArr 4).enc T)]] w := hH
  replace hT : ∀ k, k < 4 → aeW l (4 * (nk + d) + k) = aeW l (4 * d + k) ^^^ T k := hT
  replace hc2 : c2 = rc ((d + 1 + (nk - 1)) / nk) := hc2
  refine zr ?_
  refine zv .mv 0 ?_
  refine zn ?_
  refine cxBlock ?_
  have he50 : cCi.enc (boxF, bk boxF 256, upF (4 * (nk + d) + 0) (aeW l) (fun _ => 0), (l.length / 4 + 6)) = cCi.enc (boxF, bk boxF 256, upF (4 * (nk + d)) (aeW l) (fun _ => 0), (l.length / 4 + 6)) := ci_congr (fun _ _ => rfl) (fun _ _ => rfl) (fun _ _ => rfl)
  replace hH : HH w0 [] [[bl g3 109 (cCi.enc (boxF, bk boxF 256, upF (4 * (nk + d) + 0) (aeW l) (fun _ => 0), (l.length / 4 + 6)))], [bl g30 106 ((cArr 4).enc T)]] w := by rw [he50]; exact hH
  refine zL1 (fun (k : Nat) => [(164, (.int .i64 (((k) : Nat) : Int))), (10, (.pointer (some ⟨g30, 0, none⟩))), (9, (.int .i64 (((nk + d) : Nat) : Int))), (8, (.int .u8 (((c2.toNat) : Nat) : Int))), (6, (.int .i64 (((nk) : Nat) : Int))), (4, (.pointer (some ⟨g3, 0, none⟩)))]) (fun k w => HH w0 [] [[bl g3 109 (cCi.enc (boxF, bk boxF 256, upF (4 * (nk + d) + k) (aeW l) (fun _ => 0), (l.length / 4 + 6)))], [bl g30 106 ((cArr 4).enc T)]] w ∧ (k ≤ 4)) (fun k => 4 - k) 0 ⟨hH, (Nat.zero_le _)⟩ ?_
  clear hH
  rintro k w ⟨hH, hk2⟩
  refine zr ?_
  refine zv (.lt (k < 4)) 0 ?_
  refine zn ?_
  refine cxSeq ?_
  refine zP (fun hc51 => ?_) (fun hc51 => ?_)
  refine cxSkip ?_
  refine qxThen ?_
  refine cxSeq ?_
  refine cxBlock ?_
  refine zr ?_
  refine zv .mv 1 ?_
  refine zv .mv 1 ?_
  refine zn ?_
  refine cxRegX mixedOrders (by kernel_rfl) ?_
  replace hH := hH.drew
  refine rv 0 .mv 0 ?_
  refine rv 1 .mv 0 ?_
  refine rv 2 .mv 0 ?_
  refine rv 3 .mv 0 ?_
  refine rv 4 .mv 0 ?_
  refine rv 5 .mv 0 ?_
  refine rv 6 (.sub (((d) : Nat) : Int)) 3 ?_
  refine rv 7 .mv 0 ?_
  refine rv 8 .nc 4 ?_
  refine rv 9 (.fld 512) 1 ?_
  have hi52 : d < 60 := by omega
  refine rv 10 (.ia 4 60 d (hi := hi52)) 5 ?_
  have hi53 : k < 4 := by omega
  refine rv 11 (.ia 1 4 k (hi := hi53)) 3 ?_
  refine rld 12 (hH.q 0 rfl) (.ld cByte ((upF (4 * (nk + d) + k) (aeW l) (fun _ => 0)) (4 * d + k)) (fun _ hS => ((Holds.row ((((holds_blk0 hS).snd).snd).fst) d 4 (by omega)).elt hi53))) 1 ?_
  refine rv 13 .mv 16 ?_
  have hi54 : k < 4 := by omega
  refine rv 14 (.ia 1 4 k (hi := hi54)) 1 ?_
  refine rld 15 (hH.q 1 rfl) (.ld cByte (T k) (fun _ hS => ((holds_blk0 hS).elt hi54))) 1 ?_
  refine rv 16 (.xb (((upF (4 * (nk + d) + k) (aeW l) (fun _ => 0)) (4 * d + k)) ^^^ (T k)) (u := ((upF (4 * (nk + d) + k) (aeW l) (fun _ => 0)) (4 * d + k))) (v := (T k))) 3 ?_
  refine rv 17 .nc 8 ?_
  refine rv 18 (.fld 512) 1 ?_
  have hi55 : nk + d < 60 := by omega
  refine rv 19 (.ia 4 60 (nk + d) (hi := hi55)) 9 ?_
  have hi56 : k < 4 := by omega
  refine rv 20 (.ia 1 4 k (hi := hi56)) 5 ?_
  have hi57 : 4 * (nk + d) + k < 240 := by omega
  refine rx1k 21 ?_
  refine re0 21 0 hH rfl (.st cByte (((upF (4 * (nk + d) + k) (aeW l) (fun _ => 0)) (4 * d + k)) ^^^ (T k)) (by rw [Cod.size]; show 512 + (nk + d) * 4 + k * 1 + 1 ≤ 753; omega) (put_snA (a := 256) (o := 512 + (nk + d) * 4 + k * 1) (put_snA (a := 256) (o := 256 + (4 * (nk + d) + k) * 1) (put_fst (arr_set0 (upF (4 * (nk + d) + k) (aeW l) (fun _ => 0)) (((upF (4 * (nk + d) + k) (aeW l) (fun _ => 0)) (4 * d + k)) ^^^ (T k)) hi57) (by show 0 + (4 * (nk + d) + k) * 1 + 1 ≤ 240; omega)) (by omega)) (by omega))) trivial (pgo [] (pgo [] (.nil _ []))) ?_
  clear hH
  rintro _ _ w rfl hH
  refine ⟨pnil, ?_⟩
  refine rxEnd (by kernel_rfl) ?_
  refine qxInN ?_
  refine qxThen ?_
  refine cxReg ?_
  refine zv (.add ((k + 1 : Nat) : Int)) 7 ?_
  refine zv .mv 1 ?_
  refine pxEnd ?_
  have he58 : cCi.enc (boxF, bk boxF 256, upF (4 * (nk + d) + (k + 1)) (aeW l) (fun _ => 0), (l.length / 4 + 6)) = cCi.enc (boxF, bk boxF 256, (stF (upF (4 * (nk + d) + k) (aeW l) (fun _ => 0)) (4 * (nk + d) + k) (((upF (4 * (nk + d) + k) (aeW l) (fun _ => 0)) (4 * d + k)) ^^^ (T k))), (l.length / 4 + 6)) := ci_congr (fun _ _ => rfl) (fun _ _ => rfl) (fun j _ => (congrFun (row_put (T := T) rfl (by omega) (by omega) (hT k (by omega)) rfl) j).symm)
  replace hH : HH w0 [] [[bl g3 109 (cCi.enc (boxF, bk boxF 256, upF (4 * (nk + d) + (k + 1)) (aeW l) (fun _ => 0), (l.length / 4 + 6)))], [bl g30 106 ((cArr 4).enc T)]] w := by rw [he58]; exact hH
  exact zR1 (k + 1) ⟨hH, (by omega)⟩ (by omega)
  refine cxExit ?_
  refine qxThenE ?_
  refine qxThenE ?_
  refine qxInE ?_
  refine qxInN ?_
  refine qxThen ?_
  obtain rfl : k = 4 := by omega
  have he59 : cCi.enc (boxF, bk boxF 256, upF (4 * (nk + (d + 1))) (aeW l) (fun _ => 0), (l.length / 4 + 6)) = cCi.enc (boxF, bk boxF 256, upF (4 * (nk + d) + 4) (aeW l) (fun _ => 0), (l.length / 4 + 6)) := ci_congr (fun _ _ => rfl) (fun _ _ => rfl) (fun j _ => by rw [show 4 * (nk + d) + 4 = 4 * (nk + (d + 1)) by omega])
  replace hH : HH w0 [] [[bl g3 109 (cCi.enc (boxF, bk boxF 256, upF (4 * (nk + (d + 1))) (aeW l) (fun _ => 0), (l.length / 4 + 6)))], [bl g30 106 ((cArr 4).enc T)]] w := by rw [he59]; exact hH
  refine cxReg ?_
  refine zv .mv 15 ?_
  refine zv (.add (((nk + (d + 1)) : Nat) : Int)) 1 ?_
  refine zv .mv 1 ?_
  refine pxEnd ?_
  replace hH : HH w0 [] [[bl g3 109 (cCi.enc (boxF, bk boxF 256, upF (4 * (nk + (d + 1))) (aeW l) (fun _ => 0), (l.length / 4 + 6)))]] w := hH.only [true, false]
  exact zR2 (d + 1) c2 ⟨hH, (by omega), hc2⟩ (by omega)
  refine cxExit ?_
  refine qxThenE ?_
  refine qxThenE ?_
  refine qxInE ?_
  refine qxThen ?_
  obtain rfl : d = 3 * nk + 28 := by omega
  have he60 : cCi.enc (boxF, bk boxF 256, (upF (16 * (l.length / 4 + 7)) (aeW l) fun _ => 0), (l.length / 4 + 6)) = cCi.enc (boxF, bk boxF 256, upF (4 * (nk + (3 * nk + 28))) (aeW l) (fun _ => 0), (l.length / 4 + 6)) := ci_congr (fun _ _ => rfl) (fun _ _ => rfl) (fun j _ => by rw [show 4 * (nk + (3 * nk + 28)) = 16 * (l.length / 4 + 7) by omega])
  replace hH : HH w0 [] [[bl g3 109 (cCi.enc (boxF, bk boxF 256, (upF (16 * (l.length / 4 + 7)) (aeW l) fun _ => 0), (l.length / 4 + 6)))]] w := by rw [he60]; exact hH
  refine zr ?_
  refine zv .mv 31 ?_
  refine zv .mv 1 ?_
  refine zv .mv 0 ?_
  refine zn ?_
  refine cxRet ?_
  refine qxRet2 1 0 rfl rfl rfl ?_
  exact ⟨_, _, rfl, ⟨g3, rfl, rfl⟩, hH.out1 [true] rfl⟩
end Go.Proofs.YtfloiekaiiapnaaGreatDoor

namespace Go.Proofs.YtfloiekaiiapnaaGreatDoor
open Go Go.RowKit
set_option maxRecDepth 100000

section
variable {l : List UInt8} {b u : Nat → UInt8} {j m : Nat}
/-- A block between the rounds, by the document: after j rounds. -/
def eRd (l : List UInt8) (b : Nat → UInt8) (j : Nat) : Nat → UInt8 := if j < l.length / 4 + 6 then encR boxF (aeW l) b j else aeE l b
theorem eRd_lt (h : j < l.length / 4 + 6) : eRd l b j = encR boxF (aeW l) b j := if_pos h
theorem eRd_last (h : l.length / 4 + 6 = j + 1) : eRd l b (j + 1) = added (shifted (boxed boxF (encR boxF (aeW l) b j))) (rk (aeW l) (j + 1)) := by
  unfold eRd
  rw [if_neg (by omega)]
  unfold aeE enc aeR
  rw [h]
  rfl
theorem eRd_all : eRd l b (l.length / 4 + 6) = aeE l b := if_neg (Nat.lt_irrefl _)
def dRd (l : List UInt8) (b : Nat → UInt8) : Nat → Nat → UInt8
  | 0 => b
  | q + 1 => decR (bk boxF 256) (aeR l) (aeW l) b q
theorem dRd_next {q : Nat} : dRd l b (q + 1 + 1) = boxed (bk boxF 256) (unshifted (unmixed (added (dRd l b (q + 1)) (rk (aeW l) (l.length / 4 + 6 - 1 - q))))) := rfl
theorem dRd_pos {q : Nat} (h : 0 < q) : dRd l b (q + 1) = boxed (bk boxF 256) (unshifted (unmixed (added (dRd l b q) (rk (aeW l) (l.length / 4 + 6 - q))))) := by
  obtain ⟨p, rfl⟩ : ∃ p, q = p + 1 := ⟨q - 1, by omega⟩
  rw [dRd_next, show l.length / 4 + 6 - 1 - p = l.length / 4 + 6 - (p + 1) by omega]
/-- What has been put of a block turned back, the rest as it was. -/
def prU (m : Nat) (G f : Nat → UInt8) : Nat → UInt8 := fun j => if (j + j % 4 * 12) % 16 < m then G j else f j
theorem prU_step {G f : Nat → UInt8} {v : UInt8} (hm : m < 16) (hv : v = G ((m + m % 4 * 4) % 16)) (j : Nat) (hj : j < 16) : prU (m + 1) G f j = stF (prU m G f) (4 * (((m / 4) + (m % 4)) % 4) + (m % 4)) v j := by
  rw [show 4 * (((m / 4) + (m % 4)) % 4) + (m % 4) = (m + m % 4 * 4) % 16 by omega]
  unfold prU stF
  by_cases h : j = (m + m % 4 * 4) % 16
  · rw [if_pos h, if_pos (by omega), hv, h]
  · rw [if_neg h]
    show _ = if (j + j % 4 * 12) % 16 < m then G j else f j
    by_cases h2 : (j + j % 4 * 12) % 16 < m
    · rw [if_pos h2, if_pos (by omega)]
    · rw [if_neg h2, if_neg (by omega)]
theorem prU_all (G f : Nat → UInt8) (j : Nat) : G j = prU 16 G f j := (if_pos (by omega)).symm
theorem back_put (s : Nat → UInt8) (hm : m < 16) : s (u m).toNat = boxed s (unshifted u) ((m + m % 4 * 4) % 16) := by
  show _ = s (u (((m + m % 4 * 4) % 16 + (m + m % 4 * 4) % 16 % 4 * 12) % 16)).toNat
  rw [show ((m + m % 4 * 4) % 16 + (m + m % 4 * 4) % 16 % 4 * 12) % 16 = m by omega]
end

set_option maxHeartbeats 8000000 in
theorem put_r (g : Nat) (l : List UInt8) (hk : l.length = 16 ∨ l.length = 32) (f : Nat → UInt8) (r : Nat) (hr : r ≤ l.length / 4 + 6) : Pure Tryz.prog 72 #[(.pointer (some ⟨g, 0, none⟩)), ((cArr 16).val f), (.int .i64 (((r) : Nat) : Int))] (fun w => w.heap[g]? = some (.cells (cCi.enc (boxF, bk boxF 256, (upF (16 * (l.length / 4 + 7)) (aeW l) fun _ => 0), (l.length / 4 + 6))) 109 (0, 0))) ((cArr 16).val (added f (rk (aeW l) r))) := by
  refine pure_of (fn := Tryz.f72) Tryz.func72 rfl Tryz.ntmps72 (Nat.le_of_ble_eq_true rfl) rfl ?_
  intro w0 hH hR
  refine zr ?_
  refine zm hH (.bx (cArr 16) f) trivial 2 ?_
  clear hH
  rintro _ _ w ⟨g1, rfl, rfl⟩ hH
  refine zm hH (.al (cArr 16) (fun _ => 0)) trivial 0 ?_
  clear hH
  rintro _ _ w ⟨g2, rfl, rfl⟩ hH
  refine zn ?_
  refine cxSeq ?_
  refine zr ?_
  refine zv .mv 0 ?_
  refine zn ?_
  refine cxBlock ?_
  have he3 : (cArr 16).enc (upF 0 (added f (rk (aeW l) r)) f) = (cArr 16).enc f := arr_congr (fun j _ => by rw [upF_zero])
  replace hH : HH w0 [] [[bl g1 61 ((cArr 16).enc (upF 0 (added f (rk (aeW l) r)) f))], [bl g2 61 ((cArr 16).enc (fun _ => 0))]] w := by rw [he3]; exact hH
  refine zL1 (fun (i : Nat) => [(8, (.int .i64 (((i) : Nat) : Int))), (6, (.pointer (some ⟨g2, 0, none⟩))), (4, (.pointer (some ⟨g1, 0, none⟩))), (2, (.int .i64 (((r) : Nat) : Int))), (0, (.pointer (some ⟨g, 0, none⟩)))]) (fun i w => HH w0 [] [[bl g1 61 ((cArr 16).enc (upF i (added f (rk (aeW l) r)) f))], [bl g2 61 ((cArr 16).enc (fun _ => 0))]] w ∧ (i ≤ 16)) (fun i => 16 - i) 0 ⟨hH, (Nat.zero_le _)⟩ ?_
  clear hH
  rintro i w ⟨hH, hi⟩
  refine zr ?_
  refine zv (.lt (i < 16)) 0 ?_
  refine zn ?_
  refine cxSeq ?_
  refine zP (fun hc4 => ?_) (fun hc4 => ?_)
  refine cxSkip ?_
  refine qxThen ?_
  refine cxSeq ?_
  refine cxBlock ?_
  refine zr ?_
  refine zv .mv 1 ?_
  refine zv .mv 1 ?_
  refine zn ?_
  refine cxRegX mixedOrders (by kernel_rfl) ?_
  replace hH := hH.drew
  refine rv 0 .mv 0 ?_
  refine rv 1 .mv 0 ?_
  have hi5 : i < 16 := by omega
  refine rv 2 (.ia 1 16 i (hi := hi5)) 1 ?_
  refine rld 3 (hH.q 0 rfl) (.ld cByte ((upF i (added f (rk (aeW l) r)) f) i) (fun _ hS => ((holds_blk0 hS).elt hi5))) 1 ?_
  refine rv 4 .mv 0 ?_
  refine rv 5 .mv 0 ?_
  refine rv 6 (.mul ((4 * r : Nat) : Int)) 1 ?_
  refine rv 7 .mv 0 ?_
  refine rv 8 (v := (.int .i64 (((i / 4) : Nat) : Int))) (fun _ _ hF => opQuo (z := ((i / 4 : Nat) : Int)) rfl (hF.ev 0 rfl) rfl (by omega) (wI quoN (by omega) (by omega))) 1 ?_
  refine rv 9 (.add (((4 * r) + (i / 4) : Nat) : Int)) 3 ?_
  refine rv 10 .mv 16 ?_
  refine rv 11 (v := (.int .i64 (((i % 4) : Nat) : Int))) (fun _ _ hF => opRem (z := ((i % 4 : Nat) : Int)) rfl (hF.ev 0 rfl) rfl (by omega) remN) 1 ?_
  refine rv 12 .nc 4 ?_
  refine rv 13 (.fld 512) 1 ?_
  have hi6 : (4 * r) + (i / 4) < 60 := by omega
  refine rv 14 (.ia 4 60 ((4 * r) + (i / 4)) (hi := hi6)) 5 ?_
  have hi7 : i % 4 < 4 := by omega
  refine rv 15 (.ia 1 4 (i % 4) (hi := hi7)) 3 ?_
  refine rld 16 (hH.ob hR) (.ld cByte ((upF (16 * (l.length / 4 + 7)) (aeW l) fun _ => 0) (4 * ((4 * r) + (i / 4)) + (i % 4))) (fun _ hS => ((Holds.row ((((holds_blk0 hS).snd).snd).fst) ((4 * r) + (i / 4)) 4 (by omega)).elt hi7))) 1 ?_
  refine rv 17 (.xb (((upF i (added f (rk (aeW l) r)) f) i) ^^^ ((upF (16 * (l.length / 4 + 7)) (aeW l) fun _ => 0) (4 * ((4 * r) + (i / 4)) + (i % 4)))) (u := ((upF i (added f (rk (aeW l) r)) f) i)) (v := ((upF (16 * (l.length / 4 + 7)) (aeW l) fun _ => 0) (4 * ((4 * r) + (i / 4)) + (i % 4))))) 3 ?_
  have hi8 : i < 16 := by omega
  refine rv 18 (.ia 1 16 i (hi := hi8)) 2 ?_
  refine rx1k 19 ?_
  refine re0 19 0 hH rfl (.st cByte (((upF i (added f (rk (aeW l) r)) f) i) ^^^ ((upF (16 * (l.length / 4 + 7)) (aeW l) fun _ => 0) (4 * ((4 * r) + (i / 4)) + (i % 4)))) (room_1 (S := sBy) (C := (cArr 16)) rfl hi8) (arr_set0 (upF i (added f (rk (aeW l) r)) f) (((upF i (added f (rk (aeW l) r)) f) i) ^^^ ((upF (16 * (l.length / 4 + 7)) (aeW l) fun _ => 0) (4 * ((4 * r) + (i / 4)) + (i % 4)))) hi8)) trivial (pgo [] (pgo [] (.nil _ []))) ?_
  clear hH
  rintro _ _ w rfl hH
  refine ⟨pnil, ?_⟩
  refine rxEnd (by kernel_rfl) ?_
  refine qxInN ?_
  refine qxThen ?_
  refine cxReg ?_
  refine zv (.add ((i + 1 : Nat) : Int)) 7 ?_
  refine zv .mv 1 ?_
  refine pxEnd ?_
  have he9 : (cArr 16).enc (upF (i + 1) (added f (rk (aeW l) r)) f) = (cArr 16).enc (stF (upF i (added f (rk (aeW l) r)) f) i (((upF i (added f (rk (aeW l) r)) f) i) ^^^ ((upF (16 * (l.length / 4 + 7)) (aeW l) fun _ => 0) (4 * ((4 * r) + (i / 4)) + (i % 4))))) := arr_congr (fun j _ => (congrFun (upF_step i (added f (rk (aeW l) r)) f (by rw [upF_at, show 4 * (4 * r + i / 4) + i % 4 = 16 * r + i by omega, upF_lt _ _ (by omega)]; rfl)) j).symm)
  replace hH : HH w0 [] [[bl g1 61 ((cArr 16).enc (upF (i + 1) (added f (rk (aeW l) r)) f))], [bl g2 61 ((cArr 16).enc (fun _ => 0))]] w := by rw [he9]; exact hH
  exact zR1 (i + 1) ⟨hH, (by omega)⟩ (by omega)
  refine cxExit ?_
  refine qxThenE ?_
  refine qxThenE ?_
  refine qxInE ?_
  refine qxThen ?_
  obtain rfl : i = 16 := by omega
  have he10 : (cArr 16).enc (added f (rk (aeW l) r)) = (cArr 16).enc (upF 16 (added f (rk (aeW l) r)) f) := arr_congr (fun j hj => (upF_lt _ _ hj).symm)
  replace hH : HH w0 [] [[bl g1 61 ((cArr 16).enc (added f (rk (aeW l) r)))], [bl g2 61 ((cArr 16).enc (fun _ => 0))]] w := by rw [he10]; exact hH
  refine zr ?_
  refine zs (hH.q 0 rfl) (.ld (cArr 16) (added f (rk (aeW l) r)) (fun _ hS => (holds_blk0 hS))) 59 ?_
  refine ze0 1 hH rfl (.sw (cArr 16) (fun _ => 0) (added f (rk (aeW l) r))) trivial ?_
  clear hH
  rintro _ _ w rfl hH
  refine zn ?_
  refine cxRet ?_
  refine qxRetC 1 (hH.blk 1 rfl) rfl rfl (by kernel_rfl) (Cod.size _ _) (by kernel_rfl) ?_
  exact ⟨rfl, HH.toBelow hH⟩

set_option maxHeartbeats 8000000 in
theorem enc_r (g : Nat) (l : List UInt8) (hk : l.length = 16 ∨ l.length = 32) (f : Nat → UInt8) : Pure Tryz.prog 71 #[(.pointer (some ⟨g, 0, none⟩)), ((cArr 16).val f)] (fun w => w.heap[g]? = some (.cells (cCi.enc (boxF, bk boxF 256, (upF (16 * (l.length / 4 + 7)) (aeW l) fun _ => 0), (l.length / 4 + 6))) 109 (0, 0))) ((cArr 16).val (aeE l f)) := by
  refine pure_of (fn := Tryz.f71) Tryz.func71 rfl Tryz.ntmps71 (Nat.le_of_ble_eq_true rfl) rfl ?_
  intro w0 hH hR
  refine zr ?_
  refine zm hH (.bx (cArr 16) f) trivial 2 ?_
  clear hH
  rintro _ _ w ⟨g1, rfl, rfl⟩ hH
  refine zm hH (.al (cArr 16) (fun _ => 0)) trivial 0 ?_
  clear hH
  rintro _ _ w ⟨g2, rfl, rfl⟩ hH
  refine zn ?_
  refine zr ?_
  refine zv .mv 0 ?_
  refine zs (hH.q 0 rfl) (.ld (cArr 16) f (fun _ hS => (holds_blk0 hS))) 0 ?_
  refine zc Tryz.func72 (put_r g l hk f 0 (by omega)) (hH.oldBlk hR (by simp)) hH 3 ?_
  clear hH
  intro w hH
  refine ze0 0 hH rfl (.sw (cArr 16) f (added f (rk (aeW l) 0))) trivial ?_
  clear hH
  rintro _ _ w rfl hH
  refine zn ?_
  refine cxSeq ?_
  refine zr ?_
  refine zv .mv 1 ?_
  refine zn ?_
  refine cxBlock ?_
  have he3 : (cArr 16).enc (eRd l f 0) = (cArr 16).enc (added f (rk (aeW l) 0)) := arr_congr (fun q _ => congrFun (eRd_lt (by omega)) q)
  replace hH : HH w0 [] [[bl g1 61 ((cArr 16).enc (eRd l f 0))], [bl g2 61 ((cArr 16).enc (fun _ => 0))]] w := by rw [he3]; exact hH
  refine zL1 (fun (y : Nat) => [(5, (.int .i64 (((y + 1) : Nat) : Int))), (4, (.pointer (some ⟨g2, 0, none⟩))), (3, (.pointer (some ⟨g1, 0, none⟩))), (0, (.pointer (some ⟨g, 0, none⟩)))]) (fun y w => HH w0 [] [[bl g1 61 ((cArr 16).enc (eRd l f y))], [bl g2 61 ((cArr 16).enc (fun _ => 0))]] w ∧ (y ≤ (l.length / 4 + 6))) (fun y => (l.length / 4 + 6) - y) 0 ⟨hH, (Nat.zero_le _)⟩ ?_
  clear hH
  rintro y w ⟨hH, hj⟩
  refine cxSeq ?_
  refine zr ?_
  refine zv .mv 0 ?_
  refine zv .mv 0 ?_
  refine zv .nc 1 ?_
  refine zv (.fld 752) 1 ?_
  refine zs (hH.ob hR) (.ld (cNat .i64) (l.length / 4 + 6) (fun _ hS => (((holds_blk0 hS).snd).snd).snd)) 1 ?_
  refine zv (.le (y + 1 ≤ (l.length / 4 + 6))) 3 ?_
  refine zn ?_
  refine zP (fun hc4 => ?_) (fun hc4 => ?_)
  refine cxSkip ?_
  refine qxThen ?_
  refine cxSeq ?_
  refine cxBlock ?_
  have he5 : (cArr 16).enc (encR boxF (aeW l) f y) = (cArr 16).enc (eRd l f y) := arr_congr (fun q _ => (congrFun (eRd_lt (by omega)) q).symm)
  replace hH : HH w0 [] [[bl g1 61 ((cArr 16).enc (encR boxF (aeW l) f y))], [bl g2 61 ((cArr 16).enc (fun _ => 0))]] w := by rw [he5]; exact hH
  refine zr ?_
  refine zm hH (.al (cArr 16) (fun _ => 0)) trivial 1 ?_
  clear hH
  rintro _ _ w ⟨g6, rfl, rfl⟩ hH
  refine zm hH (.al (cArr 16) (fun _ => 0)) trivial 0 ?_
  clear hH
  rintro _ _ w ⟨g7, rfl, rfl⟩ hH
  refine zn ?_
  refine cxSeq ?_
  refine zr ?_
  refine zv .mv 0 ?_
  refine zn ?_
  refine cxBlock ?_
  have he8 : (cArr 16).enc (upF 0 (shifted (boxed boxF (encR boxF (aeW l) f y))) (fun _ => 0)) = (cArr 16).enc (fun _ => 0) := arr_congr (fun j _ => by rw [upF_zero])
  replace hH : HH w0 [] [[bl g1 61 ((cArr 16).enc (encR boxF (aeW l) f y))], [bl g2 61 ((cArr 16).enc (fun _ => 0))], [bl g6 61 ((cArr 16).enc (upF 0 (shifted (boxed boxF (encR boxF (aeW l) f y))) (fun _ => 0)))], [bl g7 61 ((cArr 16).enc (fun _ => 0))]] w := by rw [he8]; exact hH
  refine zL1 (fun (i : Nat) => [(22, (.int .i64 (((i) : Nat) : Int))), (7, (.pointer (some ⟨g7, 0, none⟩))), (6, (.pointer (some ⟨g6, 0, none⟩))), (5, (.int .i64 (((y + 1) : Nat) : Int))), (4, (.pointer (some ⟨g2, 0, none⟩))), (3, (.pointer (some ⟨g1, 0, none⟩))), (0, (.pointer (some ⟨g, 0, none⟩)))]) (fun i w => HH w0 [] [[bl g1 61 ((cArr 16).enc (encR boxF (aeW l) f y))], [bl g2 61 ((cArr 16).enc (fun _ => 0))], [bl g6 61 ((cArr 16).enc (upF i (shifted (boxed boxF (encR boxF (aeW l) f y))) (fun _ => 0)))], [bl g7 61 ((cArr 16).enc (fun _ => 0))]] w ∧ (i ≤ 16)) (fun i => 16 - i) 0 ⟨hH, (Nat.zero_le _)⟩ ?_
  clear hH
  rintro i w ⟨hH, hi⟩
  refine zr ?_
  refine zv (.lt (i < 16)) 0 ?_
  refine zn ?_
  refine cxSeq ?_
  refine zP (fun hc9 => ?_) (fun hc9 => ?_)
  refine cxSkip ?_
  refine qxThen ?_
  refine cxSeq ?_
  refine cxBlock ?_
  refine zr ?_
  refine zv .mv 1 ?_
  refine zv .mv 1 ?_
  refine zn ?_
  refine cxRegX mixedOrders (by kernel_rfl) ?_
  replace hH := hH.drew
  refine rv 0 .mv 0 ?_
  refine rv 1 .mv 0 ?_
  refine rv 2 .mv 0 ?_
  refine rv 3 (v := (.int .i64 (((i / 4) : Nat) : Int))) (fun _ _ hF => opQuo (z := ((i / 4 : Nat) : Int)) rfl (hF.ev 0 rfl) rfl (by omega) (wI quoN (by omega) (by omega))) 1 ?_
  refine rv 4 .mv 0 ?_
  refine rv 5 (v := (.int .i64 (((i % 4) : Nat) : Int))) (fun _ _ hF => opRem (z := ((i % 4 : Nat) : Int)) rfl (hF.ev 0 rfl) rfl (by omega) remN) 1 ?_
  refine rv 6 (.add (((i / 4) + (i % 4) : Nat) : Int)) 3 ?_
  refine rv 7 (v := (.int .i64 (((((i / 4) + (i % 4)) % 4) : Nat) : Int))) (fun _ _ hF => opRem (z := ((((i / 4) + (i % 4)) % 4 : Nat) : Int)) rfl (hF.ev 0 rfl) rfl (by omega) remN) 1 ?_
  refine rv 8 (.mul ((4 * (((i / 4) + (i % 4)) % 4) : Nat) : Int)) 1 ?_
  refine rv 9 .mv 8 ?_
  refine rv 10 (v := (.int .i64 (((i % 4) : Nat) : Int))) (fun _ _ hF => opRem (z := ((i % 4 : Nat) : Int)) rfl (hF.ev 0 rfl) rfl (by omega) remN) 1 ?_
  refine rv 11 (.add (((4 * (((i / 4) + (i % 4)) % 4)) + (i % 4) : Nat) : Int)) 3 ?_
  have hi10 : (4 * (((i / 4) + (i % 4)) % 4)) + (i % 4) < 16 := by omega
  refine rv 12 (.ia 1 16 ((4 * (((i / 4) + (i % 4)) % 4)) + (i % 4)) (hi := hi10)) 1 ?_
  refine rld 13 (hH.q 0 rfl) (.ld cByte ((encR boxF (aeW l) f y) ((4 * (((i / 4) + (i % 4)) % 4)) + (i % 4))) (fun _ hS => ((holds_blk0 hS).elt hi10))) 1 ?_
  refine rv 14 .nc 2 ?_
  refine rv 15 (.fld 0) 1 ?_
  have hi11 : ((encR boxF (aeW l) f y) ((4 * (((i / 4) + (i % 4)) % 4)) + (i % 4))).toNat < 256 := UInt8.toNat_lt _
  refine rv 16 (.ia 1 256 (((encR boxF (aeW l) f y) ((4 * (((i / 4) + (i % 4)) % 4)) + (i % 4))).toNat) (hi := hi11)) 3 ?_
  refine rld 17 (hH.ob hR) (.ld cByte (boxF (((encR boxF (aeW l) f y) ((4 * (((i / 4) + (i % 4)) % 4)) + (i % 4))).toNat)) (fun _ hS => ((holds_blk0 hS).fst.elt hi11))) 1 ?_
  have hi12 : i < 16 := by omega
  refine rv 18 (.ia 1 16 i (hi := hi12)) 2 ?_
  refine rx1k 19 ?_
  refine re0 19 2 hH rfl (.st cByte (boxF (((encR boxF (aeW l) f y) ((4 * (((i / 4) + (i % 4)) % 4)) + (i % 4))).toNat)) (room_1 (S := sBy) (C := (cArr 16)) rfl hi12) (arr_set0 (upF i (shifted (boxed boxF (encR boxF (aeW l) f y))) (fun _ => 0)) (boxF (((encR boxF (aeW l) f y) ((4 * (((i / 4) + (i % 4)) % 4)) + (i % 4))).toNat)) hi12)) trivial (pgo [] (pgo [] (.nil _ []))) ?_
  clear hH
  rintro _ _ w rfl hH
  refine ⟨pnil, ?_⟩
  refine rxEnd (by kernel_rfl) ?_
  refine qxInN ?_
  refine qxThen ?_
  refine cxReg ?_
  refine zv (.add ((i + 1 : Nat) : Int)) 7 ?_
  refine zv .mv 1 ?_
  refine pxEnd ?_
  have he13 : (cArr 16).enc (upF (i + 1) (shifted (boxed boxF (encR boxF (aeW l) f y))) (fun _ => 0)) = (cArr 16).enc (stF (upF i (shifted (boxed boxF (encR boxF (aeW l) f y))) (fun _ => 0)) i (boxF (((encR boxF (aeW l) f y) ((4 * (((i / 4) + (i % 4)) % 4)) + (i % 4))).toNat))) := arr_congr (fun j _ => (congrFun (upF_step i (shifted (boxed boxF (encR boxF (aeW l) f y))) (fun _ => 0) (by rw [show 4 * (((i / 4) + (i % 4)) % 4) + (i % 4) = (i + i % 4 * 4) % 16 by omega]; rfl)) j).symm)
  replace hH : HH w0 [] [[bl g1 61 ((cArr 16).enc (encR boxF (aeW l) f y))], [bl g2 61 ((cArr 16).enc (fun _ => 0))], [bl g6 61 ((cArr 16).enc (upF (i + 1) (shifted (boxed boxF (encR boxF (aeW l) f y))) (fun _ => 0)))], [bl g7 61 ((cArr 16).enc (fun _ => 0))]] w := by rw [he13]; exact hH
  exact zR1 (i + 1) ⟨hH, (by omega)⟩ (by omega)
  refine cxExit ?_
  refine qxThenE ?_
  refine qxThenE ?_
  refine qxInE ?_
  refine qxThen ?_
  obtain rfl : i = 16 := by omega
  have he14 : (cArr 16).enc (shifted (boxed boxF (encR boxF (aeW l) f y))) = (cArr 16).enc (upF 16 (shifted (boxed boxF (encR boxF (aeW l) f y))) (fun _ => 0)) := arr_congr (fun j hj => (upF_lt _ _ hj).symm)
  replace hH : HH w0 [] [[bl g1 61 ((cArr 16).enc (encR boxF (aeW l) f y))], [bl g2 61 ((cArr 16).enc (fun _ => 0))], [bl g6 61 ((cArr 16).enc (shifted (boxed boxF (encR boxF (aeW l) f y))))], [bl g7 61 ((cArr 16).enc (fun _ => 0))]] w := by rw [he14]; exact hH
  refine zr ?_
  refine zs (hH.q 2 rfl) (.ld (cArr 16) (shifted (boxed boxF (encR boxF (aeW l) f y))) (fun _ hS => (holds_blk0 hS))) 3 ?_
  refine ze0 3 hH rfl (.sw (cArr 16) (fun _ => 0) (shifted (boxed boxF (encR boxF (aeW l) f y)))) trivial ?_
  clear hH
  rintro _ _ w rfl hH
  refine zn ?_
  refine cxSeq ?_
  refine zr ?_
  refine zv .mv 1 ?_
  refine zv .mv 0 ?_
  refine zv .nc 1 ?_
  refine zv (.fld 752) 1 ?_
  refine zs (hH.ob hR) (.ld (cNat .i64) (l.length / 4 + 6) (fun _ hS => (((holds_blk0 hS).snd).snd).snd)) 1 ?_
  refine zv (.lt (y + 1 < (l.length / 4 + 6))) 3 ?_
  refine zn ?_
  refine zP (fun hc15 => ?_) (fun hc15 => ?_)
  refine zr ?_
  refine zv .mv 1 ?_
  refine zn ?_
  refine cxBlock ?_
  have he16 : (cArr 16).enc (upF 0 (mixed (shifted (boxed boxF (encR boxF (aeW l) f y)))) (shifted (boxed boxF (encR boxF (aeW l) f y)))) = (cArr 16).enc (shifted (boxed boxF (encR boxF (aeW l) f y))) := arr_congr (fun j _ => by rw [upF_zero])
  replace hH : HH w0 [] [[bl g1 61 ((cArr 16).enc (encR boxF (aeW l) f y))], [bl g2 61 ((cArr 16).enc (fun _ => 0))], [bl g6 61 ((cArr 16).enc (shifted (boxed boxF (encR boxF (aeW l) f y))))], [bl g7 61 ((cArr 16).enc (upF 0 (mixed (shifted (boxed boxF (encR boxF (aeW l) f y)))) (shifted (boxed boxF (encR boxF (aeW l) f y)))))]] w := by rw [he16]; exact hH
  refine zL1 (fun (i : Nat) => [(52, (.int .i64 (((i) : Nat) : Int))), (7, (.pointer (some ⟨g7, 0, none⟩))), (6, (.pointer (some ⟨g6, 0, none⟩))), (5, (.int .i64 (((y + 1) : Nat) : Int))), (4, (.pointer (some ⟨g2, 0, none⟩))), (3, (.pointer (some ⟨g1, 0, none⟩))), (0, (.pointer (some ⟨g, 0, none⟩)))]) (fun i w => HH w0 [] [[bl g1 61 ((cArr 16).enc (encR boxF (aeW l) f y))], [bl g2 61 ((cArr 16).enc (fun _ => 0))], [bl g6 61 ((cArr 16).enc (shifted (boxed boxF (encR boxF (aeW l) f y))))], [bl g7 61 ((cArr 16).enc (upF i (mixed (shifted (boxed boxF (encR boxF (aeW l) f y)))) (shifted (boxed boxF (encR boxF (aeW l) f y)))))]] w ∧ (i ≤ 16)) (fun i => 16 - i) 0 ⟨hH, (Nat.zero_le _)⟩ ?_
  clear hH
  rintro i w ⟨hH, hi⟩
  refine zr ?_
  refine zv (.lt (i < 16)) 0 ?_
  refine zn ?_
  refine cxSeq ?_
  refine zP (fun hc17 => ?_) (fun hc17 => ?_)
  refine cxSkip ?_
  refine qxThen ?_
  refine cxSeq ?_
  refine cxBlock ?_
  refine zr ?_
  refine zv .mv 1 ?_
  refine zv .mv 1 ?_
  refine zn ?_
  refine zr ?_
  refine zv .mv 0 ?_
  refine zv (v := (.int .i64 (((i / 4) : Nat) : Int))) (fun _ _ hF => opQuo (z := ((i / 4 : Nat) : Int)) rfl (hF.ev 0 rfl) rfl (by omega) (wI quoN (by omega) (by omega))) 1 ?_
  refine zv (.mul ((4 * (i / 4) : Nat) : Int)) 1 ?_
  refine zv .mv 1 ?_
  refine zn ?_
  refine cxRegX mixedOrders (by kernel_rfl) ?_
  replace hH := hH.drew
  refine rv 0 .mv 0 ?_
  refine rv 1 .mv 0 ?_
  have hi18 : i < 16 := by omega
  refine rv 2 (.ia 1 16 i (hi := hi18)) 1 ?_
  refine rld 3 (hH.q 2 rfl) (.ld cByte ((shifted (boxed boxF (encR boxF (aeW l) f y))) i) (fun _ hS => ((holds_blk0 hS).elt hi18))) 1 ?_
  refine rv 5 .mv 0 ?_
  refine rv 6 .mv 0 ?_
  refine rv 7 (.add ((i + 1 : Nat) : Int)) 1 ?_
  refine rv 8 (v := (.int .i64 ((((i + 1) % 4) : Nat) : Int))) (fun _ _ hF => opRem (z := (((i + 1) % 4 : Nat) : Int)) rfl (hF.ev 0 rfl) rfl (by omega) remN) 1 ?_
  refine rv 9 (.add (((4 * (i / 4)) + ((i + 1) % 4) : Nat) : Int)) 3 ?_
  have hi19 : (4 * (i / 4)) + ((i + 1) % 4) < 16 := by omega
  refine rv 10 (.ia 1 16 ((4 * (i / 4)) + ((i + 1) % 4)) (hi := hi19)) 1 ?_
  refine rld 11 (hH.q 2 rfl) (.ld cByte ((shifted (boxed boxF (encR boxF (aeW l) f y))) ((4 * (i / 4)) + ((i + 1) % 4))) (fun _ hS => ((holds_blk0 hS).elt hi19))) 1 ?_
  refine rv 14 .mv 0 ?_
  refine rv 15 .mv 0 ?_
  refine rv 16 (.add ((i + 2 : Nat) : Int)) 1 ?_
  refine rv 17 (v := (.int .i64 ((((i + 2) % 4) : Nat) : Int))) (fun _ _ hF => opRem (z := (((i + 2) % 4 : Nat) : Int)) rfl (hF.ev 0 rfl) rfl (by omega) remN) 1 ?_
  refine rv 18 (.add (((4 * (i / 4)) + ((i + 2) % 4) : Nat) : Int)) 3 ?_
  have hi20 : (4 * (i / 4)) + ((i + 2) % 4) < 16 := by omega
  refine rv 19 (.ia 1 16 ((4 * (i / 4)) + ((i + 2) % 4)) (hi := hi20)) 1 ?_
  refine rld 20 (hH.q 2 rfl) (.ld cByte ((shifted (boxed boxF (encR boxF (aeW l) f y))) ((4 * (i / 4)) + ((i + 2) % 4))) (fun _ hS => ((holds_blk0 hS).elt hi20))) 1 ?_
  refine rv 22 .mv 16 ?_
  refine rv 23 .mv 32 ?_
  refine rv 24 (.add ((i + 3 : Nat) : Int)) 1 ?_
  refine rv 25 (v := (.int .i64 ((((i + 3) % 4) : Nat) : Int))) (fun _ _ hF => opRem (z := (((i + 3) % 4 : Nat) : Int)) rfl (hF.ev 0 rfl) rfl (by omega) remN) 1 ?_
  refine rv 26 (.add (((4 * (i / 4)) + ((i + 3) % 4) : Nat) : Int)) 3 ?_
  have hi21 : (4 * (i / 4)) + ((i + 3) % 4) < 16 := by omega
  refine rv 27 (.ia 1 16 ((4 * (i / 4)) + ((i + 3) % 4)) (hi := hi21)) 1 ?_
  refine rld 28 (hH.q 2 rfl) (.ld cByte ((shifted (boxed boxF (encR boxF (aeW l) f y))) ((4 * (i / 4)) + ((i + 3) % 4))) (fun _ hS => ((holds_blk0 hS).elt hi21))) 1 ?_
  refine rx1k 4 (rpc 4 Tryz.func70 (times_c 2 ((shifted (boxed boxF (encR boxF (aeW l) f y))) i)) trivial hH 8 (.keep (.keep (.keep (pgo [] (.nil _ []))))) ?_)
  clear hH
  intro w hH
  refine ⟨pcons (hH.blk 2 rfl) (pcons (hH.blk 2 rfl) (pcons (hH.blk 2 rfl) pnil)), ?_⟩
  refine rx1k 12 (rpc 12 Tryz.func70 (times_c 3 ((shifted (boxed boxF (encR boxF (aeW l) f y))) ((4 * (i / 4)) + ((i + 1) % 4)))) trivial hH 8 (.keep (.keep (pgo [] (.nil _ [])))) ?_)
  clear hH
  intro w hH
  refine ⟨pcons (hH.blk 2 rfl) (pcons (hH.blk 2 rfl) pnil), ?_⟩
  refine rv 13 (.xb ((tmB 2 ((shifted (boxed boxF (encR boxF (aeW l) f y))) i)) ^^^ (tmB 3 ((shifted (boxed boxF (encR boxF (aeW l) f y))) ((4 * (i / 4)) + ((i + 1) % 4))))) (u := (tmB 2 ((shifted (boxed boxF (encR boxF (aeW l) f y))) i))) (v := (tmB 3 ((shifted (boxed boxF (encR boxF (aeW l) f y))) ((4 * (i / 4)) + ((i + 1) % 4)))))) 3 ?_
  refine rv 21 (.xb (((tmB 2 ((shifted (boxed boxF (encR boxF (aeW l) f y))) i)) ^^^ (tmB 3 ((shifted (boxed boxF (encR boxF (aeW l) f y))) ((4 * (i / 4)) + ((i + 1) % 4))))) ^^^ ((shifted (boxed boxF (encR boxF (aeW l) f y))) ((4 * (i / 4)) + ((i + 2) % 4)))) (u := ((tmB 2 ((shifted (boxed boxF (encR boxF (aeW l) f y))) i)) ^^^ (tmB 3 ((shifted (boxed boxF (encR boxF (aeW l) f y))) ((4 * (i / 4)) + ((i + 1) % 4)))))) (v := ((shifted (boxed boxF (encR boxF (aeW l) f y))) ((4 * (i / 4)) + ((i + 2) % 4))))) 5 ?_
  refine rv 29 (.xb ((((tmB 2 ((shifted (boxed boxF (encR boxF (aeW l) f y))) i)) ^^^ (tmB 3 ((shifted (boxed boxF (encR boxF (aeW l) f y))) ((4 * (i / 4)) + ((i + 1) % 4))))) ^^^ ((shifted (boxed boxF (encR boxF (aeW l) f y))) ((4 * (i / 4)) + ((i + 2) % 4)))) ^^^ ((shifted (boxed boxF (encR boxF (aeW l) f y))) ((4 * (i / 4)) + ((i + 3) % 4)))) (u := (((tmB 2 ((shifted (boxed boxF (encR boxF (aeW l) f y))) i)) ^^^ (tmB 3 ((shifted (boxed boxF (encR boxF (aeW l) f y))) ((4 * (i / 4)) + ((i + 1) % 4))))) ^^^ ((shifted (boxed boxF (encR boxF (aeW l) f y))) ((4 * (i / 4)) + ((i + 2) % 4))))) (v := ((shifted (boxed boxF (encR boxF (aeW l) f y))) ((4 * (i / 4)) + ((i + 3) % 4))))) 3 ?_
  have hi22 : i < 16 := by omega
  refine rv 30 (.ia 1 16 i (hi := hi22)) 2 ?_
  refine rx1k 31 ?_
  refine re0 31 3 hH rfl (.st cByte ((((tmB 2 ((shifted (boxed boxF (encR boxF (aeW l) f y))) i)) ^^^ (tmB 3 ((shifted (boxed boxF (encR boxF (aeW l) f y))) ((4 * (i / 4)) + ((i + 1) % 4))))) ^^^ ((shifted (boxed boxF (encR boxF (aeW l) f y))) ((4 * (i / 4)) + ((i + 2) % 4)))) ^^^ ((shifted (boxed boxF (encR boxF (aeW l) f y))) ((4 * (i / 4)) + ((i + 3) % 4)))) (room_1 (S := sBy) (C := (cArr 16)) rfl hi22) (arr_set0 (upF i (mixed (shifted (boxed boxF (encR boxF (aeW l) f y)))) (shifted (boxed boxF (encR boxF (aeW l) f y)))) ((((tmB 2 ((shifted (boxed boxF (encR boxF (aeW l) f y))) i)) ^^^ (tmB 3 ((shifted (boxed boxF (encR boxF (aeW l) f y))) ((4 * (i / 4)) + ((i + 1) % 4))))) ^^^ ((shifted (boxed boxF (encR boxF (aeW l) f y))) ((4 * (i / 4)) + ((i + 2) % 4)))) ^^^ ((shifted (boxed boxF (encR boxF (aeW l) f y))) ((4 * (i / 4)) + ((i + 3) % 4)))) hi22)) trivial (pgo [] (pgo [] (.nil _ []))) ?_
  clear hH
  rintro _ _ w rfl hH
  refine ⟨pnil, ?_⟩
  refine rxEnd (by kernel_rfl) ?_
  refine qxInN ?_
  refine qxThen ?_
  refine cxReg ?_
  refine zv (.add ((i + 1 : Nat) : Int)) 7 ?_
  refine zv .mv 1 ?_
  refine pxEnd ?_
  have he23 : (cArr 16).enc (upF (i + 1) (mixed (shifted (boxed boxF (encR boxF (aeW l) f y)))) (shifted (boxed boxF (encR boxF (aeW l) f y)))) = (cArr 16).enc (stF (upF i (mixed (shifted (boxed boxF (encR boxF (aeW l) f y)))) (shifted (boxed boxF (encR boxF (aeW l) f y)))) i ((((tmB 2 ((shifted (boxed boxF (encR boxF (aeW l) f y))) i)) ^^^ (tmB 3 ((shifted (boxed boxF (encR boxF (aeW l) f y))) ((4 * (i / 4)) + ((i + 1) % 4))))) ^^^ ((shifted (boxed boxF (encR boxF (aeW l) f y))) ((4 * (i / 4)) + ((i + 2) % 4)))) ^^^ ((shifted (boxed boxF (encR boxF (aeW l) f y))) ((4 * (i / 4)) + ((i + 3) % 4))))) := arr_congr (fun j _ => (congrFun (upF_step i (mixed (shifted (boxed boxF (encR boxF (aeW l) f y)))) (shifted (boxed boxF (encR boxF (aeW l) f y))) (by rw [show 4 * (i / 4) = i - i % 4 by omega]; exact mixed_tm (shifted (boxed boxF (encR boxF (aeW l) f y))) i)) j).symm)
  replace hH : HH w0 [] [[bl g1 61 ((cArr 16).enc (encR boxF (aeW l) f y))], [bl g2 61 ((cArr 16).enc (fun _ => 0))], [bl g6 61 ((cArr 16).enc (shifted (boxed boxF (encR boxF (aeW l) f y))))], [bl g7 61 ((cArr 16).enc (upF (i + 1) (mixed (shifted (boxed boxF (encR boxF (aeW l) f y)))) (shifted (boxed boxF (encR boxF (aeW l) f y)))))]] w := by rw [he23]; exact hH
  exact zR1 (i + 1) ⟨hH, (by omega)⟩ (by omega)
  refine cxExit ?_
  refine qxThenE ?_
  refine qxThenE ?_
  refine qxInE ?_
  refine qxThen ?_
  obtain rfl : i = 16 := by omega
  have he24 : (cArr 16).enc (mixed (shifted (boxed boxF (encR boxF (aeW l) f y)))) = (cArr 16).enc (upF 16 (mixed (shifted (boxed boxF (encR boxF (aeW l) f y)))) (shifted (boxed boxF (encR boxF (aeW l) f y)))) := arr_congr (fun j hj => (upF_lt _ _ hj).symm)
  replace hH : HH w0 [] [[bl g1 61 ((cArr 16).enc (encR boxF (aeW l) f y))], [bl g2 61 ((cArr 16).enc (fun _ => 0))], [bl g6 61 ((cArr 16).enc (shifted (boxed boxF (encR boxF (aeW l) f y))))], [bl g7 61 ((cArr 16).enc (mixed (shifted (boxed boxF (encR boxF (aeW l) f y)))))]] w := by rw [he24]; exact hH
  refine cxReg ?_
  refine zv .mv 11 ?_
  refine zs (hH.q 3 rfl) (.ld (cArr 16) (mixed (shifted (boxed boxF (encR boxF (aeW l) f y)))) (fun _ hS => (holds_blk0 hS))) 2 ?_
  refine zv .mv 0 ?_
  refine zc Tryz.func72 (put_r g l hk (mixed (shifted (boxed boxF (encR boxF (aeW l) f y)))) (y + 1) (by omega)) (hH.oldBlk hR (by simp)) hH 7 ?_
  clear hH
  intro w hH
  refine ze0 0 hH rfl (.sw (cArr 16) (encR boxF (aeW l) f y) (added (mixed (shifted (boxed boxF (encR boxF (aeW l) f y)))) (rk (aeW l) (y + 1)))) trivial ?_
  clear hH
  rintro _ _ w rfl hH
  refine pxEnd ?_
  refine qxInN ?_
  refine qxThen ?_
  refine cxReg ?_
  refine zv .mv 3 ?_
  refine zv (.add (((y + 1 + 1) : Nat) : Int)) 1 ?_
  refine zv .mv 1 ?_
  refine pxEnd ?_
  replace hH : HH w0 [] [[bl g1 61 ((cArr 16).enc (added (mixed (shifted (boxed boxF (encR boxF (aeW l) f y)))) (rk (aeW l) (y + 1))))], [bl g2 61 ((cArr 16).enc (fun _ => 0))]] w := hH.only [true, true, false, false]
  have he25 : (cArr 16).enc (eRd l f (y + 1)) = (cArr 16).enc (added (mixed (shifted (boxed boxF (encR boxF (aeW l) f y)))) (rk (aeW l) (y + 1))) := arr_congr (fun q _ => congrFun (eRd_lt (by omega)) q)
  replace hH : HH w0 [] [[bl g1 61 ((cArr 16).enc (eRd l f (y + 1)))], [bl g2 61 ((cArr 16).enc (fun _ => 0))]] w := by rw [he25]; exact hH
  exact zR1 (y + 1) ⟨hH, (by omega)⟩ (by omega)
  refine cxSkip ?_
  refine qxThen ?_
  refine cxReg ?_
  refine zv .mv 5 ?_
  refine zs (hH.q 3 rfl) (.ld (cArr 16) (shifted (boxed boxF (encR boxF (aeW l) f y))) (fun _ hS => (holds_blk0 hS))) 2 ?_
  refine zv .mv 0 ?_
  refine zc Tryz.func72 (put_r g l hk (shifted (boxed boxF (encR boxF (aeW l) f y))) (y + 1) (by omega)) (hH.oldBlk hR (by simp)) hH 7 ?_
  clear hH
  intro w hH
  refine ze0 0 hH rfl (.sw (cArr 16) (encR boxF (aeW l) f y) (added (shifted (boxed boxF (encR boxF (aeW l) f y))) (rk (aeW l) (y + 1)))) trivial ?_
  clear hH
  rintro _ _ w rfl hH
  refine pxEnd ?_
  refine qxInN ?_
  refine qxThen ?_
  refine cxReg ?_
  refine zv .mv 3 ?_
  refine zv (.add (((y + 1 + 1) : Nat) : Int)) 1 ?_
  refine zv .mv 1 ?_
  refine pxEnd ?_
  replace hH : HH w0 [] [[bl g1 61 ((cArr 16).enc (added (shifted (boxed boxF (encR boxF (aeW l) f y))) (rk (aeW l) (y + 1))))], [bl g2 61 ((cArr 16).enc (fun _ => 0))]] w := hH.only [true, true, false, false]
  have he26 : (cArr 16).enc (eRd l f (y + 1)) = (cArr 16).enc (added (shifted (boxed boxF (encR boxF (aeW l) f y))) (rk (aeW l) (y + 1))) := arr_congr (fun q _ => congrFun (eRd_last (by omega)) q)
  replace hH : HH w0 [] [[bl g1 61 ((cArr 16).enc (eRd l f (y + 1)))], [bl g2 61 ((cArr 16).enc (fun _ => 0))]] w := by rw [he26]; exact hH
  exact zR1 (y + 1) ⟨hH, (by omega)⟩ (by omega)
  refine cxExit ?_
  refine qxThenE ?_
  refine qxThenE ?_
  refine qxInE ?_
  refine qxThen ?_
  obtain rfl : y = (l.length / 4 + 6) := by omega
  have he27 : (cArr 16).enc (aeE l f) = (cArr 16).enc (eRd l f (l.length / 4 + 6)) := arr_congr (fun q _ => (congrFun eRd_all q).symm)
  replace hH : HH w0 [] [[bl g1 61 ((cArr 16).enc (aeE l f))], [bl g2 61 ((cArr 16).enc (fun _ => 0))]] w := by rw [he27]; exact hH
  refine zr ?_
  refine zs (hH.q 0 rfl) (.ld (cArr 16) (aeE l f) (fun _ hS => (holds_blk0 hS))) 27 ?_
  refine ze0 1 hH rfl (.sw (cArr 16) (fun _ => 0) (aeE l f)) trivial ?_
  clear hH
  rintro _ _ w rfl hH
  refine zn ?_
  refine cxRet ?_
  refine qxRetC 1 (hH.blk 1 rfl) rfl rfl (by kernel_rfl) (Cod.size _ _) (by kernel_rfl) ?_
  exact ⟨rfl, HH.toBelow hH⟩

set_option maxHeartbeats 8000000 in
theorem dec_r (g : Nat) (l : List UInt8) (hk : l.length = 16 ∨ l.length = 32) (f : Nat → UInt8) : Pure Tryz.prog 53 #[(.pointer (some ⟨g, 0, none⟩)), ((cArr 16).val f)] (fun w => w.heap[g]? = some (.cells (cCi.enc (boxF, bk boxF 256, (upF (16 * (l.length / 4 + 7)) (aeW l) fun _ => 0), (l.length / 4 + 6))) 109 (0, 0))) ((cArr 16).val (aeD l f)) := by
  refine pure_of (fn := Tryz.f53) Tryz.func53 rfl Tryz.ntmps53 (Nat.le_of_ble_eq_true rfl) rfl ?_
  intro w0 hH hR
  refine zr ?_
  refine zm hH (.bx (cArr 16) f) trivial 2 ?_
  clear hH
  rintro _ _ w ⟨g1, rfl, rfl⟩ hH
  refine zm hH (.al (cArr 16) (fun _ => 0)) trivial 0 ?_
  clear hH
  rintro _ _ w ⟨g2, rfl, rfl⟩ hH
  refine zn ?_
  refine cxSeq ?_
  refine zr ?_
  refine zv .mv 0 ?_
  refine zv .nc 1 ?_
  refine zv (.fld 752) 1 ?_
  refine zs (hH.ob hR) (.ld (cNat .i64) (l.length / 4 + 6) (fun _ hS => (((holds_blk0 hS).snd).snd).snd)) 1 ?_
  refine zv .mv 1 ?_
  refine zn ?_
  refine cxBlock ?_
  have he3 : (cArr 16).enc (dRd l f 0) = (cArr 16).enc f := arr_congr (fun _ _ => rfl)
  replace hH : HH w0 [] [[bl g1 61 ((cArr 16).enc (dRd l f 0))], [bl g2 61 ((cArr 16).enc (fun _ => 0))]] w := by rw [he3]; exact hH
  refine zL1 (fun (q : Nat) => [(5, (.int .i64 ((((l.length / 4 + 6) - q) : Nat) : Int))), (4, (.pointer (some ⟨g2, 0, none⟩))), (3, (.pointer (some ⟨g1, 0, none⟩))), (0, (.pointer (some ⟨g, 0, none⟩)))]) (fun q w => HH w0 [] [[bl g1 61 ((cArr 16).enc (dRd l f q))], [bl g2 61 ((cArr 16).enc (fun _ => 0))]] w ∧ (q ≤ (l.length / 4 + 6))) (fun q => (l.length / 4 + 6) - q) 0 ⟨hH, (Nat.zero_le _)⟩ ?_
  clear hH
  rintro q w ⟨hH, hq⟩
  refine cxSeq ?_
  refine zr ?_
  refine zv .mv 0 ?_
  refine zv (.ge ((l.length / 4 + 6) - q ≥ 1)) 1 ?_
  refine zn ?_
  refine zP (fun hc4 => ?_) (fun hc4 => ?_)
  refine cxSkip ?_
  refine qxThen ?_
  refine cxSeq ?_
  refine cxBlock ?_
  refine zr ?_
  refine zv .mv 1 ?_
  refine zs (hH.q 0 rfl) (.ld (cArr 16) (dRd l f q) (fun _ hS => (holds_blk0 hS))) 0 ?_
  refine zv .mv 0 ?_
  refine zc Tryz.func72 (put_r g l hk (dRd l f q) ((l.length / 4 + 6) - q) (by omega)) (hH.oldBlk hR (by simp)) hH 7 ?_
  clear hH
  intro w hH
  refine zm hH (.al (cArr 16) (fun _ => 0)) trivial 0 ?_
  clear hH
  rintro _ _ w ⟨g5, rfl, rfl⟩ hH
  refine ze0 2 hH rfl (.sw (cArr 16) (fun _ => 0) (added (dRd l f q) (rk (aeW l) ((l.length / 4 + 6) - q)))) trivial ?_
  clear hH
  rintro _ _ w rfl hH
  refine zn ?_
  refine zr ?_
  refine zs (hH.q 2 rfl) (.ld (cArr 16) (added (dRd l f q) (rk (aeW l) ((l.length / 4 + 6) - q))) (fun _ hS => (holds_blk0 hS))) 2 ?_
  refine zm hH (.al (cArr 16) (fun _ => 0)) trivial 0 ?_
  clear hH
  rintro _ _ w ⟨g6, rfl, rfl⟩ hH
  refine ze0 3 hH rfl (.sw (cArr 16) (fun _ => 0) (added (dRd l f q) (rk (aeW l) ((l.length / 4 + 6) - q)))) trivial ?_
  clear hH
  rintro _ _ w rfl hH
  refine zn ?_
  refine cxJoin (σ := (Nat → UInt8)) (fun x => [(7, (.pointer (some ⟨g6, 0, none⟩))), (5, (.int .i64 ((((l.length / 4 + 6) - q) : Nat) : Int))), (4, (.pointer (some ⟨g2, 0, none⟩))), (3, (.pointer (some ⟨g1, 0, none⟩))), (0, (.pointer (some ⟨g, 0, none⟩)))]) (fun x w => HH w0 [] [[bl g1 61 ((cArr 16).enc (dRd l f q))], [bl g2 61 ((cArr 16).enc (fun _ => 0))], [bl g6 61 ((cArr 16).enc x)]] w ∧ (∀ j, j < 16 → (boxed (bk boxF 256) (unshifted x)) j = dRd l f (q + 1) j)) ?_ ?_
  refine zr ?_
  refine zv .mv 2 ?_
  refine zv .mv 0 ?_
  refine zv .nc 1 ?_
  refine zv (.fld 752) 1 ?_
  refine zs (hH.ob hR) (.ld (cNat .i64) (l.length / 4 + 6) (fun _ hS => (((holds_blk0 hS).snd).snd).snd)) 1 ?_
  refine zv (.lt ((l.length / 4 + 6) - q < (l.length / 4 + 6))) 3 ?_
  refine zn ?_
  refine zP (fun hc7 => ?_) (fun hc7 => ?_)
  refine zr ?_
  refine zv .mv 1 ?_
  refine zn ?_
  refine cxBlock ?_
  have he8 : (cArr 16).enc (upF 0 (unmixed (added (dRd l f q) (rk (aeW l) ((l.length / 4 + 6) - q)))) (added (dRd l f q) (rk (aeW l) ((l.length / 4 + 6) - q)))) = (cArr 16).enc (added (dRd l f q) (rk (aeW l) ((l.length / 4 + 6) - q))) := arr_congr (fun j _ => by rw [upF_zero])
  replace hH : HH w0 [] [[bl g1 61 ((cArr 16).enc (dRd l f q))], [bl g2 61 ((cArr 16).enc (fun _ => 0))], [bl g5 61 ((cArr 16).enc (added (dRd l f q) (rk (aeW l) ((l.length / 4 + 6) - q))))], [bl g6 61 ((cArr 16).enc (upF 0 (unmixed (added (dRd l f q) (rk (aeW l) ((l.length / 4 + 6) - q)))) (added (dRd l f q) (rk (aeW l) ((l.length / 4 + 6) - q)))))]] w := by rw [he8]; exact hH
  refine zL1 (fun (i : Nat) => [(30, (.int .i64 (((i) : Nat) : Int))), (7, (.pointer (some ⟨g6, 0, none⟩))), (6, (.pointer (some ⟨g5, 0, none⟩))), (5, (.int .i64 ((((l.length / 4 + 6) - q) : Nat) : Int))), (4, (.pointer (some ⟨g2, 0, none⟩))), (3, (.pointer (some ⟨g1, 0, none⟩))), (0, (.pointer (some ⟨g, 0, none⟩)))]) (fun i w => HH w0 [] [[bl g1 61 ((cArr 16).enc (dRd l f q))], [bl g2 61 ((cArr 16).enc (fun _ => 0))], [bl g5 61 ((cArr 16).enc (added (dRd l f q) (rk (aeW l) ((l.length / 4 + 6) - q))))], [bl g6 61 ((cArr 16).enc (upF i (unmixed (added (dRd l f q) (rk (aeW l) ((l.length / 4 + 6) - q)))) (added (dRd l f q) (rk (aeW l) ((l.length / 4 + 6) - q)))))]] w ∧ (i ≤ 16)) (fun i => 16 - i) 0 ⟨hH, (Nat.zero_le _)⟩ ?_
  clear hH
  rintro i w ⟨hH, hi⟩
  refine zr ?_
  refine zv (.lt (i < 16)) 0 ?_
  refine zn ?_
  refine cxSeq ?_
  refine zP (fun hc9 => ?_) (fun hc9 => ?_)
  refine cxSkip ?_
  refine qxThen ?_
  refine cxSeq ?_
  refine cxBlock ?_
  refine zr ?_
  refine zv .mv 1 ?_
  refine zv .mv 1 ?_
  refine zn ?_
  refine zr ?_
  refine zv .mv 0 ?_
  refine zv (v := (.int .i64 (((i / 4) : Nat) : Int))) (fun _ _ hF => opQuo (z := ((i / 4 : Nat) : Int)) rfl (hF.ev 0 rfl) rfl (by omega) (wI quoN (by omega) (by omega))) 1 ?_
  refine zv (.mul ((4 * (i / 4) : Nat) : Int)) 1 ?_
  refine zv .mv 1 ?_
  refine zn ?_
  refine cxRegX mixedOrders (by kernel_rfl) ?_
  replace hH := hH.drew
  refine rv 0 .mv 0 ?_
  refine rv 1 .mv 0 ?_
  have hi10 : i < 16 := by omega
  refine rv 2 (.ia 1 16 i (hi := hi10)) 1 ?_
  refine rld 3 (hH.q 2 rfl) (.ld cByte ((added (dRd l f q) (rk (aeW l) ((l.length / 4 + 6) - q))) i) (fun _ hS => ((holds_blk0 hS).elt hi10))) 1 ?_
  refine rv 5 .mv 0 ?_
  refine rv 6 .mv 0 ?_
  refine rv 7 (.add ((i + 1 : Nat) : Int)) 1 ?_
  refine rv 8 (v := (.int .i64 ((((i + 1) % 4) : Nat) : Int))) (fun _ _ hF => opRem (z := (((i + 1) % 4 : Nat) : Int)) rfl (hF.ev 0 rfl) rfl (by omega) remN) 1 ?_
  refine rv 9 (.add (((4 * (i / 4)) + ((i + 1) % 4) : Nat) : Int)) 3 ?_
  have hi11 : (4 * (i / 4)) + ((i + 1) % 4) < 16 := by omega
  refine rv 10 (.ia 1 16 ((4 * (i / 4)) + ((i + 1) % 4)) (hi := hi11)) 1 ?_
  refine rld 11 (hH.q 2 rfl) (.ld cByte ((added (dRd l f q) (rk (aeW l) ((l.length / 4 + 6) - q))) ((4 * (i / 4)) + ((i + 1) % 4))) (fun _ hS => ((holds_blk0 hS).elt hi11))) 1 ?_
  refine rv 14 .mv 0 ?_
  refine rv 15 .mv 0 ?_
  refine rv 16 (.add ((i + 2 : Nat) : Int)) 1 ?_
  refine rv 17 (v := (.int .i64 ((((i + 2) % 4) : Nat) : Int))) (fun _ _ hF => opRem (z := (((i + 2) % 4 : Nat) : Int)) rfl (hF.ev 0 rfl) rfl (by omega) remN) 1 ?_
  refine rv 18 (.add (((4 * (i / 4)) + ((i + 2) % 4) : Nat) : Int)) 3 ?_
  have hi12 : (4 * (i / 4)) + ((i + 2) % 4) < 16 := by omega
  refine rv 19 (.ia 1 16 ((4 * (i / 4)) + ((i + 2) % 4)) (hi := hi12)) 1 ?_
  refine rld 20 (hH.q 2 rfl) (.ld cByte ((added (dRd l f q) (rk (aeW l) ((l.length / 4 + 6) - q))) ((4 * (i / 4)) + ((i + 2) % 4))) (fun _ hS => ((holds_blk0 hS).elt hi12))) 1 ?_
  refine rv 23 .mv 16 ?_
  refine rv 24 .mv 32 ?_
  refine rv 25 (.add ((i + 3 : Nat) : Int)) 1 ?_
  refine rv 26 (v := (.int .i64 ((((i + 3) % 4) : Nat) : Int))) (fun _ _ hF => opRem (z := (((i + 3) % 4 : Nat) : Int)) rfl (hF.ev 0 rfl) rfl (by omega) remN) 1 ?_
  refine rv 27 (.add (((4 * (i / 4)) + ((i + 3) % 4) : Nat) : Int)) 3 ?_
  have hi13 : (4 * (i / 4)) + ((i + 3) % 4) < 16 := by omega
  refine rv 28 (.ia 1 16 ((4 * (i / 4)) + ((i + 3) % 4)) (hi := hi13)) 1 ?_
  refine rld 29 (hH.q 2 rfl) (.ld cByte ((added (dRd l f q) (rk (aeW l) ((l.length / 4 + 6) - q))) ((4 * (i / 4)) + ((i + 3) % 4))) (fun _ hS => ((holds_blk0 hS).elt hi13))) 1 ?_
  refine rx1k 4 (rpc 4 Tryz.func70 (times_c 14 ((added (dRd l f q) (rk (aeW l) ((l.length / 4 + 6) - q))) i)) trivial hH 8 (.keep (.keep (.keep (pgo [] (.nil _ []))))) ?_)
  clear hH
  intro w hH
  refine ⟨pcons (hH.blk 2 rfl) (pcons (hH.blk 2 rfl) (pcons (hH.blk 2 rfl) pnil)), ?_⟩
  refine rx1k 12 (rpc 12 Tryz.func70 (times_c 11 ((added (dRd l f q) (rk (aeW l) ((l.length / 4 + 6) - q))) ((4 * (i / 4)) + ((i + 1) % 4)))) trivial hH 8 (.keep (.keep (pgo [] (.nil _ [])))) ?_)
  clear hH
  intro w hH
  refine ⟨pcons (hH.blk 2 rfl) (pcons (hH.blk 2 rfl) pnil), ?_⟩
  refine rv 13 (.xb ((tmB 14 ((added (dRd l f q) (rk (aeW l) ((l.length / 4 + 6) - q))) i)) ^^^ (tmB 11 ((added (dRd l f q) (rk (aeW l) ((l.length / 4 + 6) - q))) ((4 * (i / 4)) + ((i + 1) % 4))))) (u := (tmB 14 ((added (dRd l f q) (rk (aeW l) ((l.length / 4 + 6) - q))) i))) (v := (tmB 11 ((added (dRd l f q) (rk (aeW l) ((l.length / 4 + 6) - q))) ((4 * (i / 4)) + ((i + 1) % 4)))))) 3 ?_
  refine rx1k 21 (rpc 21 Tryz.func70 (times_c 13 ((added (dRd l f q) (rk (aeW l) ((l.length / 4 + 6) - q))) ((4 * (i / 4)) + ((i + 2) % 4)))) trivial hH 4 (.keep (pgo [] (.nil _ []))) ?_)
  clear hH
  intro w hH
  refine ⟨pcons (hH.blk 2 rfl) pnil, ?_⟩
  refine rv 22 (.xb (((tmB 14 ((added (dRd l f q) (rk (aeW l) ((l.length / 4 + 6) - q))) i)) ^^^ (tmB 11 ((added (dRd l f q) (rk (aeW l) ((l.length / 4 + 6) - q))) ((4 * (i / 4)) + ((i + 1) % 4))))) ^^^ (tmB 13 ((added (dRd l f q) (rk (aeW l) ((l.length / 4 + 6) - q))) ((4 * (i / 4)) + ((i + 2) % 4))))) (u := ((tmB 14 ((added (dRd l f q) (rk (aeW l) ((l.length / 4 + 6) - q))) i)) ^^^ (tmB 11 ((added (dRd l f q) (rk (aeW l) ((l.length / 4 + 6) - q))) ((4 * (i / 4)) + ((i + 1) % 4)))))) (v := (tmB 13 ((added (dRd l f q) (rk (aeW l) ((l.length / 4 + 6) - q))) ((4 * (i / 4)) + ((i + 2) % 4)))))) 3 ?_
  refine rx1k 30 (rpc 30 Tryz.func70 (times_c 9 ((added (dRd l f q) (rk (aeW l) ((l.length / 4 + 6) - q))) ((4 * (i / 4)) + ((i + 3) % 4)))) trivial hH 2 (pgo [] (.nil _ [])) ?_)
  clear hH
  intro w hH
  refine ⟨pnil, ?_⟩
  refine rv 31 (.xb ((((tmB 14 ((added (dRd l f q) (rk (aeW l) ((l.length / 4 + 6) - q))) i)) ^^^ (tmB 11 ((added (dRd l f q) (rk (aeW l) ((l.length / 4 + 6) - q))) ((4 * (i / 4)) + ((i + 1) % 4))))) ^^^ (tmB 13 ((added (dRd l f q) (rk (aeW l) ((l.length / 4 + 6) - q))) ((4 * (i / 4)) + ((i + 2) % 4))))) ^^^ (tmB 9 ((added (dRd l f q) (rk (aeW l) ((l.length / 4 + 6) - q))) ((4 * (i / 4)) + ((i + 3) % 4))))) (u := (((tmB 14 ((added (dRd l f q) (rk (aeW l) ((l.length / 4 + 6) - q))) i)) ^^^ (tmB 11 ((added (dRd l f q) (rk (aeW l) ((l.length / 4 + 6) - q))) ((4 * (i / 4)) + ((i + 1) % 4))))) ^^^ (tmB 13 ((added (dRd l f q) (rk (aeW l) ((l.length / 4 + 6) - q))) ((4 * (i / 4)) + ((i + 2) % 4)))))) (v := (tmB 9 ((added (dRd l f q) (rk (aeW l) ((l.length / 4 + 6) - q))) ((4 * (i / 4)) + ((i + 3) % 4)))))) 3 ?_
  have hi14 : i < 16 := by omega
  refine rv 32 (.ia 1 16 i (hi := hi14)) 2 ?_
  refine rx1k 33 ?_
  refine re0 33 3 hH rfl (.st cByte ((((tmB 14 ((added (dRd l f q) (rk (aeW l) ((l.length / 4 + 6) - q))) i)) ^^^ (tmB 11 ((added (dRd l f q) (rk (aeW l) ((l.length / 4 + 6) - q))) ((4 * (i / 4)) + ((i + 1) % 4))))) ^^^ (tmB 13 ((added (dRd l f q) (rk (aeW l) ((l.length / 4 + 6) - q))) ((4 * (i / 4)) + ((i + 2) % 4))))) ^^^ (tmB 9 ((added (dRd l f q) (rk (aeW l) ((l.length / 4 + 6) - q))) ((4 * (i / 4)) + ((i + 3) % 4))))) (room_1 (S := sBy) (C := (cArr 16)) rfl hi14) (arr_set0 (upF i (unmixed (added (dRd l f q) (rk (aeW l) ((l.length / 4 + 6) - q)))) (added (dRd l f q) (rk (aeW l) ((l.length / 4 + 6) - q)))) ((((tmB 14 ((added (dRd l f q) (rk (aeW l) ((l.length / 4 + 6) - q))) i)) ^^^ (tmB 11 ((added (dRd l f q) (rk (aeW l) ((l.length / 4 + 6) - q))) ((4 * (i / 4)) + ((i + 1) % 4))))) ^^^ (tmB 13 ((added (dRd l f q) (rk (aeW l) ((l.length / 4 + 6) - q))) ((4 * (i / 4)) + ((i + 2) % 4))))) ^^^ (tmB 9 ((added (dRd l f q) (rk (aeW l) ((l.length / 4 + 6) - q))) ((4 * (i / 4)) + ((i + 3) % 4))))) hi14)) trivial (.nil _ []) ?_
  clear hH
  rintro _ _ w rfl hH
  refine ⟨pnil, ?_⟩
  refine rxEnd (by kernel_rfl) ?_
  refine qxInN ?_
  refine qxThen ?_
  refine cxReg ?_
  refine zv (.add ((i + 1 : Nat) : Int)) 7 ?_
  refine zv .mv 1 ?_
  refine pxEnd ?_
  have he15 : (cArr 16).enc (upF (i + 1) (unmixed (added (dRd l f q) (rk (aeW l) ((l.length / 4 + 6) - q)))) (added (dRd l f q) (rk (aeW l) ((l.length / 4 + 6) - q)))) = (cArr 16).enc (stF (upF i (unmixed (added (dRd l f q) (rk (aeW l) ((l.length / 4 + 6) - q)))) (added (dRd l f q) (rk (aeW l) ((l.length / 4 + 6) - q)))) i ((((tmB 14 ((added (dRd l f q) (rk (aeW l) ((l.length / 4 + 6) - q))) i)) ^^^ (tmB 11 ((added (dRd l f q) (rk (aeW l) ((l.length / 4 + 6) - q))) ((4 * (i / 4)) + ((i + 1) % 4))))) ^^^ (tmB 13 ((added (dRd l f q) (rk (aeW l) ((l.length / 4 + 6) - q))) ((4 * (i / 4)) + ((i + 2) % 4))))) ^^^ (tmB 9 ((added (dRd l f q) (rk (aeW l) ((l.length / 4 + 6) - q))) ((4 * (i / 4)) + ((i + 3) % 4)))))) := arr_congr (fun j _ => (congrFun (upF_step i (unmixed (added (dRd l f q) (rk (aeW l) ((l.length / 4 + 6) - q)))) (added (dRd l f q) (rk (aeW l) ((l.length / 4 + 6) - q))) (by rw [show 4 * (i / 4) = i - i % 4 by omega]; exact unmixed_tm (added (dRd l f q) (rk (aeW l) ((l.length / 4 + 6) - q))) i)) j).symm)
  replace hH : HH w0 [] [[bl g1 61 ((cArr 16).enc (dRd l f q))], [bl g2 61 ((cArr 16).enc (fun _ => 0))], [bl g5 61 ((cArr 16).enc (added (dRd l f q) (rk (aeW l) ((l.length / 4 + 6) - q))))], [bl g6 61 ((cArr 16).enc (upF (i + 1) (unmixed (added (dRd l f q) (rk (aeW l) ((l.length / 4 + 6) - q)))) (added (dRd l f q) (rk (aeW l) ((l.length / 4 + 6) - q)))))]] w := by rw [he15]; exact hH
  exact zR1 (i + 1) ⟨hH, (by omega)⟩ (by omega)
  refine cxExit ?_
  refine qxThenE ?_
  refine qxThenE ?_
  refine qxInE ?_
  replace hH : HH w0 [] [[bl g1 61 ((cArr 16).enc (dRd l f q))], [bl g2 61 ((cArr 16).enc (fun _ => 0))], [bl g6 61 ((cArr 16).enc (upF i (unmixed (added (dRd l f q) (rk (aeW l) ((l.length / 4 + 6) - q)))) (added (dRd l f q) (rk (aeW l) ((l.length / 4 + 6) - q)))))]] w := HH.sel hH [0, 1, 3] rfl (by decide)
  obtain rfl : i = 16 := by omega
  have he16 : (cArr 16).enc (unmixed (added (dRd l f q) (rk (aeW l) ((l.length / 4 + 6) - q)))) = (cArr 16).enc (upF 16 (unmixed (added (dRd l f q) (rk (aeW l) ((l.length / 4 + 6) - q)))) (added (dRd l f q) (rk (aeW l) ((l.length / 4 + 6) - q)))) := arr_congr (fun j hj => (upF_lt _ _ hj).symm)
  replace hH : HH w0 [] [[bl g1 61 ((cArr 16).enc (dRd l f q))], [bl g2 61 ((cArr 16).enc (fun _ => 0))], [bl g6 61 ((cArr 16).enc (unmixed (added (dRd l f q) (rk (aeW l) ((l.length / 4 + 6) - q)))))]] w := by rw [he16]; exact hH
  have hq1 : 0 < q := by omega
  exact qxJoin (unmixed (added (dRd l f q) (rk (aeW l) ((l.length / 4 + 6) - q)))) ⟨hH, (fun j _ => (congrFun (dRd_pos hq1) j).symm)⟩ (slots_at [2, 4, 5, 6, 7] rfl)
  refine cxSkip ?_
  replace hH : HH w0 [] [[bl g1 61 ((cArr 16).enc (dRd l f q))], [bl g2 61 ((cArr 16).enc (fun _ => 0))], [bl g6 61 ((cArr 16).enc (added (dRd l f q) (rk (aeW l) ((l.length / 4 + 6) - q))))]] w := HH.sel hH [0, 1, 3] rfl (by decide)
  obtain rfl : q = 0 := by omega
  exact qxJoin (added (dRd l f 0) (rk (aeW l) ((l.length / 4 + 6) - 0))) ⟨hH, (fun j _ => rfl)⟩ (slots_at [1, 3, 4, 5, 6] rfl)
  clear hH
  rintro u w ⟨hH, hu⟩
  change CX _ _ _ _ [(7, (.pointer (some ⟨g6, 0, none⟩))), (5, (.int .i64 ((((l.length / 4 + 6) - q) : Nat) : Int))), (4, (.pointer (some ⟨g2, 0, none⟩))), (3, (.pointer (some ⟨g1, 0, none⟩))), (0, (.pointer (some ⟨g, 0, none⟩)))] _
  replace hH : HH w0 [] [[bl g1 61 ((cArr 16).enc (dRd l f q))], [bl g2 61 ((cArr 16).enc (fun _ => 0))], [bl g6 61 ((cArr 16).enc u)]] w := hH
  replace hu : ∀ j, j < 16 → (boxed (bk boxF 256) (unshifted u)) j = dRd l f (q + 1) j := hu
  refine zr ?_
  refine zv .mv 0 ?_
  refine zn ?_
  refine cxBlock ?_
  have he17 : (cArr 16).enc (prU 0 (boxed (bk boxF 256) (unshifted u)) (dRd l f q)) = (cArr 16).enc (dRd l f q) := arr_congr (fun j _ => if_neg (Nat.not_lt_zero _))
  replace hH : HH w0 [] [[bl g1 61 ((cArr 16).enc (prU 0 (boxed (bk boxF 256) (unshifted u)) (dRd l f q)))], [bl g2 61 ((cArr 16).enc (fun _ => 0))], [bl g6 61 ((cArr 16).enc u)]] w := by rw [he17]; exact hH
  refine zL1 (fun (i : Nat) => [(70, (.int .i64 (((i) : Nat) : Int))), (7, (.pointer (some ⟨g6, 0, none⟩))), (5, (.int .i64 ((((l.length / 4 + 6) - q) : Nat) : Int))), (4, (.pointer (some ⟨g2, 0, none⟩))), (3, (.pointer (some ⟨g1, 0, none⟩))), (0, (.pointer (some ⟨g, 0, none⟩)))]) (fun i w => HH w0 [] [[bl g1 61 ((cArr 16).enc (prU i (boxed (bk boxF 256) (unshifted u)) (dRd l f q)))], [bl g2 61 ((cArr 16).enc (fun _ => 0))], [bl g6 61 ((cArr 16).enc u)]] w ∧ (i ≤ 16)) (fun i => 16 - i) 0 ⟨hH, (Nat.zero_le _)⟩ ?_
  clear hH
  rintro i w ⟨hH, hi⟩
  refine zr ?_
  refine zv (.lt (i < 16)) 0 ?_
  refine zn ?_
  refine cxSeq ?_
  refine zP (fun hc18 => ?_) (fun hc18 => ?_)
  refine cxSkip ?_
  refine qxThen ?_
  refine cxSeq ?_
  refine cxBlock ?_
  refine zr ?_
  refine zv .mv 1 ?_
  refine zv .mv 1 ?_
  refine zn ?_
  refine cxRegX mixedOrders (by kernel_rfl) ?_
  replace hH := hH.drew
  refine rv 0 .mv 0 ?_
  refine rv 1 (v := (.int .i64 (((i / 4) : Nat) : Int))) (fun _ _ hF => opQuo (z := ((i / 4 : Nat) : Int)) rfl (hF.ev 0 rfl) rfl (by omega) (wI quoN (by omega) (by omega))) 1 ?_
  refine rv 2 .mv 0 ?_
  refine rv 3 (v := (.int .i64 (((i % 4) : Nat) : Int))) (fun _ _ hF => opRem (z := ((i % 4 : Nat) : Int)) rfl (hF.ev 0 rfl) rfl (by omega) remN) 1 ?_
  refine rv 4 (.add (((i / 4) + (i % 4) : Nat) : Int)) 3 ?_
  refine rv 5 (v := (.int .i64 (((((i / 4) + (i % 4)) % 4) : Nat) : Int))) (fun _ _ hF => opRem (z := ((((i / 4) + (i % 4)) % 4 : Nat) : Int)) rfl (hF.ev 0 rfl) rfl (by omega) remN) 1 ?_
  refine rv 6 (.mul ((4 * (((i / 4) + (i % 4)) % 4) : Nat) : Int)) 1 ?_
  refine rv 7 .mv 0 ?_
  refine rv 8 (v := (.int .i64 (((i % 4) : Nat) : Int))) (fun _ _ hF => opRem (z := ((i % 4 : Nat) : Int)) rfl (hF.ev 0 rfl) rfl (by omega) remN) 1 ?_
  refine rv 9 (.add (((4 * (((i / 4) + (i % 4)) % 4)) + (i % 4) : Nat) : Int)) 3 ?_
  refine rv 10 .mv 0 ?_
  refine rv 11 .mv 4 ?_
  have hi19 : i < 16 := by omega
  refine rv 12 (.ia 1 16 i (hi := hi19)) 1 ?_
  refine rld 13 (hH.q 2 rfl) (.ld cByte (u i) (fun _ hS => ((holds_blk0 hS).elt hi19))) 1 ?_
  refine rv 14 .nc 2 ?_
  refine rv 15 (.fld 256) 1 ?_
  have hi20 : (u i).toNat < 256 := UInt8.toNat_lt _
  refine rv 16 (.ia 1 256 ((u i).toNat) (hi := hi20)) 3 ?_
  refine rld 17 (hH.ob hR) (.ld cByte ((bk boxF 256) ((u i).toNat)) (fun _ hS => (((holds_blk0 hS).snd).fst.elt hi20))) 1 ?_
  have hi21 : (4 * (((i / 4) + (i % 4)) % 4)) + (i % 4) < 16 := by omega
  refine rv 18 (.ia 1 16 ((4 * (((i / 4) + (i % 4)) % 4)) + (i % 4)) (hi := hi21)) 2 ?_
  refine rx1k 19 ?_
  refine re0 19 0 hH rfl (.st cByte ((bk boxF 256) ((u i).toNat)) (room_1 (S := sBy) (C := (cArr 16)) rfl hi21) (arr_set0 (prU i (boxed (bk boxF 256) (unshifted u)) (dRd l f q)) ((bk boxF 256) ((u i).toNat)) hi21)) trivial (pgo [] (pgo [] (.nil _ []))) ?_
  clear hH
  rintro _ _ w rfl hH
  refine ⟨pnil, ?_⟩
  refine rxEnd (by kernel_rfl) ?_
  refine qxInN ?_
  refine qxThen ?_
  refine cxReg ?_
  refine zv (.add ((i + 1 : Nat) : Int)) 7 ?_
  refine zv .mv 1 ?_
  refine pxEnd ?_
  have he22 : (cArr 16).enc (prU (i + 1) (boxed (bk boxF 256) (unshifted u)) (dRd l f q)) = (cArr 16).enc (stF (prU i (boxed (bk boxF 256) (unshifted u)) (dRd l f q)) ((4 * (((i / 4) + (i % 4)) % 4)) + (i % 4)) ((bk boxF 256) ((u i).toNat))) := arr_congr (prU_step (by omega) (back_put _ (by omega)))
  replace hH : HH w0 [] [[bl g1 61 ((cArr 16).enc (prU (i + 1) (boxed (bk boxF 256) (unshifted u)) (dRd l f q)))], [bl g2 61 ((cArr 16).enc (fun _ => 0))], [bl g6 61 ((cArr 16).enc u)]] w := by rw [he22]; exact hH
  exact zR1 (i + 1) ⟨hH, (by omega)⟩ (by omega)
  refine cxExit ?_
  refine qxThenE ?_
  refine qxThenE ?_
  refine qxInE ?_
  refine qxInN ?_
  refine qxThen ?_
  refine cxReg ?_
  refine zv .mv 15 ?_
  refine zv (.sub ((((l.length / 4 + 6) - (q + 1)) : Nat) : Int)) 1 ?_
  refine zv .mv 1 ?_
  refine pxEnd ?_
  replace hH : HH w0 [] [[bl g1 61 ((cArr 16).enc (prU i (boxed (bk boxF 256) (unshifted u)) (dRd l f q)))], [bl g2 61 ((cArr 16).enc (fun _ => 0))]] w := hH.only [true, true, false]
  obtain rfl : i = 16 := by omega
  have he23 : (cArr 16).enc (dRd l f (q + 1)) = (cArr 16).enc (prU 16 (boxed (bk boxF 256) (unshifted u)) (dRd l f q)) := arr_congr (fun j hj => (hu j hj).symm.trans (prU_all _ _ j))
  replace hH : HH w0 [] [[bl g1 61 ((cArr 16).enc (dRd l f (q + 1)))], [bl g2 61 ((cArr 16).enc (fun _ => 0))]] w := by rw [he23]; exact hH
  exact zR1 (q + 1) ⟨hH, (by omega)⟩ (by omega)
  refine cxExit ?_
  refine qxThenE ?_
  refine qxThenE ?_
  refine qxInE ?_
  refine qxThen ?_
  obtain rfl : q = (l.length / 4 + 6) := by omega
  refine zr ?_
  refine zv .mv 19 ?_
  refine zs (hH.q 0 rfl) (.ld (cArr 16) (dRd l f (l.length / 4 + 6)) (fun _ hS => (holds_blk0 hS))) 4 ?_
  refine zc Tryz.func72 (put_r g l hk (dRd l f (l.length / 4 + 6)) 0 (by omega)) (hH.oldBlk hR (by simp)) hH 3 ?_
  clear hH
  intro w hH
  refine ze0 1 hH rfl (.sw (cArr 16) (fun _ => 0) (added (dRd l f (l.length / 4 + 6)) (rk (aeW l) 0))) trivial ?_
  clear hH
  rintro _ _ w rfl hH
  refine zn ?_
  refine cxRet ?_
  refine qxRetC 1 (hH.blk 1 rfl) rfl rfl (by kernel_rfl) (Cod.size _ _) (by kernel_rfl) ?_
  exact ⟨rfl, HH.toBelow hH⟩
end Go.Proofs.YtfloiekaiiapnaaGreatDoor

namespace Go.Proofs.YtfloiekaiiapnaaGreatDoor
open Go Go.RowKit
set_option maxRecDepth 100000

abbrev cOb := cPair cPtr (cPair (cArr 16) cSl)
theorem rdb_end {b : Nat → UInt8} {j : Nat} (hj : j < 16) : dbB b j = stF (upF 15 (dbB b) fun _ => 0) 15 (sl8 (b 15) 1 ^^^ 135 * sr8 (b 0) 7) j := by
  unfold stF
  by_cases h : j = 15
  · rw [if_pos h, h, UInt8.mul_comm]; rfl
  · rw [if_neg h, upF_lt _ _ (by omega)]
theorem rpd_part {l : List UInt8} (_ : l.length < 16) (j : Nat) : pdB l.length (cutF l 0) j = stF (ovr (l.take l.length) fun _ => 0) l.length 128 j := by
  unfold pdB stF ovr cutF
  rw [List.take_length]
  by_cases h1 : j < l.length
  · rw [if_pos h1, if_neg (by omega), if_pos h1, Nat.zero_add]
  · rw [if_neg h1]
    by_cases h2 : j = l.length
    · rw [if_pos h2, if_pos h2]
    · rw [if_neg h2, if_neg h2, if_neg h1]

set_option maxHeartbeats 8000000 in
theorem rxor_c (a b : Nat → UInt8) : Pure Tryz.prog 37 #[((cArr 16).val a), ((cArr 16).val b)] (fun _ => True) ((cArr 16).val (added a b)) := by
  refine pure_of (fn := Tryz.f37) Tryz.func37 rfl Tryz.ntmps37 (Nat.le_of_ble_eq_true rfl) rfl ?_
  intro w0 hH hR
  refine zr ?_
  refine zm hH (.bx (cArr 16) a) trivial 1 ?_
  clear hH
  rintro _ _ w ⟨g1, rfl, rfl⟩ hH
  refine zm hH (.bx (cArr 16) b) trivial 2 ?_
  clear hH
  rintro _ _ w ⟨g2, rfl, rfl⟩ hH
  refine zm hH (.al (cArr 16) (fun _ => 0)) trivial 0 ?_
  clear hH
  rintro _ _ w ⟨g3, rfl, rfl⟩ hH
  refine zn ?_
  refine cxSeq ?_
  refine zr ?_
  refine zv .mv 0 ?_
  refine zn ?_
  refine cxBlock ?_
  have he4 : (cArr 16).enc (upF 0 (added a b) a) = (cArr 16).enc a := arr_congr (fun j _ => by rw [upF_zero])
  replace hH : HH w0 [] [[bl g1 62 ((cArr 16).enc (upF 0 (added a b) a))], [bl g2 62 ((cArr 16).enc b)], [bl g3 62 ((cArr 16).enc (fun _ => 0))]] w := by rw [he4]; exact hH
  refine zL1 (fun (i : Nat) => [(6, (.int .i64 (((i) : Nat) : Int))), (4, (.pointer (some ⟨g3, 0, none⟩))), (3, (.pointer (some ⟨g2, 0, none⟩))), (2, (.pointer (some ⟨g1, 0, none⟩)))]) (fun i w => HH w0 [] [[bl g1 62 ((cArr 16).enc (upF i (added a b) a))], [bl g2 62 ((cArr 16).enc b)], [bl g3 62 ((cArr 16).enc (fun _ => 0))]] w ∧ (i ≤ 16)) (fun i => 16 - i) 0 ⟨hH, (Nat.zero_le _)⟩ ?_
  clear hH
  rintro i w ⟨hH, hi⟩
  refine zr ?_
  refine zv (.lt (i < 16)) 0 ?_
  refine zn ?_
  refine cxSeq ?_
  refine zP (fun hc5 => ?_) (fun hc5 => ?_)
  refine cxSkip ?_
  refine qxThen ?_
  refine cxSeq ?_
  refine cxBlock ?_
  refine zr ?_
  refine zv .mv 1 ?_
  refine zv .mv 1 ?_
  refine zn ?_
  refine cxRegX mixedOrders (by kernel_rfl) ?_
  replace hH := hH.drew
  refine rv 0 .mv 0 ?_
  refine rv 1 .mv 0 ?_
  have hi6 : i < 16 := by omega
  refine rv 2 (.ia 1 16 i (hi := hi6)) 1 ?_
  refine rld 3 (hH.q 0 rfl) (.ld cByte ((upF i (added a b) a) i) (fun _ hS => ((holds_blk0 hS).elt hi6))) 1 ?_
  refine rv 4 .mv 4 ?_
  have hi7 : i < 16 := by omega
  refine rv 5 (.ia 1 16 i (hi := hi7)) 1 ?_
  refine rld 6 (hH.q 1 rfl) (.ld cByte (b i) (fun _ hS => ((holds_blk0 hS).elt hi7))) 1 ?_
  refine rv 7 (.xb (((upF i (added a b) a) i) ^^^ (b i)) (u := ((upF i (added a b) a) i)) (v := (b i))) 3 ?_
  have hi8 : i < 16 := by omega
  refine rv 8 (.ia 1 16 i (hi := hi8)) 2 ?_
  refine rx1k 9 ?_
  refine re0 9 0 hH rfl (.st cByte (((upF i (added a b) a) i) ^^^ (b i)) (room_1 (S := sBy) (C := (cArr 16)) rfl hi8) (arr_set0 (upF i (added a b) a) (((upF i (added a b) a) i) ^^^ (b i)) hi8)) trivial (pgo [] (pgo [] (.nil _ []))) ?_
  clear hH
  rintro _ _ w rfl hH
  refine ⟨pnil, ?_⟩
  refine rxEnd (by kernel_rfl) ?_
  refine qxInN ?_
  refine qxThen ?_
  refine cxReg ?_
  refine zv (.add ((i + 1 : Nat) : Int)) 7 ?_
  refine zv .mv 1 ?_
  refine pxEnd ?_
  have he9 : (cArr 16).enc (upF (i + 1) (added a b) a) = (cArr 16).enc (stF (upF i (added a b) a) i (((upF i (added a b) a) i) ^^^ (b i))) := arr_congr (fun j _ => (congrFun (upF_step i (added a b) a (by rw [upF_at]; rfl)) j).symm)
  replace hH : HH w0 [] [[bl g1 62 ((cArr 16).enc (upF (i + 1) (added a b) a))], [bl g2 62 ((cArr 16).enc b)], [bl g3 62 ((cArr 16).enc (fun _ => 0))]] w := by rw [he9]; exact hH
  exact zR1 (i + 1) ⟨hH, (by omega)⟩ (by omega)
  refine cxExit ?_
  refine qxThenE ?_
  refine qxThenE ?_
  refine qxInE ?_
  refine qxThen ?_
  obtain rfl : i = 16 := by omega
  have he10 : (cArr 16).enc (added a b) = (cArr 16).enc (upF 16 (added a b) a) := arr_congr (fun j hj => (upF_lt _ _ hj).symm)
  replace hH : HH w0 [] [[bl g1 62 ((cArr 16).enc (added a b))], [bl g2 62 ((cArr 16).enc b)], [bl g3 62 ((cArr 16).enc (fun _ => 0))]] w := by rw [he10]; exact hH
  refine zr ?_
  refine zs (hH.q 0 rfl) (.ld (cArr 16) (added a b) (fun _ hS => (holds_blk0 hS))) 27 ?_
  refine ze0 2 hH rfl (.sw (cArr 16) (fun _ => 0) (added a b)) trivial ?_
  clear hH
  rintro _ _ w rfl hH
  refine zn ?_
  refine cxRet ?_
  refine qxRetC 1 (hH.blk 2 rfl) rfl rfl (by kernel_rfl) (Cod.size _ _) (by kernel_rfl) ?_
  exact ⟨rfl, HH.toBelow hH⟩

set_option maxHeartbeats 8000000 in
theorem rdbl_c (b : Nat → UInt8) : Pure Tryz.prog 51 #[((cArr 16).val b)] (fun _ => True) ((cArr 16).val (dbB b)) := by
  refine pure_of (fn := Tryz.f51) Tryz.func51 rfl Tryz.ntmps51 (Nat.le_of_ble_eq_true rfl) rfl ?_
  intro w0 hH hR
  refine zr ?_
  refine zm hH (.bx (cArr 16) b) trivial 1 ?_
  clear hH
  rintro _ _ w ⟨g1, rfl, rfl⟩ hH
  refine zm hH (.al (cArr 16) (fun _ => 0)) trivial 0 ?_
  clear hH
  rintro _ _ w ⟨g2, rfl, rfl⟩ hH
  refine zn ?_
  refine zr ?_
  refine zm hH (.al (cArr 16) (fun _ => 0)) trivial 0 ?_
  clear hH
  rintro _ _ w ⟨g3, rfl, rfl⟩ hH
  refine zn ?_
  refine cxSeq ?_
  refine zr ?_
  refine zv .mv 0 ?_
  refine zn ?_
  refine cxBlock ?_
  have he4 : (cArr 16).enc (upF 0 (dbB b) (fun _ => 0)) = (cArr 16).enc (fun _ => 0) := arr_congr (fun j _ => by rw [upF_zero])
  replace hH : HH w0 [] [[bl g1 62 ((cArr 16).enc b)], [bl g2 62 ((cArr 16).enc (fun _ => 0))], [bl g3 62 ((cArr 16).enc (upF 0 (dbB b) (fun _ => 0)))]] w := by rw [he4]; exact hH
  refine zL1 (fun (i : Nat) => [(5, (.int .i64 (((i) : Nat) : Int))), (3, (.pointer (some ⟨g3, 0, none⟩))), (2, (.pointer (some ⟨g2, 0, none⟩))), (1, (.pointer (some ⟨g1, 0, none⟩)))]) (fun i w => HH w0 [] [[bl g1 62 ((cArr 16).enc b)], [bl g2 62 ((cArr 16).enc (fun _ => 0))], [bl g3 62 ((cArr 16).enc (upF i (dbB b) (fun _ => 0)))]] w ∧ (i ≤ 15)) (fun i => 15 - i) 0 ⟨hH, (Nat.zero_le _)⟩ ?_
  clear hH
  rintro i w ⟨hH, hi⟩
  refine zr ?_
  refine zv (.lt (i < 15)) 0 ?_
  refine zn ?_
  refine cxSeq ?_
  refine zP (fun hc5 => ?_) (fun hc5 => ?_)
  refine cxSkip ?_
  refine qxThen ?_
  refine cxSeq ?_
  refine cxBlock ?_
  refine zr ?_
  refine zv .mv 1 ?_
  refine zv .mv 1 ?_
  refine zn ?_
  refine cxRegX mixedOrders (by kernel_rfl) ?_
  replace hH := hH.drew
  refine rv 0 .mv 0 ?_
  refine rv 1 .mv 0 ?_
  have hi6 : i < 16 := by omega
  refine rv 2 (.ia 1 16 i (hi := hi6)) 1 ?_
  refine rld 3 (hH.q 0 rfl) (.ld cByte (b i) (fun _ hS => ((holds_blk0 hS).elt hi6))) 1 ?_
  refine rv 4 (.lb 1 (u := (b i))) 1 ?_
  refine rv 5 .mv 4 ?_
  refine rv 6 (.add ((i + 1 : Nat) : Int)) 1 ?_
  have hi7 : i + 1 < 16 := by omega
  refine rv 7 (.ia 1 16 (i + 1) (hi := hi7)) 1 ?_
  refine rld 8 (hH.q 0 rfl) (.ld cByte (b (i + 1)) (fun _ hS => ((holds_blk0 hS).elt hi7))) 1 ?_
  refine rv 9 (.rb 7 (u := (b (i + 1)))) 1 ?_
  refine rv 10 (.ob ((sl8 (b i) 1) ||| (sr8 (b (i + 1)) 7)) (u := (sl8 (b i) 1)) (v := (sr8 (b (i + 1)) 7))) 3 ?_
  have hi8 : i < 16 := by omega
  refine rv 11 (.ia 1 16 i (hi := hi8)) 2 ?_
  refine rx1k 12 ?_
  refine re0 12 2 hH rfl (.st cByte ((sl8 (b i) 1) ||| (sr8 (b (i + 1)) 7)) (room_1 (S := sBy) (C := (cArr 16)) rfl hi8) (arr_set0 (upF i (dbB b) (fun _ => 0)) ((sl8 (b i) 1) ||| (sr8 (b (i + 1)) 7)) hi8)) trivial (pgo [] (pgo [] (.nil _ []))) ?_
  clear hH
  rintro _ _ w rfl hH
  refine ⟨pnil, ?_⟩
  refine rxEnd (by kernel_rfl) ?_
  refine qxInN ?_
  refine qxThen ?_
  refine cxReg ?_
  refine zv (.add ((i + 1 : Nat) : Int)) 7 ?_
  refine zv .mv 1 ?_
  refine pxEnd ?_
  have he9 : (cArr 16).enc (upF (i + 1) (dbB b) (fun _ => 0)) = (cArr 16).enc (stF (upF i (dbB b) (fun _ => 0)) i ((sl8 (b i) 1) ||| (sr8 (b (i + 1)) 7))) := arr_congr (fun j _ => (congrFun (upF_step i (dbB b) _ (by unfold dbB; rw [if_neg (by omega)])) j).symm)
  replace hH : HH w0 [] [[bl g1 62 ((cArr 16).enc b)], [bl g2 62 ((cArr 16).enc (fun _ => 0))], [bl g3 62 ((cArr 16).enc (upF (i + 1) (dbB b) (fun _ => 0)))]] w := by rw [he9]; exact hH
  exact zR1 (i + 1) ⟨hH, (by omega)⟩ (by omega)
  refine cxExit ?_
  refine qxThenE ?_
  refine qxThenE ?_
  refine qxInE ?_
  refine qxThen ?_
  obtain rfl : i = 15 := by omega
  refine zr ?_
  have hi10 : 15 < 16 := by omega
  refine zv (.ia 1 16 15 (hi := hi10)) 3 ?_
  refine zs (hH.q 0 rfl) (.ld cByte (b 15) (fun _ hS => ((holds_blk0 hS).elt hi10))) 1 ?_
  refine zv (.lb 1 (u := (b 15))) 1 ?_
  have hi11 : 0 < 16 := by omega
  refine zv (.ia 1 16 0 (hi := hi11)) 8 ?_
  refine zs (hH.q 0 rfl) (.ld cByte (b 0) (fun _ hS => ((holds_blk0 hS).elt hi11))) 1 ?_
  refine zv (.rb 7 (u := (b 0))) 1 ?_
  refine zv (.ub ((135 : UInt8) * (sr8 (b 0) 7)) (u := (135 : UInt8)) (v := (sr8 (b 0) 7))) 1 ?_
  refine zv (.xb ((sl8 (b 15) 1) ^^^ ((135 : UInt8) * (sr8 (b 0) 7))) (u := (sl8 (b 15) 1)) (v := ((135 : UInt8) * (sr8 (b 0) 7)))) 3 ?_
  have hi12 : 15 < 16 := by omega
  refine zv (.ia 1 16 15 (hi := hi12)) 0 ?_
  refine ze0 2 hH rfl (.st cByte ((sl8 (b 15) 1) ^^^ ((135 : UInt8) * (sr8 (b 0) 7))) (room_1 (S := sBy) (C := (cArr 16)) rfl hi12) (arr_set0 (upF 15 (dbB b) (fun _ => 0)) ((sl8 (b 15) 1) ^^^ ((135 : UInt8) * (sr8 (b 0) 7))) hi12)) trivial ?_
  clear hH
  rintro _ _ w rfl hH
  refine zn ?_
  have he13 : (cArr 16).enc (dbB b) = (cArr 16).enc (stF (upF 15 (dbB b) (fun _ => 0)) 15 ((sl8 (b 15) 1) ^^^ ((135 : UInt8) * (sr8 (b 0) 7)))) := arr_congr (fun j hj => rdb_end hj)
  replace hH : HH w0 [] [[bl g1 62 ((cArr 16).enc b)], [bl g2 62 ((cArr 16).enc (fun _ => 0))], [bl g3 62 ((cArr 16).enc (dbB b))]] w := by rw [he13]; exact hH
  refine zr ?_
  refine zs (hH.q 2 rfl) (.ld (cArr 16) (dbB b) (fun _ hS => (holds_blk0 hS))) 7 ?_
  refine ze0 1 hH rfl (.sw (cArr 16) (fun _ => 0) (dbB b)) trivial ?_
  clear hH
  rintro _ _ w rfl hH
  refine zn ?_
  refine cxRet ?_
  refine qxRetC 1 (hH.blk 1 rfl) rfl rfl (by kernel_rfl) (Cod.size _ _) (by kernel_rfl) ?_
  exact ⟨rfl, HH.toBelow hH⟩

set_option maxHeartbeats 8000000 in
theorem rpadO_c (A : Option Addr) (c : Nat) (l : List UInt8) (hl : l.length < 16) : Pure Tryz.prog 54 #[(.slice A l.length c)] (fun w => Vu cByte w A l.length c l) ((cArr 16).val (pdB l.length (cutF l 0))) := by
  refine pure_of (fn := Tryz.f54) Tryz.func54 rfl Tryz.ntmps54 (Nat.le_of_ble_eq_true rfl) rfl ?_
  intro w0 hH hR
  refine zr ?_
  refine zm hH (.al (cArr 16) (fun _ => 0)) trivial 0 ?_
  clear hH
  rintro _ _ w ⟨g1, rfl, rfl⟩ hH
  refine zn ?_
  refine zr ?_
  refine zm hH (.al (cArr 16) (fun _ => 0)) trivial 0 ?_
  clear hH
  rintro _ _ w ⟨g2, rfl, rfl⟩ hH
  refine zn ?_
  refine zr ?_
  refine zv (v := (.slice (some ⟨g2, 0, none⟩) 16 16)) (fun _ _ hF => opSliceA (n := 16) (e := 5) (sz := 1) rfl (by kernel_rfl) (by kernel_rfl) (hF.ev 0 rfl)) 0 ?_
  refine zv .mv 0 ?_
  refine ze 1 hH rfl (fun _ hF => smCopyK (C := cByte) (m := l) (e := 5) l.length (show min l.length 16 = l.length by omega) rfl (by kernel_rfl) (by kernel_rfl) (ltb rfl) (hF.ev 1 rfl) (hF.ev 0 rfl) rfl (by rw [Cod.size]; show 0 + l.length * 1 ≤ 16; omega) (arr_ovr _ _)) (hH.vu hR (by decide) (Off.nil _ _)) 3 ?_
  clear hH
  rintro _ _ w ⟨rfl, rfl⟩ hH
  refine zn ?_
  refine zr ?_
  refine zv .mv 9 ?_
  refine zv .len 1 ?_
  have hi3 : l.length < 16 := by omega
  refine zv (.ia 1 16 l.length (hi := hi3)) 1 ?_
  refine ze0 1 hH rfl (.st cByte 128 (room_1 (S := sBy) (C := (cArr 16)) rfl hi3) (arr_set0 (ovr (l.take l.length) (fun _ => 0)) 128 hi3)) trivial ?_
  clear hH
  rintro _ _ w rfl hH
  refine zn ?_
  have he4 : (cArr 16).enc (pdB l.length (cutF l 0)) = (cArr 16).enc (stF (ovr (l.take l.length) (fun _ => 0)) l.length 128) := arr_congr (fun j _ => rpd_part hl j)
  replace hH : HH w0 [] [[bl g1 62 ((cArr 16).enc (fun _ => 0))], [bl g2 62 ((cArr 16).enc (pdB l.length (cutF l 0)))]] w := by rw [he4]; exact hH
  refine zr ?_
  refine zs (hH.q 1 rfl) (.ld (cArr 16) (pdB l.length (cutF l 0)) (fun _ hS => (holds_blk0 hS))) 3 ?_
  refine ze0 0 hH rfl (.sw (cArr 16) (fun _ => 0) (pdB l.length (cutF l 0))) trivial ?_
  clear hH
  rintro _ _ w rfl hH
  refine zn ?_
  refine cxRet ?_
  refine qxRetC 1 (hH.blk 0 rfl) rfl rfl (by kernel_rfl) (Cod.size _ _) (by kernel_rfl) ?_
  exact ⟨rfl, HH.toBelow hH⟩

theorem rpad_n (A : Option Addr) (n c : Nat) (l : List UInt8) (hl : n < 16) : Pure Tryz.prog 54 #[(.slice A n c)] (fun w => Vu cByte w A n c l) ((cArr 16).val (pdB n (cutF l 0))) := fun w hR => by
  obtain rfl : l.length = n := hR.len
  exact rpadO_c A c l hl w hR

set_option maxHeartbeats 8000000 in
theorem raes_c (g gc : Nat) (l : List UInt8) (hk : l.length = 16 ∨ l.length = 32) (st : Nat → UInt8) (hd : Option Addr × Nat × Nat) (b : Nat → UInt8) : Pure Tryz.prog 50 #[(.pointer (some ⟨g, 0, none⟩)), ((cArr 16).val b)] (fun w => w.heap[g]? = some (.cells (cOb.enc ((some ⟨gc, 0, none⟩), st, hd)) 88 (0, 0)) ∧ w.heap[gc]? = some (.cells (cCi.enc (boxF, bk boxF 256, (upF (16 * (l.length / 4 + 7)) (aeW l) fun _ => 0), (l.length / 4 + 6))) 109 (0, 0))) ((cArr 16).val (aeE l b)) := by
  refine pure_of (fn := Tryz.f50) Tryz.func50 rfl Tryz.ntmps50 (Nat.le_of_ble_eq_true rfl) rfl ?_
  intro w0 hH hR
  refine zr ?_
  refine zm hH (.bx (cArr 16) b) trivial 2 ?_
  clear hH
  rintro _ _ w ⟨g1, rfl, rfl⟩ hH
  refine zm hH (.al (cArr 16) (fun _ => 0)) trivial 0 ?_
  clear hH
  rintro _ _ w ⟨g2, rfl, rfl⟩ hH
  refine zn ?_
  refine zx ?_
  replace hH := hH.drew
  refine rv 0 .mv 4 ?_
  refine rv 1 .nc 1 ?_
  refine rv 2 (.fld 0) 1 ?_
  refine rld 3 (hH.ob hR.1) (.ld cPtr (some ⟨gc, 0, none⟩) (fun _ hS => (holds_blk0 hS).fst)) 1 ?_
  refine rld 4 (hH.q 0 rfl) (.ld (cArr 16) b (fun _ hS => (holds_blk0 hS))) 4 ?_
  refine rx1k 5 (rpc 5 Tryz.func71 (enc_r gc l hk b) (hH.oldBlk hR.2 (by simp)) hH 3 (pgo [] (pgo [] (.nil _ []))) ?_)
  clear hH
  intro w hH
  refine ⟨pnil, ?_⟩
  refine rx1k 6 ?_
  refine re0 6 1 hH rfl (.sw (cArr 16) (fun _ => 0) (aeE l b)) trivial (.nil _ []) ?_
  clear hH
  rintro _ _ w rfl hH
  refine ⟨pnil, ?_⟩
  refine rn ?_
  refine cxRet ?_
  refine qxRetC 1 (hH.blk 1 rfl) rfl rfl (by kernel_rfl) (Cod.size _ _) (by kernel_rfl) ?_
  exact ⟨rfl, HH.toBelow hH⟩
end Go.Proofs.YtfloiekaiiapnaaGreatDoor

namespace Go.Proofs.YtfloiekaiiapnaaGreatDoor
open Go Go.RowKit
set_option maxRecDepth 100000

theorem pow_odd : ∀ (n c x y : Nat), x % 2 = 1 → y % 2 = 1 → 2 ^ n * x = 2 ^ c * y → n = c
  | 0, 0, _, _, _, _, _ => rfl
  | 0, c + 1, x, y, hx, _, h => by
    rw [Nat.pow_zero, Nat.one_mul, Nat.pow_succ, Nat.mul_comm (2 ^ c) 2, Nat.mul_assoc] at h
    omega
  | n + 1, 0, x, y, _, hy, h => by
    rw [Nat.pow_zero, Nat.one_mul, Nat.pow_succ, Nat.mul_comm (2 ^ n) 2, Nat.mul_assoc] at h
    omega
  | n + 1, c + 1, x, y, hx, hy, h => by
    rw [Nat.pow_succ, Nat.pow_succ, Nat.mul_comm (2 ^ n) 2, Nat.mul_comm (2 ^ c) 2, Nat.mul_assoc, Nat.mul_assoc] at h
    rw [pow_odd n c x y hx hy (by omega)]
theorem ctz_val (n x i : Nat) (h : i = 2 ^ n * x) (hx : x % 2 = 1) (hi : i < 18446744073709551616) : Lib.ctz 64 i = n := by
  have h0 : i ≠ 0 := by
    rw [h]
    have := Nat.two_pow_pos n
    have h2 : 0 < 2 ^ n * x := Nat.mul_pos this (by omega)
    omega
  obtain ⟨m, hm, _⟩ := Lib.ctzFrom_spec 64 i (by omega) (by omega)
  have e : Lib.ctz 64 i = Lib.ctzFrom 64 i := by unfold Lib.ctz; rw [if_neg h0]
  rw [e]
  exact (pow_odd n _ x (2 * m + 1) hx (by omega) (by rw [← h, ← hm])).symm
theorem half_step {i n x : Nat} (h : i = 2 ^ n * x) (hx : x % 2 = 0) : i = 2 ^ (n + 1) * (x / 2) := by
  rw [h, Nat.pow_succ, Nat.mul_assoc]
  congr 1
  omega
/-- The first k of the L's. -/
def lsB (dl : Nat → UInt8) (k : Nat) : List (Nat → UInt8) := (List.range k).map fun i => dbs i dl
theorem lsB_len (dl : Nat → UInt8) (k : Nat) : (lsB dl k).length = k := by simp [lsB]
theorem lsB_get {dl : Nat → UInt8} {k i : Nat} (h : i < k) : (lsB dl k)[i]? = some (dbs i dl) := by simp [lsB, h]
theorem lsB_succ (dl : Nat → UInt8) (k : Nat) : lsB dl k ++ [dbs k dl] = lsB dl (k + 1) := by simp [lsB, List.range_succ]
/-- The document's object: AES, L*, the L's that it has reckoned. -/
def ObAt (g gc : Nat) (st dl : Nat → UInt8) (E : Hl) : Prop := ∃ k A c EL, 1 ≤ k ∧ k ≤ 70 ∧ E = bl g 88 (cOb.enc ((some ⟨gc, 0, none⟩), st, (A, k, c))) :: EL ∧ OwnT (cArr 16) 62 (.slice A k c) (lsB dl k) EL

set_option maxHeartbeats 8000000 in
theorem at_r (g gc : Nat) (st dl : Nat → UInt8) (E : Hl) (hO : ObAt g gc st dl E) (i : Nat) (h0 : 0 < i) (hi : i < 4611686018427387904) : Does Tryz.prog 52 #[(.pointer (some ⟨g, 0, none⟩)), (.int .i64 (((i) : Nat) : Int))] E (fun _ => True) (fun v E' => v = (cArr 16).val (stp dl i) ∧ ObAt g gc st dl E') := by
  refine does_of (fn := Tryz.f52) Tryz.func52 rfl Tryz.ntmps52 (Nat.le_of_ble_eq_true rfl) rfl ?_
  intro w0 hH hR
  obtain ⟨k, A, c, EL, h1, h70, rfl, hL⟩ := hO
  replace hH : HH w0 (bks (bl g 88 (cOb.enc ((some ⟨gc, 0, none⟩), st, (A, k, c))) :: EL)) [[bl g 88 (cOb.enc ((some ⟨gc, 0, none⟩), st, (A, k, c)))], EL] w0 := hH.cast (by simp)
  refine zr ?_
  refine zm hH (.al (cArr 16) (fun _ => 0)) trivial 0 ?_
  clear hH
  rintro _ _ w ⟨g1, rfl, rfl⟩ hH
  refine zn ?_
  refine zr ?_
  refine zv .mv 0 ?_
  refine zn ?_
  refine cxSeq ?_
  refine cxBlock ?_
  refine zL2 (fun (x : Nat) (n : Nat) => [(5, (.int .i64 (((n) : Nat) : Int))), (4, (.pointer (some ⟨g1, 0, none⟩))), (1, (.int .i64 (((x) : Nat) : Int))), (0, (.pointer (some ⟨g, 0, none⟩)))]) (fun x n w => HH w0 (bks (bl g 88 (cOb.enc ((some ⟨gc, 0, none⟩), st, (A, k, c))) :: EL)) [[bl g 88 (cOb.enc ((some ⟨gc, 0, none⟩), st, (A, k, c)))], EL, [bl g1 62 ((cArr 16).enc (fun _ => 0))]] w ∧ (i = 2 ^ n * x) ∧ (0 < x) ∧ (n + x ≤ i)) (fun x _ => x) i 0 ⟨hH, (by rw [Nat.pow_zero, Nat.one_mul]), h0, (by omega)⟩ ?_
  clear hH
  rintro x n w ⟨hH, hx, hx0, hni⟩
  refine cxSeq ?_
  refine zr ?_
  refine zv .mv 0 ?_
  refine zv (v := (.int .i64 (((x % 2) : Nat) : Int))) (fun _ _ hF => opRem (z := ((x % 2 : Nat) : Int)) rfl (hF.ev 0 rfl) rfl (by omega) remN) 1 ?_
  refine zv (.eq (x % 2 = 0)) 1 ?_
  refine zn ?_
  refine zP (fun hc2 => ?_) (fun hc2 => ?_)
  refine cxSkip ?_
  refine qxThen ?_
  refine cxBlock ?_
  refine zr ?_
  refine zv .mv 9 ?_
  refine zv (v := (.int .i64 (((x / 2) : Nat) : Int))) (fun _ _ hF => opQuo (z := ((x / 2 : Nat) : Int)) rfl (hF.ev 0 rfl) rfl (by omega) (wI quoN (by omega) (by omega))) 1 ?_
  refine zv .mv 1 ?_
  refine zn ?_
  refine cxReg ?_
  refine zv .mv 2 ?_
  refine zv (.add ((n + 1 : Nat) : Int)) 1 ?_
  refine zv .mv 1 ?_
  refine pxEnd ?_
  refine qxInN ?_
  exact zR2 (x / 2) (n + 1) ⟨hH, (half_step hx hc2), (by omega), (by omega)⟩ (by omega)
  refine cxExit ?_
  refine qxThenE ?_
  refine qxThenE ?_
  refine qxInE ?_
  refine qxThen ?_
  refine cxSeq ?_
  refine cxBlock ?_
  have hn : Lib.ctz 64 i = n := ctz_val n x i hx (by omega) (by omega)
  have hn64 := (Lib.lowest_bit 64 i (by omega) (by omega)).2
  rw [hn] at hn64
  refine zL4 (fun (_ : Nat) (_ : Option Addr) (_ : Nat) (_ : Hl) => [(5, (.int .i64 (((n) : Nat) : Int))), (4, (.pointer (some ⟨g1, 0, none⟩))), (0, (.pointer (some ⟨g, 0, none⟩)))]) (fun k1 A1 c1 E1 w => HH w0 (bks (bl g 88 (cOb.enc ((some ⟨gc, 0, none⟩), st, (A, k, c))) :: EL)) [[bl g 88 (cOb.enc ((some ⟨gc, 0, none⟩), st, (A1, k1, c1)))], E1, [bl g1 62 ((cArr 16).enc (fun _ => 0))]] w ∧ (1 ≤ k1) ∧ (k1 ≤ 70) ∧ (OwnT (cArr 16) 62 (.slice A1 k1 c1) (lsB dl k1) E1)) (fun k1 _ _ _ => 70 - k1) k A c EL ⟨hH, h1, h70, hL⟩ ?_
  clear hH
  rintro k1 A1 c1 E1 w ⟨hH, h1, h70, hL1⟩
  refine cxSeq ?_
  refine zr ?_
  refine zv .mv 0 ?_
  refine zv .nc 1 ?_
  refine zv (.fld 17) 1 ?_
  refine zs (hH.q 0 rfl) (.ld cSl (A1, k1, c1) (fun _ hS => ((holds_blk0 hS).snd).snd) (v := (.slice A1 k1 c1))) 1 ?_
  refine zv .len 1 ?_
  refine zv .mv 0 ?_
  refine zv (.add ((n + 2 : Nat) : Int)) 1 ?_
  refine zv (.lt (k1 < n + 2)) 3 ?_
  refine zn ?_
  refine zP (fun hc3 => ?_) (fun hc3 => ?_)
  refine cxSkip ?_
  refine qxThen ?_
  refine cxBlock ?_
  have hlk := lsB_len dl k1
  have hx4 : (lsB dl k1)[k1 - 1]? = some (dbs (k1 - 1) dl) := lsB_get (by omega)
  refine cxRegX mixedOrders (by kernel_rfl) ?_
  replace hH := hH.drew
  refine rv 0 .mv 1 ?_
  refine rv 1 .mv 0 ?_
  refine rv 2 .nc 1 ?_
  refine rv 3 (.fld 17) 1 ?_
  refine rld 4 (hH.q 0 rfl) (.ld cSl (A1, k1, c1) (fun _ hS => ((holds_blk0 hS).snd).snd) (v := (.slice A1 k1 c1))) 1 ?_
  refine rv 5 .mv 0 ?_
  refine rv 6 .nc 1 ?_
  refine rv 7 (.fld 17) 1 ?_
  refine rld 8 (hH.q 0 rfl) (.ld cSl (A1, k1, c1) (fun _ hS => ((holds_blk0 hS).snd).snd) (v := (.slice A1 k1 c1))) 1 ?_
  refine rv 9 .mv 0 ?_
  refine rv 10 .nc 1 ?_
  refine rv 11 (.fld 17) 1 ?_
  refine rld 12 (hH.q 0 rfl) (.ld cSl (A1, k1, c1) (fun _ hS => ((holds_blk0 hS).snd).snd) (v := (.slice A1 k1 c1))) 1 ?_
  refine rv 13 .len 1 ?_
  refine rv 14 (.sub (((k1 - 1) : Nat) : Int)) 1 ?_
  have hi5 : k1 - 1 < k1 := by omega
  obtain ⟨g6, cap7, cur8, hv10, rfl, hB9⟩ := hL1.open (by omega)
  obtain ⟨rfl, rfl⟩ : A1 = some ⟨g6, 0, none⟩ ∧ c1 = cap7 := by injection hv10 with h1 h2 h3; exact ⟨h1, h3⟩
  have := hB9.le
  have hj13 : k1 - 1 < (lsB dl k1).length := by first | exact hi5 | (simp only [List.length_drop]; omega) | (simp only [List.length_drop, List.length_take]; omega) | omega
  refine rv 15 (.ix 16 (k1 - 1) (hi := hi5)) 3 ?_
  refine rld 16 (hH.q 1 rfl) (.ld (cArr 16) (dbs (k1 - 1) dl) (fun _ hS => ((hB9.holdsL hS) (k1 - 1) _ hx4))) 1 ?_
  refine rx1k 17 (rpc 17 Tryz.func51 (rdbl_c (dbs (k1 - 1) dl)) trivial hH 1 (pgo [] (pgo [16, 15, 14, 13] (pgo [16, 15] (.keep (.nil _ []))))) ?_)
  clear hH
  intro w hH
  refine ⟨pcons (hH.blk 0 rfl) pnil, ?_⟩
  refine rx1k 18 ?_
  refine rm 18 hH (fun _ hF => smLit1 (e := 62) (sz := 16) (z := ((cArr 16).val (fun _ => 0))) (by_ := 16) (cs := (cArr 16).enc (dbB (dbs (k1 - 1) dl))) rfl (by kernel_rfl) (by kernel_rfl) (hF.ev 0 rfl) ((cArr 16).len (dbB (dbs (k1 - 1) dl))) (ltb rfl) (leb rfl) rfl) trivial 1 (.keep (.nil _ [])) ?_
  clear hH
  rintro _ _ w ⟨g14, rfl, rfl⟩ hH
  refine ⟨pcons (hH.blk 0 rfl) pnil, ?_⟩
  refine rx1k 19 ?_
  refine re 19 1 hH rfl (fun _ hF => smAppT (C := (cArr 16)) (l := (lsB dl k1)) (m := [(dbB (dbs (k1 - 1) dl))]) (e := 62) (z := ((cArr 16).val (fun _ => 0))) (by_ := 16) rfl (by kernel_rfl) (by kernel_rfl) rfl (ltb rfl) (hF.ev 1 rfl) (hB9.own 62 g6 (lsB_len _ _)) (hF.ev 0 rfl) rfl (fun h => by cases h) (by unfold maxLen; omega) (by omega)) ((Bk.lit1 (C := (cArr 16)) (dbB (dbs (k1 - 1) dl))).vu (n := 1) (hH.blk 3 rfl) rfl) 3 (pgo [] (.nil _ [])) ?_
  clear hH
  rintro v17 E18 w ⟨hO19, _⟩ hH
  replace hO19 : OwnT (cArr 16) 62 v17 ((lsB dl k1) ++ [(dbB (dbs (k1 - 1) dl))]) E18 := hO19
  obtain ⟨A15, c16, rfl⟩ := hO19.slice
  refine ⟨pnil, ?_⟩
  refine rv 20 .nc 2 ?_
  refine rv 21 (.fld 17) 1 ?_
  refine rx1k 22 ?_
  refine re0 22 0 hH rfl (fun _ hF => smStoreT (C := cSl) (z := (A15, ((lsB dl k1) ++ [(dbB (dbs (k1 - 1) dl))]).length, c16)) rfl (hF.ev 0 rfl) (hF.ev 1 rfl) rfl (by kernel_rfl) (by rw [Cod.size]; exact leb rfl) (put_snd (put_snd (put_whole cSl _ _) rfl) rfl)) trivial (.nil _ []) ?_
  clear hH
  rintro _ _ w rfl hH
  refine ⟨pnil, ?_⟩
  refine rxEnd (by kernel_rfl) ?_
  refine qxInN ?_
  replace hH : HH w0 (bks (bl g 88 (cOb.enc ((some ⟨gc, 0, none⟩), st, (A, k, c))) :: EL)) [[bl g 88 (cOb.enc ((some ⟨gc, 0, none⟩), st, (A15, ((lsB dl k1) ++ [(dbB (dbs (k1 - 1) dl))]).length, c16)))], E18, [bl g1 62 ((cArr 16).enc (fun _ => 0))]] w := hH.only [true, true, true, false]
  have e : ((lsB dl k1) ++ [(dbB (dbs (k1 - 1) dl))]) = lsB dl (k1 + 1) := by obtain ⟨j, rfl⟩ : ∃ j, k1 = j + 1 := ⟨k1 - 1, by omega⟩; exact lsB_succ dl (j + 1)
  rw [e, lsB_len] at hO19 hH
  exact zR4 (k1 + 1) A15 c16 E18 ⟨hH, (by omega), (by omega), hO19⟩ (by omega)
  refine cxExit ?_
  refine qxThenE ?_
  refine qxThenE ?_
  refine qxInE ?_
  refine qxThen ?_
  have hlk := lsB_len dl k1
  have hx20 : (lsB dl k1)[n + 1]? = some (dbs (n + 1) dl) := lsB_get (by omega)
  refine zr ?_
  refine zv .mv 9 ?_
  refine zv .nc 1 ?_
  refine zv (.fld 17) 1 ?_
  refine zs (hH.q 0 rfl) (.ld cSl (A1, k1, c1) (fun _ hS => ((holds_blk0 hS).snd).snd) (v := (.slice A1 k1 c1))) 1 ?_
  refine zv .mv 2 ?_
  refine zv (.add ((n + 1 : Nat) : Int)) 1 ?_
  have hi21 : n + 1 < k1 := by omega
  obtain ⟨g22, cap23, cur24, hv26, rfl, hB25⟩ := hL1.open (by omega)
  obtain ⟨rfl, rfl⟩ : A1 = some ⟨g22, 0, none⟩ ∧ c1 = cap23 := by injection hv26 with h1 h2 h3; exact ⟨h1, h3⟩
  have := hB25.le
  have hj29 : n + 1 < (lsB dl k1).length := by first | exact hi21 | (simp only [List.length_drop]; omega) | (simp only [List.length_drop, List.length_take]; omega) | omega
  refine zv (.ix 16 (n + 1) (hi := hi21)) 3 ?_
  refine zs (hH.q 1 rfl) (.ld (cArr 16) (dbs (n + 1) dl) (fun _ hS => ((hB25.holdsL hS) (n + 1) _ hx20))) 1 ?_
  refine ze0 2 hH rfl (.sw (cArr 16) (fun _ => 0) (dbs (n + 1) dl)) trivial ?_
  clear hH
  rintro _ _ w rfl hH
  refine zn ?_
  refine cxRet ?_
  refine qxRetC 1 (hH.blk 2 rfl) rfl rfl (by kernel_rfl) (Cod.size _ _) (by kernel_rfl) ?_
  exact ⟨_, _, rfl, ⟨by unfold stp; rw [hn]; rfl, k1, _, c1, _, h1, h70, rfl, hB25.own 62 g22 (lsB_len _ _)⟩, hH.out [true, true, false]⟩
end Go.Proofs.YtfloiekaiiapnaaGreatDoor

namespace Go.Proofs.YtfloiekaiiapnaaGreatDoor
open Go Go.RowKit
set_option maxRecDepth 100000

theorem raes_o (g gc : Nat) (l : List UInt8) (hk : l.length = 16 ∨ l.length = 32) (st dl : Nat → UInt8) (E : Hl) (hO : ObAt g gc st dl E) (b : Nat → UInt8) : Pure Tryz.prog 50 #[(.pointer (some ⟨g, 0, none⟩)), ((cArr 16).val b)] (fun w => Has E w ∧ w.heap[gc]? = some (.cells (cCi.enc (boxF, bk boxF 256, (upF (16 * (l.length / 4 + 7)) (aeW l) fun _ => 0), (l.length / 4 + 6))) 109 (0, 0))) ((cArr 16).val (aeE l b)) := fun w hR => by
  obtain ⟨k, A, c, EL, _, _, rfl, _⟩ := hO
  exact raes_c g gc l hk st (A, k, c) b w ⟨hR.1.blk (bl g _ _) (by simp), hR.2⟩
theorem cut_d {a : List UInt8} {q j : Nat} (hj : j < 16) : cutF ((a.drop (16 * q)).take 16) 0 j = cutF a (16 * q) j := by
  unfold cutF
  rw [Nat.zero_add, List.getD_eq_getElem?_getD, List.getD_eq_getElem?_getD, List.getElem?_take, if_pos hj, List.getElem?_drop]
theorem aeR_pos (l : List UInt8) : 0 < aeR l := by unfold aeR; omega

theorem pd_rest {a : List UInt8} {j : Nat} (_ : j < 16) : pdB (a.length % 16) (cutF (a.drop (16 * (a.length / 16))) 0) j = pdB (a.length % 16) (cutF a (16 * (a.length / 16))) j := by
  unfold pdB cutF
  rw [Nat.zero_add, List.getD_eq_getElem?_getD, List.getD_eq_getElem?_getD, List.getElem?_drop]

set_option maxHeartbeats 8000000 in
theorem rhash_r (g gc : Nat) (l : List UInt8) (hk : l.length = 16 ∨ l.length = 32) (st dl : Nat → UInt8) (E : Hl) (hO : ObAt g gc st dl E) (hgc : gc ∉ bks E) (Aa : Option Addr) (ya : Nat) (a : List UInt8) (ha : a.length ≤ 140737488355328) : Does Tryz.prog 38 #[(.pointer (some ⟨g, 0, none⟩)), (.slice Aa a.length ya)] E (fun w => w.heap[gc]? = some (.cells (cCi.enc (boxF, bk boxF 256, (upF (16 * (l.length / 4 + 7)) (aeW l) fun _ => 0), (l.length / 4 + 6))) 109 (0, 0)) ∧ Vu cByte w Aa a.length ya a ∧ Off Aa a.length (bks E)) (fun v E' => v = (cArr 16).val (hsL (aeE l) st dl a) ∧ ObAt g gc st dl E') := by
  refine does_of (fn := Tryz.f38) Tryz.func38 rfl Tryz.ntmps38 (Nat.le_of_ble_eq_true rfl) rfl ?_
  intro w0 hH hR
  have hca := hR.2.1.cap
  refine zr ?_
  refine zm hH (.al (cArr 16) (fun _ => 0)) trivial 0 ?_
  clear hH
  rintro _ _ w ⟨g1, rfl, rfl⟩ hH
  refine zn ?_
  refine zr ?_
  refine zm hH (.al (cArr 16) (fun _ => 0)) trivial 0 ?_
  clear hH
  rintro _ _ w ⟨g2, rfl, rfl⟩ hH
  refine zm hH (.al (cArr 16) (fun _ => 0)) trivial 0 ?_
  clear hH
  rintro _ _ w ⟨g3, rfl, rfl⟩ hH
  refine zn ?_
  refine zr ?_
  refine zv .mv 0 ?_
  refine zn ?_
  refine cxSeq ?_
  refine cxBlock ?_
  refine zL6 (fun (A1 : Option Addr) (n1 : Nat) (c1 : Nat) (_ : List UInt8) (q : Nat) (_ : Hl) => [(7, (.int .i64 (((q + 1) : Nat) : Int))), (6, (.pointer (some ⟨g3, 0, none⟩))), (5, (.pointer (some ⟨g2, 0, none⟩))), (4, (.pointer (some ⟨g1, 0, none⟩))), (1, (.slice A1 n1 c1)), (0, (.pointer (some ⟨g, 0, none⟩)))]) (fun A1 n1 c1 l1 q E1 w => HH w0 (bks E) [E1, [bl g1 62 ((cArr 16).enc (fun _ => 0))], [bl g2 62 ((cArr 16).enc (hsW (aeE l) dl a q))], [bl g3 62 ((cArr 16).enc (ofs dl (fun _ => 0) q))]] w ∧ (Vu cByte w0 A1 n1 c1 l1) ∧ (Off A1 n1 (bks E)) ∧ (l1 = a.drop (16 * q)) ∧ (n1 + 16 * q = a.length) ∧ (ObAt g gc st dl E1)) (fun _ n1 _ _ _ _ => n1) Aa a.length ya a 0 E ⟨hH, hR.2.1, hR.2.2, (by rw [Nat.mul_zero, List.drop_zero]), (by omega), hO⟩ ?_
  clear hH
  rintro A1 n1 c1 l1 q E1 w ⟨hH, hV1, hO1, hl1, hn1, hOb⟩
  refine cxSeq ?_
  refine zr ?_
  refine zv .mv 0 ?_
  refine zv .len 1 ?_
  refine zv (.ge (n1 ≥ 16)) 1 ?_
  refine zn ?_
  refine zP (fun hc4 => ?_) (fun hc4 => ?_)
  refine cxSkip ?_
  refine qxThen ?_
  refine cxBlock ?_
  refine zx ?_
  replace hH := hH.drew
  refine rld 0 (hH.q 3 rfl) (.ld (cArr 16) (ofs dl (fun _ => 0) q) (fun _ hS => (holds_blk0 hS))) 1 ?_
  refine rv 1 .mv 0 ?_
  refine rv 2 .mv 0 ?_
  refine rx1k 3 ?_
  refine re 3 0 hH rfl (.call Tryz.func52 (at_r g gc st dl E1 hOb (q + 1) (by omega) (by omega))) trivial 3 (.keep (.nil _ [])) ?_
  clear hH
  rintro _ E5 w ⟨rfl, hOb6⟩ hH
  refine ⟨pcons (hH.blk 3 rfl) pnil, ?_⟩
  refine rx1k 4 (rpc 4 Tryz.func37 (rxor_c (ofs dl (fun _ => 0) q) (stp dl (q + 1))) trivial hH 3 (pgo [] (.nil _ [])) ?_)
  clear hH
  intro w hH
  refine ⟨pnil, ?_⟩
  refine rx1k 5 ?_
  refine re0 5 3 hH rfl (.sw (cArr 16) (ofs dl (fun _ => 0) q) (added (ofs dl (fun _ => 0) q) (stp dl (q + 1)))) trivial (.nil _ []) ?_
  clear hH
  rintro _ _ w rfl hH
  refine ⟨pnil, ?_⟩
  refine rn ?_
  have hn2 := hV1.len
  obtain ⟨b7, off8, rfl, hL9, hb10, hR11⟩ := hV1.blk (by decide) hO1 (by omega)
  have := hV1.cap
  refine zx ?_
  replace hH := hH.drew
  refine rld 0 (hH.q 2 rfl) (.ld (cArr 16) (hsW (aeE l) dl a q) (fun _ hS => (holds_blk0 hS))) 1 ?_
  refine rv 1 .mv 0 ?_
  refine rv 2 .mv 0 ?_
  refine rv 3 (v := (.slice (some ⟨b7, off8, none⟩) 16 c1)) (fun _ _ hF => opCutH (h := 16) (e := 5) (sz := 1) rfl (by kernel_rfl) (by kernel_rfl) (hF.ev 0 rfl) rfl rfl (by omega)) 1 ?_
  refine rv 4 (v := (.pointer (some ⟨b7, off8, none⟩))) (fun _ _ hF => opToArray (m := 16) (e := 5) rfl (by kernel_rfl) (hF.ev 0 rfl) (by omega)) 1 ?_
  refine rld 5 (S := fun w => HoldsL cByte w b7 off8 l1) (hH.holdsL hL9 hb10 hR11) (.ld (cArr 16) (cutF (l1.take 16) 0) (fun _ hS => ((hS.cut 0 16).arr 0 16 (by first | omega | (rw [lst_len]; omega) | (simp only [List.length_drop, List.length_take]; omega) | (simp only [List.length_drop, List.length_take, lst_len]; omega))))) 1 ?_
  refine rld 6 (hH.q 3 rfl) (.ld (cArr 16) (added (ofs dl (fun _ => 0) q) (stp dl (q + 1))) (fun _ hS => (holds_blk0 hS))) 0 ?_
  refine rx1k 7 (rpc 7 Tryz.func37 (rxor_c (cutF (l1.take 16) 0) (added (ofs dl (fun _ => 0) q) (stp dl (q + 1)))) trivial hH 3 (pgo [] (pgo [] (.keep (.nil _ [])))) ?_)
  clear hH
  intro w hH
  refine ⟨pcons (hH.blk 2 rfl) pnil, ?_⟩
  refine rx1k 8 (rpc 8 Tryz.func50 (raes_o g gc l hk st dl E5 hOb6 (added (cutF (l1.take 16) 0) (added (ofs dl (fun _ => 0) q) (stp dl (q + 1))))) (⟨(hH.has 0 rfl), (hH.oldBlk hR.1 hgc)⟩) hH 3 (.keep (.nil _ [])) ?_)
  clear hH
  intro w hH
  refine ⟨pcons (hH.blk 2 rfl) pnil, ?_⟩
  refine rx1k 9 (rpc 9 Tryz.func37 (rxor_c (hsW (aeE l) dl a q) (aeE l (added (cutF (l1.take 16) 0) (added (ofs dl (fun _ => 0) q) (stp dl (q + 1)))))) trivial hH 3 (pgo [] (.nil _ [])) ?_)
  clear hH
  intro w hH
  refine ⟨pnil, ?_⟩
  refine rx1k 10 ?_
  refine re0 10 2 hH rfl (.sw (cArr 16) (hsW (aeE l) dl a q) (added (hsW (aeE l) dl a q) (aeE l (added (cutF (l1.take 16) 0) (added (ofs dl (fun _ => 0) q) (stp dl (q + 1))))))) trivial (.nil _ []) ?_
  clear hH
  rintro _ _ w rfl hH
  refine ⟨pnil, ?_⟩
  refine rn ?_
  refine zr ?_
  refine zv .mv 33 ?_
  refine zv (v := (.slice (cutA (some ⟨b7, off8, none⟩) c1 16 1) (n1 - 16) (c1 - 16))) (fun _ _ hF => opCutL (k := 16) (e := 5) (sz := 1) rfl (by kernel_rfl) (by kernel_rfl) (hF.ev 0 rfl) rfl rfl (by omega)) 1 ?_
  refine zv .mv 1 ?_
  refine zn ?_
  refine cxReg ?_
  refine zv .mv 2 ?_
  refine zv (.add (((q + 1) + 1 : Nat) : Int)) 1 ?_
  refine zv .mv 1 ?_
  refine pxEnd ?_
  refine qxInN ?_
  have he12 : (cArr 16).enc (hsW (aeE l) dl a (q + 1)) = (cArr 16).enc (added (hsW (aeE l) dl a q) (aeE l (added (cutF (l1.take 16) 0) (added (ofs dl (fun _ => 0) q) (stp dl (q + 1)))))) := arr_congr (fun j hj => E16.added (E16.refl _) (aeE_E16 l (aeR_pos l) (E16.added (fun i hi => by rw [hl1]; exact (cut_d hi).symm) (E16.refl _))) j hj)
  replace hH : HH w0 (bks E) [E5, [bl g1 62 ((cArr 16).enc (fun _ => 0))], [bl g2 62 ((cArr 16).enc (hsW (aeE l) dl a (q + 1)))], [bl g3 62 ((cArr 16).enc (added (ofs dl (fun _ => 0) q) (stp dl (q + 1))))]] w := by rw [he12]; exact hH
  exact zR6 (cutA (some ⟨b7, off8, none⟩) c1 16 1) (n1 - 16) (c1 - 16) (l1.drop 16) (q + 1) E5 ⟨hH, (hV1.from (show 16 ≤ n1 by omega)), (hO1.cut hV1 _ (fun _ => by omega)), (by rw [hl1, List.drop_drop, Nat.mul_add]), (by omega), hOb6⟩ (by omega)
  refine cxExit ?_
  refine qxThenE ?_
  refine qxThenE ?_
  refine qxInE ?_
  refine qxThen ?_
  refine cxSeq ?_
  have hq : q = a.length / 16 := by omega
  refine zr ?_
  refine zv .mv 3 ?_
  refine zv .len 1 ?_
  refine zv (.gt (n1 > 0)) 1 ?_
  refine zn ?_
  refine zP (fun hc13 => ?_) (fun hc13 => ?_)
  obtain ⟨k14, A15, c16, EL17, h118, h719, rfl, hL20⟩ := hOb
  replace hH : HH w0 (bks E) [[bl g 88 (cOb.enc ((some ⟨gc, 0, none⟩), st, (A15, k14, c16)))], EL17, [bl g1 62 ((cArr 16).enc (fun _ => 0))], [bl g2 62 ((cArr 16).enc (hsW (aeE l) dl a q))], [bl g3 62 ((cArr 16).enc (ofs dl (fun _ => 0) q))]] w := hH.cast (by simp)
  refine cxRegX mixedOrders (by kernel_rfl) ?_
  replace hH := hH.drew
  refine rld 0 (hH.q 3 rfl) (.ld (cArr 16) (hsW (aeE l) dl a q) (fun _ hS => (holds_blk0 hS))) 1 ?_
  refine rv 1 .mv 0 ?_
  refine rv 2 .mv 32 ?_
  refine rld 4 (hH.q 4 rfl) (.ld (cArr 16) (ofs dl (fun _ => 0) q) (fun _ hS => (holds_blk0 hS))) 8 ?_
  refine rv 5 .mv 64 ?_
  refine rv 6 .nc 1 ?_
  refine rv 7 (.fld 1) 1 ?_
  refine rld 8 (hH.q 0 rfl) (.ld (cArr 16) st (fun _ hS => ((holds_blk0 hS).snd).fst)) 1 ?_
  refine rx1k 3 (rpc 3 Tryz.func54 (rpad_n A1 n1 c1 l1 (by omega)) (hH.vu hV1 (by decide) hO1) hH 4 (.keep (.keep (.keep (.nil _ [])))) ?_)
  clear hH
  intro w hH
  refine ⟨pcons (hH.blk 0 rfl) (pcons (hH.blk 4 rfl) (pcons (hH.blk 3 rfl) pnil)), ?_⟩
  refine rx1k 9 (rpc 9 Tryz.func37 (rxor_c (ofs dl (fun _ => 0) q) st) trivial hH 6 (pgo [] (pgo [] (.keep (.nil _ [])))) ?_)
  clear hH
  intro w hH
  refine ⟨pcons (hH.blk 3 rfl) pnil, ?_⟩
  refine rx1k 10 (rpc 10 Tryz.func37 (rxor_c (pdB n1 (cutF l1 0)) (added (ofs dl (fun _ => 0) q) st)) trivial hH 3 (.keep (.nil _ [])) ?_)
  clear hH
  intro w hH
  refine ⟨pcons (hH.blk 3 rfl) pnil, ?_⟩
  refine rx1k 11 (rpc 11 Tryz.func50 (raes_c g gc l hk st (A15, k14, c16) (added (pdB n1 (cutF l1 0)) (added (ofs dl (fun _ => 0) q) st))) (⟨(hH.blk 0 rfl), (hH.oldBlk hR.1 hgc)⟩) hH 3 (.keep (.nil _ [])) ?_)
  clear hH
  intro w hH
  refine ⟨pcons (hH.blk 3 rfl) pnil, ?_⟩
  refine rx1k 12 (rpc 12 Tryz.func37 (rxor_c (hsW (aeE l) dl a q) (aeE l (added (pdB n1 (cutF l1 0)) (added (ofs dl (fun _ => 0) q) st)))) trivial hH 3 (pgo [] (.nil _ [])) ?_)
  clear hH
  intro w hH
  refine ⟨pnil, ?_⟩
  refine rx1k 13 ?_
  refine re0 13 3 hH rfl (.sw (cArr 16) (hsW (aeE l) dl a q) (added (hsW (aeE l) dl a q) (aeE l (added (pdB n1 (cutF l1 0)) (added (ofs dl (fun _ => 0) q) st))))) trivial (.nil _ []) ?_
  clear hH
  rintro _ _ w rfl hH
  refine ⟨pnil, ?_⟩
  refine rn ?_
  refine zr ?_
  refine zs (hH.q 3 rfl) (.ld (cArr 16) (added (hsW (aeE l) dl a q) (aeE l (added (pdB n1 (cutF l1 0)) (added (ofs dl (fun _ => 0) q) st)))) (fun _ hS => (holds_blk0 hS))) 3 ?_
  refine ze0 2 hH rfl (.sw (cArr 16) (fun _ => 0) (added (hsW (aeE l) dl a q) (aeE l (added (pdB n1 (cutF l1 0)) (added (ofs dl (fun _ => 0) q) st))))) trivial ?_
  clear hH
  rintro _ _ w rfl hH
  refine zn ?_
  refine cxRet ?_
  refine qxRetC 1 (hH.blk 2 rfl) rfl rfl (by kernel_rfl) (Cod.size _ _) (by kernel_rfl) ?_
  have e : (cArr 16).enc (added (hsW (aeE l) dl a q) (aeE l (added (pdB n1 (cutF l1 0)) (added (ofs dl (fun _ => 0) q) st)))) = (cArr 16).enc (hsL (aeE l) st dl a) := arr_congr (fun j hj => by unfold hsL; rw [if_neg (by omega), hq, show n1 = a.length % 16 by omega]; exact E16.added (E16.refl _) (aeE_E16 l (aeR_pos l) (E16.added (fun i hi => by rw [hl1, hq]; exact pd_rest hi) (E16.refl _))) j hj)
  replace hH : HH w0 (bks E) [[bl g 88 (cOb.enc ((some ⟨gc, 0, none⟩), st, (A15, k14, c16)))], EL17] w := hH.only [true, true, false, false, false]
  exact ⟨_, _, rfl, ⟨congrArg Value.agg e, ⟨k14, _, c16, _, h118, h719, rfl, hL20⟩⟩, by simpa [HH] using hH⟩
  refine cxSkip ?_
  refine qxThen ?_
  refine zr ?_
  refine zs (hH.q 2 rfl) (.ld (cArr 16) (hsW (aeE l) dl a q) (fun _ hS => (holds_blk0 hS))) 55 ?_
  refine ze0 1 hH rfl (.sw (cArr 16) (fun _ => 0) (hsW (aeE l) dl a q)) trivial ?_
  clear hH
  rintro _ _ w rfl hH
  refine zn ?_
  refine cxRet ?_
  refine qxRetC 1 (hH.blk 1 rfl) rfl rfl (by kernel_rfl) (Cod.size _ _) (by kernel_rfl) ?_
  have e : (hsW (aeE l) dl a q) = hsL (aeE l) st dl a := by unfold hsL; rw [if_pos (by omega), hq]
  exact ⟨_, _, rfl, ⟨by rw [← e]; rfl, hOb⟩, hH.out1 [true, false, false, false] rfl⟩
end Go.Proofs.YtfloiekaiiapnaaGreatDoor

namespace Go.Proofs.YtfloiekaiiapnaaGreatDoor
open Go Go.RowKit

def putsL (ss : List Nat) (cs : Array Value) : List (Nat × Value) → Array Value
  | [] => cs
  | p :: r => putsL ss (putL cs ((ss.take p.1).sum) p.2.cells.toList) r
def FitL (ss : List Nat) : List (Nat × Value) → Prop
  | [] => True
  | p :: r => (∃ s, ss[p.1]? = some s ∧ p.2.cells.size = s ∧ (ss.take p.1).sum + s ≤ ss.sum) ∧ FitL ss r
theorem fill_puts (ss : List Nat) : ∀ (ps : List (Nat × Value)) (cs : Array Value), FitL ss ps → cs.size = ss.sum → Instr.fill ((placesFrom 0 ss).toArray[·]?) cs ps = some (putsL ss cs ps)
  | [], _, _, _ => by simp [Instr.fill, putsL]
  | (i, v) :: r, cs, h, hz => by
    obtain ⟨⟨s, hs, hv, hf⟩, hr⟩ := h
    have hpl := placesFrom_get ss 0 i s hs
    rw [Nat.zero_add] at hpl
    unfold Instr.fill
    have hv' : v.cells.size = s := hv
    have hf' : (ss.take i).sum + s ≤ ss.sum := hf
    simp only [List.getElem?_toArray, hpl, hv']
    rw [if_neg (by simp; omega)]
    have hq := foldl_put v.cells.toList (ss.take i).sum cs 0
    rw [Nat.add_zero] at hq
    rw [← Array.foldl_toList, Array.toList_zipIdx, hq]
    have ih := fill_puts ss r (putL cs (ss.take i).sum v.cells.toList) hr (by rw [putL_size]; exact hz)
    simp only [List.getElem?_toArray] at ih
    rw [ih]
    rfl
theorem built_puts {P : Program} {ty : TypeId} {ps : List (Nat × Value)} {z : Array Value} (ss : List Nat) (h : structOk P ty ss = true) (hz : ((P.info? ty).bind (·.zero)).map (·.cells) = some z) (hs : FitL ss ps) : P.built ty ps = some (putsL ss z ps) := by
  unfold structOk at h
  unfold Program.built
  cases hi : P.info? ty with
  | none => rw [hi] at h; cases h
  | some it =>
    cases hu : P.underlying ty with
    | none => rw [hi, hu] at h; cases h
    | some d =>
      rw [hi, hu] at h
      rw [hi] at hz
      cases d <;> try (cases h; done)
      rename_i fields
      simp only at h ⊢
      cases hzz : it.zero with
      | none => rw [hzz] at h; cases h
      | some zv =>
        cases hp : fields.toList.mapM (fun f => (P.info? f.type).map fun i => (f.offset, i.size)) with
        | none => rw [hzz, hp] at h; cases h
        | some places =>
          rw [hzz, hp] at h
          simp only [Bool.and_eq_true, beq_iff_eq] at h
          obtain ⟨rfl, h2⟩ := h
          simp only [Option.bind_some, hzz, Option.map_some, Option.some.injEq] at hz
          subst hz
          have := fill_puts ss ps zv.cells hs (by rw [h2])
          simpa using this
/-- The first two of three parts; of four the first three. -/
theorem built_2of3 {P : Program} {ty : TypeId} {α β γ : Type} {A : Cod α} {B : Cod β} {C : Cod γ} {u v : Value} {a : α} {b : β} (a0 : α) (b0 : β) (c : γ) (h : structOk P ty [A.sz, B.sz, C.sz] = true) (hz : ((P.info? ty).bind (·.zero)).map (·.cells) = some ((cPair A (cPair B C)).enc (a0, b0, c))) (hu : A.val a = u) (hv : B.val b = v) : P.built ty [(0, u), (1, v)] = some ((cPair A (cPair B C)).enc (a, b, c)) := by
  subst hu hv
  rw [built_puts (ps := [(0, A.val a), (1, B.val b)]) [A.sz, B.sz, C.sz] h hz ⟨⟨A.sz, rfl, A.len a, by simp⟩, ⟨B.sz, rfl, B.len b, by simp⟩, trivial⟩]
  show some (putL (putL _ 0 (A.enc a).toList) (A.sz + 0) (B.enc b).toList) = _
  rw [put_fst (put_whole A a0 a) (by rw [Array.length_toList, Cod.size]; omega), put_snd (put_fst (put_whole B b0 b) (by rw [Array.length_toList, Cod.size]; omega)) (by omega)]
theorem built_1of3 {P : Program} {ty : TypeId} {α β γ : Type} {A : Cod α} {B : Cod β} {C : Cod γ} {u : Value} {a : α} (a0 : α) (b : β) (c : γ) (h : structOk P ty [A.sz, B.sz, C.sz] = true) (hz : ((P.info? ty).bind (·.zero)).map (·.cells) = some ((cPair A (cPair B C)).enc (a0, b, c))) (hu : A.val a = u) : P.built ty [(0, u)] = some ((cPair A (cPair B C)).enc (a, b, c)) := by
  subst hu
  rw [built_puts (ps := [(0, A.val a)]) [A.sz, B.sz, C.sz] h hz ⟨⟨A.sz, rfl, A.len a, by simp⟩, trivial⟩]
  show some (putL _ 0 (A.enc a).toList) = _
  rw [put_fst (put_whole A a0 a) (by rw [Array.length_toList, Cod.size]; omega)]
theorem qxRetTC {P : Program} {w : World} {t ty : TypeId} {k g : Nat} {cs : Array Value} {l : Slots} {fn : Func} {RR : Ending → World → Prop} {nn : Nat} {p u : Tmp} {v : Value} (i j : Nat) (hb : w.heap[g]? = some (.cells cs t (0, 0))) (hf : fn.results = #[.tmp u, .cell p ty]) (hi : l[i]? = some (p, .pointer (some ⟨g, 0, none⟩))) (hj : l[j]? = some (u, v)) (hdd : (P.underlying ty).map (·.isRow) = some true) (hk : cs.size = k) (hs : (P.info? ty).map (·.size) = some k) (hR : RR (.returned (.tuple #[v, .agg cs])) w) : QX (bodyPost P fn RR) .ret ⟨nn, []⟩ l w := fun a hF => by
  obtain ⟨d, hu, hdr⟩ := isRow_desc hdd
  have hp : a.tmps.getD p undef = .pointer (some ⟨g, 0, none⟩) := hF.at i hi
  have hv : a.tmps.getD u undef = v := hF.at j hj
  refine bodyPost_ret (v := .tuple #[v, .agg cs]) ?_ hF.defers hR
  have hl := run_loadVar_row (P := P) w g t ty cs (0, 0) d hb hu (by cases d <;> first | rfl | cases hdr) (by rw [hs, hk])
  simp only [Array.getD_eq_getD_getElem?] at hp hv
  simp [results, hf, hp, hv, asAddr, hl]
theorem qxRetTCT {P : Program} {w : World} {t ty : TypeId} {k g : Nat} {cs : Array Value} {l : Slots} {fn : Func} {RR : Ending → World → Prop} {nn : Nat} {p u u2 : Tmp} {v v2 : Value} (i j j2 : Nat) (hb : w.heap[g]? = some (.cells cs t (0, 0))) (hf : fn.results = #[.tmp u, .cell p ty, .tmp u2]) (hi : l[i]? = some (p, .pointer (some ⟨g, 0, none⟩))) (hj : l[j]? = some (u, v)) (hj2 : l[j2]? = some (u2, v2)) (hdd : (P.underlying ty).map (·.isRow) = some true) (hk : cs.size = k) (hs : (P.info? ty).map (·.size) = some k) (hR : RR (.returned (.tuple #[v, .agg cs, v2])) w) : QX (bodyPost P fn RR) .ret ⟨nn, []⟩ l w := fun a hF => by
  obtain ⟨d, hu, hdr⟩ := isRow_desc hdd
  have hp : a.tmps.getD p undef = .pointer (some ⟨g, 0, none⟩) := hF.at i hi
  have hv : a.tmps.getD u undef = v := hF.at j hj
  have hv2 : a.tmps.getD u2 undef = v2 := hF.at j2 hj2
  refine bodyPost_ret (v := .tuple #[v, .agg cs, v2]) ?_ hF.defers hR
  have hl := run_loadVar_row (P := P) w g t ty cs (0, 0) d hb hu (by cases d <;> first | rfl | cases hdr) (by rw [hs, hk])
  simp only [Array.getD_eq_getD_getElem?] at hp hv hv2
  simp [results, hf, hp, hv, hv2, asAddr, hl]
end Go.Proofs.YtfloiekaiiapnaaGreatDoor
