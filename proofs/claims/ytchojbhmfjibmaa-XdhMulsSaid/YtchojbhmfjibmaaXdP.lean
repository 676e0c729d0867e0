/- xdh's square, factor, plus, twice (mkxd.py writes this text). -/
import Derived.Test.YtchojbhmfjibmaaXdF
namespace Go.Proofs.Ytchojbhmfjibmaa
open Go Go.RowKit
set_option maxRecDepth 100000

set_option maxHeartbeats 4000000 in
theorem square_c (a : Nat → UInt8) (w : World) : Calls Try.prog 41 #[vB a] w fun e w' => e = .returned (vB (bF (nF a * nF a))) ∧ Below w.heap.size w w' := by
  obtain ⟨z1, ez1, cz1⟩ : ∃ z, Hid (z = bF (nF a * nF a)) ∧ ∀ W, Calls Try.prog 33 #[(.agg (row 32 a)), (.agg (row 32 a))] W fun e w' => e = .returned (.agg (row 32 z)) ∧ Below W.heap.size W w' := ⟨_, rfl, fun W => mulF_c a a W⟩
  go_enter Try.func41, Try.ntmps41
  have hH := Hold.init w
  go_upto_region 1 with (first | (refine wpList_box_H hH rfl (some 1) rfl 22 _ rfl _ rfl ?_; clear hH; intro g2 w3 hH; simp only [List.nil_append] at hH) | (refine wpList_alloc_H hH rfl (some 2) rfl 22 rfl _ z32B ?_; clear hH; intro g4 w5 hH; simp only [List.nil_append, List.cons_append] at hH))
  go_wp2_with (first | (refine wpList_load_H 0 hH rfl rfl 22 _ rfl rfl isRowB (sizeRow _) ?_) | (go_at_call 33; refine (cz1 _).mono ?_; rintro e w5 ⟨rfl, hb⟩; have hH := hH.call hb; clear hb) | (refine wpList_store_H 1 hH rfl rfl 22 _ _ rfl rfl rfl (sizeRow _) (sizeEq _ _) (row_one _ _) ?_; clear hH; intro w6 hH; simp only [List.set_cons_zero, List.set_cons_succ] at hH))
  exact ret_H 1 hH rfl rfl rfl rfl isRowB (sizeRow _) ⟨by rw [ez1.out], hH.toBelow⟩

/-- The sum of two, whose difference has the u. -/
def addP (X Z X' Z' u : Fin pF) : Fin pF × Fin pF := (((X + Z) * (X' - Z') + (X - Z) * (X' + Z')) * ((X + Z) * (X' - Z') + (X - Z) * (X' + Z')), u * (((X + Z) * (X' - Z') - (X - Z) * (X' + Z')) * ((X + Z) * (X' - Z') - (X - Z) * (X' + Z'))))
abbrev vP (x z : Nat → UInt8) : Value := .agg (row 64 (cat x z))
abbrev vPF (p : Fin pF × Fin pF) : Value := vP (bF p.1) (bF p.2)

set_option maxHeartbeats 4000000 in
theorem xplus_c (ax az bx bz u : Nat → UInt8) (w : World) : Calls Try.prog 32 #[vP ax az, vP bx bz, vB u] w fun e w' => e = .returned (vPF (addP (nF ax) (nF az) (nF bx) (nF bz) (nF u))) ∧ Below w.heap.size w w' := by
  obtain ⟨z1, ez1, cz1⟩ : ∃ z, Hid (z = bF (nF ax + nF az)) ∧ ∀ W, Calls Try.prog 42 #[(.agg (row 32 ax)), (.agg (row 32 az))] W fun e w' => e = .returned (.agg (row 32 z)) ∧ Below W.heap.size W w' := ⟨_, rfl, fun W => addF_c ax az W⟩
  obtain ⟨z2, ez2, cz2⟩ : ∃ z, Hid (z = bF (nF bx - nF bz)) ∧ ∀ W, Calls Try.prog 43 #[(.agg (row 32 bx)), (.agg (row 32 bz))] W fun e w' => e = .returned (.agg (row 32 z)) ∧ Below W.heap.size W w' := ⟨_, rfl, fun W => subF_c bx bz W⟩
  obtain ⟨z3, ez3, cz3⟩ : ∃ z, Hid (z = bF (nF z1 * nF z2)) ∧ ∀ W, Calls Try.prog 33 #[(.agg (row 32 z1)), (.agg (row 32 z2))] W fun e w' => e = .returned (.agg (row 32 z)) ∧ Below W.heap.size W w' := ⟨_, rfl, fun W => mulF_c z1 z2 W⟩
  obtain ⟨z4, ez4, cz4⟩ : ∃ z, Hid (z = bF (nF ax - nF az)) ∧ ∀ W, Calls Try.prog 43 #[(.agg (row 32 ax)), (.agg (row 32 az))] W fun e w' => e = .returned (.agg (row 32 z)) ∧ Below W.heap.size W w' := ⟨_, rfl, fun W => subF_c ax az W⟩
  obtain ⟨z5, ez5, cz5⟩ : ∃ z, Hid (z = bF (nF bx + nF bz)) ∧ ∀ W, Calls Try.prog 42 #[(.agg (row 32 bx)), (.agg (row 32 bz))] W fun e w' => e = .returned (.agg (row 32 z)) ∧ Below W.heap.size W w' := ⟨_, rfl, fun W => addF_c bx bz W⟩
  obtain ⟨z6, ez6, cz6⟩ : ∃ z, Hid (z = bF (nF z4 * nF z5)) ∧ ∀ W, Calls Try.prog 33 #[(.agg (row 32 z4)), (.agg (row 32 z5))] W fun e w' => e = .returned (.agg (row 32 z)) ∧ Below W.heap.size W w' := ⟨_, rfl, fun W => mulF_c z4 z5 W⟩
  obtain ⟨z7, ez7, cz7⟩ : ∃ z, Hid (z = bF (nF z3 + nF z6)) ∧ ∀ W, Calls Try.prog 42 #[(.agg (row 32 z3)), (.agg (row 32 z6))] W fun e w' => e = .returned (.agg (row 32 z)) ∧ Below W.heap.size W w' := ⟨_, rfl, fun W => addF_c z3 z6 W⟩
  obtain ⟨z8, ez8, cz8⟩ : ∃ z, Hid (z = bF (nF z7 * nF z7)) ∧ ∀ W, Calls Try.prog 41 #[(.agg (row 32 z7))] W fun e w' => e = .returned (.agg (row 32 z)) ∧ Below W.heap.size W w' := ⟨_, rfl, fun W => square_c z7 W⟩
  obtain ⟨z9, ez9, cz9⟩ : ∃ z, Hid (z = bF (nF z3 - nF z6)) ∧ ∀ W, Calls Try.prog 43 #[(.agg (row 32 z3)), (.agg (row 32 z6))] W fun e w' => e = .returned (.agg (row 32 z)) ∧ Below W.heap.size W w' := ⟨_, rfl, fun W => subF_c z3 z6 W⟩
  obtain ⟨z10, ez10, cz10⟩ : ∃ z, Hid (z = bF (nF z9 * nF z9)) ∧ ∀ W, Calls Try.prog 41 #[(.agg (row 32 z9))] W fun e w' => e = .returned (.agg (row 32 z)) ∧ Below W.heap.size W w' := ⟨_, rfl, fun W => square_c z9 W⟩
  obtain ⟨z11, ez11, cz11⟩ : ∃ z, Hid (z = bF (nF u * nF z10)) ∧ ∀ W, Calls Try.prog 33 #[(.agg (row 32 u)), (.agg (row 32 z10))] W fun e w' => e = .returned (.agg (row 32 z)) ∧ Below W.heap.size W w' := ⟨_, rfl, fun W => mulF_c u z10 W⟩
  go_enter Try.func32, Try.ntmps32
  have hH := Hold.init w
  go_upto_region 1 with (first | (refine wpList_box_H hH rfl (some 3) rfl 45 _ rfl _ rfl ?_; clear hH; intro g12 w13 hH; simp only [List.nil_append] at hH) | (refine wpList_box_H hH rfl (some 4) rfl 45 _ rfl _ rfl ?_; clear hH; intro g14 w15 hH; simp only [List.nil_append, List.cons_append] at hH) | (refine wpList_box_H hH rfl (some 5) rfl 22 _ rfl _ rfl ?_; clear hH; intro g16 w17 hH; simp only [List.nil_append, List.cons_append] at hH) | (refine wpList_alloc_H hH rfl (some 6) rfl 45 rfl _ zeroP ?_; clear hH; intro g18 w19 hH; simp only [List.nil_append, List.cons_append] at hH))
  refine region_rest mixedOrders ?_
  have hH := hH.drew
  refine Rest.phaseL (PH w [] (fun _ => _) [(11, (fun _ => Obj.cells (row 32 (fun _ => 0)) 22 (0, 0)))]) [11] 12 (by kernel_rfl) (PH.start _ hH) ?_
  clear hH
  refine SeqH.next (.pointer (some ⟨g12, 0, none⟩)) rfl rfl (fun π D _ => SureH.pure rfl (fun w => by go_simp)) ?_
  simp only [Act.put, List.setIfInBounds_toArray, List.set_cons_zero, List.set_cons_succ]
  refine SeqH.next (.agg (row 32 ax)) rfl rfl (fun π D _ => SureH.part 0 (row 32 ax) rfl cat_x rfl 22 _ rfl rfl isRowB (sizeRow _)) ?_
  simp only [Act.put, List.setIfInBounds_toArray, List.set_cons_zero, List.set_cons_succ]
  refine SeqH.next (.pointer (some ⟨g12, 32, none⟩)) rfl rfl (fun π D _ => SureH.pure rfl (fun w => by go_simp)) ?_
  simp only [Act.put, List.setIfInBounds_toArray, List.set_cons_zero, List.set_cons_succ]
  refine SeqH.next (.agg (row 32 az)) rfl rfl (fun π D _ => SureH.part 0 (row 32 az) rfl cat_z rfl 22 _ rfl rfl isRowB (sizeRow _)) ?_
  simp only [Act.put, List.setIfInBounds_toArray, List.set_cons_zero, List.set_cons_succ]
  refine SeqH.next (.agg (row 32 z1)) rfl rfl (fun π D _ => SureH.call cz1 rfl (fun w => by go_simp)) ?_
  simp only [Act.put, List.setIfInBounds_toArray, List.set_cons_zero, List.set_cons_succ]
  refine SeqH.next (.pointer (some ⟨g14, 0, none⟩)) rfl rfl (fun π D _ => SureH.pure rfl (fun w => by go_simp)) ?_
  simp only [Act.put, List.setIfInBounds_toArray, List.set_cons_zero, List.set_cons_succ]
  refine SeqH.next (.agg (row 32 bx)) rfl rfl (fun π D _ => SureH.part 1 (row 32 bx) rfl cat_x rfl 22 _ rfl rfl isRowB (sizeRow _)) ?_
  simp only [Act.put, List.setIfInBounds_toArray, List.set_cons_zero, List.set_cons_succ]
  refine SeqH.next (.pointer (some ⟨g14, 32, none⟩)) rfl rfl (fun π D _ => SureH.pure rfl (fun w => by go_simp)) ?_
  simp only [Act.put, List.setIfInBounds_toArray, List.set_cons_zero, List.set_cons_succ]
  refine SeqH.next (.agg (row 32 bz)) rfl rfl (fun π D _ => SureH.part 1 (row 32 bz) rfl cat_z rfl 22 _ rfl rfl isRowB (sizeRow _)) ?_
  simp only [Act.put, List.setIfInBounds_toArray, List.set_cons_zero, List.set_cons_succ]
  refine SeqH.next (.agg (row 32 z2)) rfl rfl (fun π D _ => SureH.call cz2 rfl (fun w => by go_simp)) ?_
  simp only [Act.put, List.setIfInBounds_toArray, List.set_cons_zero, List.set_cons_succ]
  refine SeqH.next (.agg (row 32 z3)) rfl rfl (fun π D _ => SureH.call cz3 rfl (fun w => by go_simp)) ?_
  simp only [Act.put, List.setIfInBounds_toArray, List.set_cons_zero, List.set_cons_succ]
  refine SeqH.make rfl rfl (fun π => MakesH.alloc 22 rfl _ z32B _ (List.Mem.head _) (fun _ _ => rfl) ⟨fun _ => rfl, (List.forall_mem_cons.2 ⟨(fun _ => rfl), (List.forall_mem_nil _)⟩)⟩ (by simp) rfl) ?_
  simp only [Act.put, List.setIfInBounds_toArray, List.set_cons_zero, List.set_cons_succ]
  refine SeqH.store1 4 (fun _ _ => ⟨rfl, rfl⟩) (fun _ => rfl) rfl (fun _ => rfl) 22 _ _ rfl (fun _ _ e => e) (fun _ => rfl) (sizeRow _) (sizeEq _ _) (row_one _ _) ?_
  intro g20 π w21 pg20 hH
  simp only [pg20]
  clear pg20
  simp only [List.nil_append, List.cons_append] at hH
  simp only [List.set_cons_zero, List.set_cons_succ] at hH
  simp only [Act.put]
  refine Rest.done (by decide) ?_
  go_upto_region 2 with (fail)
  refine region_rest mixedOrders ?_
  have hH := hH.drew
  refine Rest.phaseL (PH w [] (fun _ => _) [(11, (fun _ => Obj.cells (row 32 (fun _ => 0)) 22 (0, 0)))]) [11] 12 (by kernel_rfl) (PH.start _ hH) ?_
  clear hH
  refine SeqH.next (.pointer (some ⟨g12, 0, none⟩)) rfl rfl (fun π D _ => SureH.pure rfl (fun w => by go_simp)) ?_
  simp only [Act.put, List.setIfInBounds_toArray, List.set_cons_zero, List.set_cons_succ]
  refine SeqH.next (.agg (row 32 ax)) rfl rfl (fun π D _ => SureH.part 0 (row 32 ax) rfl cat_x rfl 22 _ rfl rfl isRowB (sizeRow _)) ?_
  simp only [Act.put, List.setIfInBounds_toArray, List.set_cons_zero, List.set_cons_succ]
  refine SeqH.next (.pointer (some ⟨g12, 32, none⟩)) rfl rfl (fun π D _ => SureH.pure rfl (fun w => by go_simp)) ?_
  simp only [Act.put, List.setIfInBounds_toArray, List.set_cons_zero, List.set_cons_succ]
  refine SeqH.next (.agg (row 32 az)) rfl rfl (fun π D _ => SureH.part 0 (row 32 az) rfl cat_z rfl 22 _ rfl rfl isRowB (sizeRow _)) ?_
  simp only [Act.put, List.setIfInBounds_toArray, List.set_cons_zero, List.set_cons_succ]
  refine SeqH.next (.agg (row 32 z4)) rfl rfl (fun π D _ => SureH.call cz4 rfl (fun w => by go_simp)) ?_
  simp only [Act.put, List.setIfInBounds_toArray, List.set_cons_zero, List.set_cons_succ]
  refine SeqH.next (.pointer (some ⟨g14, 0, none⟩)) rfl rfl (fun π D _ => SureH.pure rfl (fun w => by go_simp)) ?_
  simp only [Act.put, List.setIfInBounds_toArray, List.set_cons_zero, List.set_cons_succ]
  refine SeqH.next (.agg (row 32 bx)) rfl rfl (fun π D _ => SureH.part 1 (row 32 bx) rfl cat_x rfl 22 _ rfl rfl isRowB (sizeRow _)) ?_
  simp only [Act.put, List.setIfInBounds_toArray, List.set_cons_zero, List.set_cons_succ]
  refine SeqH.next (.pointer (some ⟨g14, 32, none⟩)) rfl rfl (fun π D _ => SureH.pure rfl (fun w => by go_simp)) ?_
  simp only [Act.put, List.setIfInBounds_toArray, List.set_cons_zero, List.set_cons_succ]
  refine SeqH.next (.agg (row 32 bz)) rfl rfl (fun π D _ => SureH.part 1 (row 32 bz) rfl cat_z rfl 22 _ rfl rfl isRowB (sizeRow _)) ?_
  simp only [Act.put, List.setIfInBounds_toArray, List.set_cons_zero, List.set_cons_succ]
  refine SeqH.next (.agg (row 32 z5)) rfl rfl (fun π D _ => SureH.call cz5 rfl (fun w => by go_simp)) ?_
  simp only [Act.put, List.setIfInBounds_toArray, List.set_cons_zero, List.set_cons_succ]
  refine SeqH.next (.agg (row 32 z6)) rfl rfl (fun π D _ => SureH.call cz6 rfl (fun w => by go_simp)) ?_
  simp only [Act.put, List.setIfInBounds_toArray, List.set_cons_zero, List.set_cons_succ]
  refine SeqH.make rfl rfl (fun π => MakesH.alloc 22 rfl _ z32B _ (List.Mem.head _) (fun _ _ => rfl) ⟨fun _ => rfl, (List.forall_mem_cons.2 ⟨(fun _ => rfl), (List.forall_mem_nil _)⟩)⟩ (by simp) rfl) ?_
  simp only [Act.put, List.setIfInBounds_toArray, List.set_cons_zero, List.set_cons_succ]
  refine SeqH.store1 5 (fun _ _ => ⟨rfl, rfl⟩) (fun _ => rfl) rfl (fun _ => rfl) 22 _ _ rfl (fun _ _ e => e) (fun _ => rfl) (sizeRow _) (sizeEq _ _) (row_one _ _) ?_
  intro g22 π w23 pg22 hH
  simp only [pg22]
  clear pg22
  simp only [List.nil_append, List.cons_append] at hH
  simp only [List.set_cons_zero, List.set_cons_succ] at hH
  simp only [Act.put]
  refine Rest.done (by decide) ?_
  go_upto_region 3 with (fail)
  refine region_rest mixedOrders ?_
  have hH := hH.drew
  refine Rest.phaseL (PH w [] (fun _ => _) []) [] 11 (by kernel_rfl) (PH.start _ hH) ?_
  clear hH
  refine SeqH.next (.agg (row 32 z3)) rfl rfl (fun π D _ => SureH.load 4 rfl rfl 22 _ rfl rfl isRowB (sizeRow _)) ?_
  simp only [Act.put, List.setIfInBounds_toArray, List.set_cons_zero, List.set_cons_succ]
  refine SeqH.next (.agg (row 32 z6)) rfl rfl (fun π D _ => SureH.load 5 rfl rfl 22 _ rfl rfl isRowB (sizeRow _)) ?_
  simp only [Act.put, List.setIfInBounds_toArray, List.set_cons_zero, List.set_cons_succ]
  refine SeqH.next (.agg (row 32 z7)) rfl rfl (fun π D _ => SureH.call cz7 rfl (fun w => by go_simp)) ?_
  simp only [Act.put, List.setIfInBounds_toArray, List.set_cons_zero, List.set_cons_succ]
  refine SeqH.next (.agg (row 32 z8)) rfl rfl (fun π D _ => SureH.call cz8 rfl (fun w => by go_simp)) ?_
  simp only [Act.put, List.setIfInBounds_toArray, List.set_cons_zero, List.set_cons_succ]
  refine SeqH.next (.agg (row 32 u)) rfl rfl (fun π D _ => SureH.load 2 rfl rfl 22 _ rfl rfl isRowB (sizeRow _)) ?_
  simp only [Act.put, List.setIfInBounds_toArray, List.set_cons_zero, List.set_cons_succ]
  refine SeqH.next (.agg (row 32 z3)) rfl rfl (fun π D _ => SureH.load 4 rfl rfl 22 _ rfl rfl isRowB (sizeRow _)) ?_
  simp only [Act.put, List.setIfInBounds_toArray, List.set_cons_zero, List.set_cons_succ]
  refine SeqH.next (.agg (row 32 z6)) rfl rfl (fun π D _ => SureH.load 5 rfl rfl 22 _ rfl rfl isRowB (sizeRow _)) ?_
  simp only [Act.put, List.setIfInBounds_toArray, List.set_cons_zero, List.set_cons_succ]
  refine SeqH.next (.agg (row 32 z9)) rfl rfl (fun π D _ => SureH.call cz9 rfl (fun w => by go_simp)) ?_
  simp only [Act.put, List.setIfInBounds_toArray, List.set_cons_zero, List.set_cons_succ]
  refine SeqH.next (.agg (row 32 z10)) rfl rfl (fun π D _ => SureH.call cz10 rfl (fun w => by go_simp)) ?_
  simp only [Act.put, List.setIfInBounds_toArray, List.set_cons_zero, List.set_cons_succ]
  refine SeqH.next (.agg (row 32 z11)) rfl rfl (fun π D _ => SureH.call cz11 rfl (fun w => by go_simp)) ?_
  simp only [Act.put, List.setIfInBounds_toArray, List.set_cons_zero, List.set_cons_succ]
  refine SeqH.next (.agg (row 64 (cat z8 z11))) rfl rfl (fun π D _ => SureH.build (row 64 (cat z8 z11)) 45 _ rfl rfl [(0, (.agg (row 32 z8))), (1, (.agg (row 32 z11)))] (by simp only [List.map_toArray, List.map_cons, List.map_nil]; rfl) (built_place z8 z11)) ?_
  simp only [Act.put, List.setIfInBounds_toArray, List.set_cons_zero, List.set_cons_succ]
  refine SeqH.store0 3 (fun _ _ => rfl) rfl  (fun _ => rfl) 45 _ _ rfl (fun _ => rfl) (fun _ => rfl) (sizeP _) (sizeEqP _ _) (row_one _ _) ?_
  intro  π w24  hH
  simp only [List.set_cons_zero, List.set_cons_succ] at hH
  simp only [Act.put]
  refine Rest.done (by decide) ?_
  go_wp2
  exact ret_H 3 hH rfl rfl rfl rfl isRowP (sizeP _) ⟨by rw [ez8.out, ez11.out, ez10.out, ez9.out, ez7.out, ez6.out, ez3.out, ez1.out, ez2.out, ez4.out, ez5.out]; simp only [nF_bF]; rfl, hH.toBelow⟩

set_option maxHeartbeats 4000000 in
theorem factor_c  (w : World) : Calls Try.prog 44 #[] w fun e w' => e = .returned (vB facB) ∧ Below w.heap.size w w' := by
  go_enter Try.func44, Try.ntmps44
  have hH := Hold.init w
  go_upto_region 1 with (first | (refine wpList_alloc_H hH rfl (some 0) rfl 22 rfl _ z32B ?_; clear hH; intro g1 w2 hH; simp only [List.nil_append] at hH))
  go_wp2_with (first | (refine wpList_build rfl 22 _ rfl (row 32 facB) [(0, .int .u8 65), (1, .int .u8 219), (2, .int .u8 1)] (by simp only [List.map_toArray, List.map_cons, List.map_nil]; rfl) built_fac ?_) | (refine wpList_store_H 0 hH rfl rfl 22 _ _ rfl rfl rfl (sizeRow _) (sizeEq _ _) (row_one _ _) ?_; clear hH; intro w3 hH; simp only [List.set_cons_zero] at hH))
  exact ret_H 0 hH rfl rfl rfl rfl isRowB (sizeRow _) ⟨rfl, hH.toBelow⟩

/-- Twice a point. -/
def dblP (X Z : Fin pF) : Fin pF × Fin pF := ((X + Z) * (X + Z) * ((X - Z) * (X - Z)), ((X + Z) * (X + Z) - (X - Z) * (X - Z)) * ((X + Z) * (X + Z) + aF * ((X + Z) * (X + Z) - (X - Z) * (X - Z))))

set_option maxHeartbeats 4000000 in
theorem twice_c (ax az : Nat → UInt8) (w : World) : Calls Try.prog 31 #[vP ax az] w fun e w' => e = .returned (vPF (dblP (nF ax) (nF az))) ∧ Below w.heap.size w w' := by
  obtain ⟨z1, ez1, cz1⟩ : ∃ z, Hid (z = bF (nF ax + nF az)) ∧ ∀ W, Calls Try.prog 42 #[(.agg (row 32 ax)), (.agg (row 32 az))] W fun e w' => e = .returned (.agg (row 32 z)) ∧ Below W.heap.size W w' := ⟨_, rfl, fun W => addF_c ax az W⟩
  obtain ⟨z2, ez2, cz2⟩ : ∃ z, Hid (z = bF (nF z1 * nF z1)) ∧ ∀ W, Calls Try.prog 41 #[(.agg (row 32 z1))] W fun e w' => e = .returned (.agg (row 32 z)) ∧ Below W.heap.size W w' := ⟨_, rfl, fun W => square_c z1 W⟩
  obtain ⟨z3, ez3, cz3⟩ : ∃ z, Hid (z = bF (nF ax - nF az)) ∧ ∀ W, Calls Try.prog 43 #[(.agg (row 32 ax)), (.agg (row 32 az))] W fun e w' => e = .returned (.agg (row 32 z)) ∧ Below W.heap.size W w' := ⟨_, rfl, fun W => subF_c ax az W⟩
  obtain ⟨z4, ez4, cz4⟩ : ∃ z, Hid (z = bF (nF z3 * nF z3)) ∧ ∀ W, Calls Try.prog 41 #[(.agg (row 32 z3))] W fun e w' => e = .returned (.agg (row 32 z)) ∧ Below W.heap.size W w' := ⟨_, rfl, fun W => square_c z3 W⟩
  obtain ⟨z5, ez5, cz5⟩ : ∃ z, Hid (z = bF (nF z2 - nF z4)) ∧ ∀ W, Calls Try.prog 43 #[(.agg (row 32 z2)), (.agg (row 32 z4))] W fun e w' => e = .returned (.agg (row 32 z)) ∧ Below W.heap.size W w' := ⟨_, rfl, fun W => subF_c z2 z4 W⟩
  obtain ⟨z6, ez6, cz6⟩ : ∃ z, Hid (z = bF (nF z2 * nF z4)) ∧ ∀ W, Calls Try.prog 33 #[(.agg (row 32 z2)), (.agg (row 32 z4))] W fun e w' => e = .returned (.agg (row 32 z)) ∧ Below W.heap.size W w' := ⟨_, rfl, fun W => mulF_c z2 z4 W⟩
  have cf := fun W => factor_c W
  obtain ⟨z7, ez7, cz7⟩ : ∃ z, Hid (z = bF (nF facB * nF z5)) ∧ ∀ W, Calls Try.prog 33 #[(.agg (row 32 facB)), (.agg (row 32 z5))] W fun e w' => e = .returned (.agg (row 32 z)) ∧ Below W.heap.size W w' := ⟨_, rfl, fun W => mulF_c facB z5 W⟩
  obtain ⟨z8, ez8, cz8⟩ : ∃ z, Hid (z = bF (nF z2 + nF z7)) ∧ ∀ W, Calls Try.prog 42 #[(.agg (row 32 z2)), (.agg (row 32 z7))] W fun e w' => e = .returned (.agg (row 32 z)) ∧ Below W.heap.size W w' := ⟨_, rfl, fun W => addF_c z2 z7 W⟩
  obtain ⟨z9, ez9, cz9⟩ : ∃ z, Hid (z = bF (nF z5 * nF z8)) ∧ ∀ W, Calls Try.prog 33 #[(.agg (row 32 z5)), (.agg (row 32 z8))] W fun e w' => e = .returned (.agg (row 32 z)) ∧ Below W.heap.size W w' := ⟨_, rfl, fun W => mulF_c z5 z8 W⟩
  go_enter Try.func31, Try.ntmps31
  have hH := Hold.init w
  go_upto_region 1 with (first | (refine wpList_box_H hH rfl (some 1) rfl 45 _ rfl _ rfl ?_; clear hH; intro g10 w11 hH; simp only [List.nil_append] at hH) | (refine wpList_alloc_H hH rfl (some 2) rfl 45 rfl _ zeroP ?_; clear hH; intro g12 w13 hH; simp only [List.nil_append, List.cons_append] at hH))
  refine region_rest mixedOrders ?_
  have hH := hH.drew
  refine Rest.phaseL (PH w [] (fun _ => _) [(12, (fun _ => Obj.cells (row 32 (fun _ => 0)) 22 (0, 0))), (13, (fun _ => Obj.cells (row 32 (fun _ => 0)) 22 (0, 0)))]) [12, 13] 14 (by kernel_rfl) (PH.start _ hH) ?_
  clear hH
  refine SeqH.next (.pointer (some ⟨g10, 0, none⟩)) rfl rfl (fun π D _ => SureH.pure rfl (fun w => by go_simp)) ?_
  simp only [Act.put, List.setIfInBounds_toArray, List.set_cons_zero, List.set_cons_succ]
  refine SeqH.next (.agg (row 32 ax)) rfl rfl (fun π D _ => SureH.part 0 (row 32 ax) rfl cat_x rfl 22 _ rfl rfl isRowB (sizeRow _)) ?_
  simp only [Act.put, List.setIfInBounds_toArray, List.set_cons_zero, List.set_cons_succ]
  refine SeqH.next (.pointer (some ⟨g10, 32, none⟩)) rfl rfl (fun π D _ => SureH.pure rfl (fun w => by go_simp)) ?_
  simp only [Act.put, List.setIfInBounds_toArray, List.set_cons_zero, List.set_cons_succ]
  refine SeqH.next (.agg (row 32 az)) rfl rfl (fun π D _ => SureH.part 0 (row 32 az) rfl cat_z rfl 22 _ rfl rfl isRowB (sizeRow _)) ?_
  simp only [Act.put, List.setIfInBounds_toArray, List.set_cons_zero, List.set_cons_succ]
  refine SeqH.next (.agg (row 32 z1)) rfl rfl (fun π D _ => SureH.call cz1 rfl (fun w => by go_simp)) ?_
  simp only [Act.put, List.setIfInBounds_toArray, List.set_cons_zero, List.set_cons_succ]
  refine SeqH.next (.agg (row 32 z2)) rfl rfl (fun π D _ => SureH.call cz2 rfl (fun w => by go_simp)) ?_
  simp only [Act.put, List.setIfInBounds_toArray, List.set_cons_zero, List.set_cons_succ]
  refine SeqH.next (.pointer (some ⟨g10, 0, none⟩)) rfl rfl (fun π D _ => SureH.pure rfl (fun w => by go_simp)) ?_
  simp only [Act.put, List.setIfInBounds_toArray, List.set_cons_zero, List.set_cons_succ]
  refine SeqH.next (.agg (row 32 ax)) rfl rfl (fun π D _ => SureH.part 0 (row 32 ax) rfl cat_x rfl 22 _ rfl rfl isRowB (sizeRow _)) ?_
  simp only [Act.put, List.setIfInBounds_toArray, List.set_cons_zero, List.set_cons_succ]
  refine SeqH.next (.pointer (some ⟨g10, 32, none⟩)) rfl rfl (fun π D _ => SureH.pure rfl (fun w => by go_simp)) ?_
  simp only [Act.put, List.setIfInBounds_toArray, List.set_cons_zero, List.set_cons_succ]
  refine SeqH.next (.agg (row 32 az)) rfl rfl (fun π D _ => SureH.part 0 (row 32 az) rfl cat_z rfl 22 _ rfl rfl isRowB (sizeRow _)) ?_
  simp only [Act.put, List.setIfInBounds_toArray, List.set_cons_zero, List.set_cons_succ]
  refine SeqH.next (.agg (row 32 z3)) rfl rfl (fun π D _ => SureH.call cz3 rfl (fun w => by go_simp)) ?_
  simp only [Act.put, List.setIfInBounds_toArray, List.set_cons_zero, List.set_cons_succ]
  refine SeqH.next (.agg (row 32 z4)) rfl rfl (fun π D _ => SureH.call cz4 rfl (fun w => by go_simp)) ?_
  simp only [Act.put, List.setIfInBounds_toArray, List.set_cons_zero, List.set_cons_succ]
  refine SeqH.make rfl rfl (fun π => MakesH.alloc 22 rfl _ z32B _ (List.Mem.head _) (fun _ _ => rfl) ⟨fun _ => rfl, (List.forall_mem_cons.2 ⟨(fun _ => rfl), (List.forall_mem_cons.2 ⟨(fun _ => rfl), (List.forall_mem_nil _)⟩)⟩)⟩ (by simp) rfl) ?_
  simp only [Act.put, List.setIfInBounds_toArray, List.set_cons_zero, List.set_cons_succ]
  refine SeqH.make rfl rfl (fun π => MakesH.alloc 22 rfl _ z32B _ (List.Mem.tail _ (List.Mem.head _)) (fun _ _ => rfl) ⟨fun _ => rfl, (List.forall_mem_cons.2 ⟨(fun _ => rfl), (List.forall_mem_cons.2 ⟨(fun _ => rfl), (List.forall_mem_nil _)⟩)⟩)⟩ (by simp) rfl) ?_
  simp only [Act.put, List.setIfInBounds_toArray, List.set_cons_zero, List.set_cons_succ]
  refine SeqH.store2 2 (fun _ _ => ⟨rfl, rfl, rfl⟩) (fun _ _ => rfl) rfl rfl (fun _ => rfl) 22 _ _ rfl (fun _ _ _ e _ => e) (fun _ => rfl) (sizeRow _) (sizeEq _ _) (row_one _ _) ?_
  intro g14 g15 π w16 pg14 pg15 hH
  simp only [pg14, pg15]
  clear pg14 pg15
  simp only [List.nil_append, List.cons_append] at hH
  simp only [List.set_cons_zero, List.set_cons_succ] at hH
  simp only [Act.put]
  refine Rest.phaseL (PH w [] (fun _ => _) []) [] 15 (by kernel_rfl) (PH.start _ hH) ?_
  clear hH
  refine SeqH.store0 3 (fun _ _ => rfl) rfl  (fun _ => rfl) 22 _ _ rfl (fun _ => rfl) (fun _ => rfl) (sizeRow _) (sizeEq _ _) (row_one _ _) ?_
  intro  π w17  hH
  simp only [List.set_cons_zero, List.set_cons_succ] at hH
  simp only [Act.put]
  refine Rest.done (by decide) ?_
  go_upto_region 3 with (first | (refine wpList_load_H 2 hH rfl rfl 22 _ rfl rfl isRowB (sizeRow _) ?_) | (refine wpList_load_H 3 hH rfl rfl 22 _ rfl rfl isRowB (sizeRow _) ?_) | (go_at_call 43; refine (cz5 _).mono ?_; rintro e w5 ⟨rfl, hb⟩; have hH := hH.call hb; clear hb) | (refine wpList_alloc_H hH rfl (some 5) rfl 22 rfl _ z32B ?_; clear hH; intro g18 w19 hH; simp only [List.nil_append, List.cons_append] at hH) | (refine wpList_store_H 4 hH rfl rfl 22 _ _ rfl rfl rfl (sizeRow _) (sizeEq _ _) (row_one _ _) ?_; clear hH; intro w20 hH; simp only [List.set_cons_zero, List.set_cons_succ] at hH))
  refine region_rest mixedOrders ?_
  have hH := hH.drew
  refine Rest.phaseL (PH w [] (fun _ => _) []) [] 11 (by kernel_rfl) (PH.start _ hH) ?_
  clear hH
  refine SeqH.next (.agg (row 32 z2)) rfl rfl (fun π D _ => SureH.load 2 rfl rfl 22 _ rfl rfl isRowB (sizeRow _)) ?_
  simp only [Act.put, List.setIfInBounds_toArray, List.set_cons_zero, List.set_cons_succ]
  refine SeqH.next (.agg (row 32 z4)) rfl rfl (fun π D _ => SureH.load 3 rfl rfl 22 _ rfl rfl isRowB (sizeRow _)) ?_
  simp only [Act.put, List.setIfInBounds_toArray, List.set_cons_zero, List.set_cons_succ]
  refine SeqH.next (.agg (row 32 z6)) rfl rfl (fun π D _ => SureH.call cz6 rfl (fun w => by go_simp)) ?_
  simp only [Act.put, List.setIfInBounds_toArray, List.set_cons_zero, List.set_cons_succ]
  refine SeqH.next (.agg (row 32 z5)) rfl rfl (fun π D _ => SureH.load 4 rfl rfl 22 _ rfl rfl isRowB (sizeRow _)) ?_
  simp only [Act.put, List.setIfInBounds_toArray, List.set_cons_zero, List.set_cons_succ]
  refine SeqH.next (.agg (row 32 z2)) rfl rfl (fun π D _ => SureH.load 2 rfl rfl 22 _ rfl rfl isRowB (sizeRow _)) ?_
  simp only [Act.put, List.setIfInBounds_toArray, List.set_cons_zero, List.set_cons_succ]
  refine SeqH.next (.agg (row 32 facB)) rfl rfl (fun π D _ => SureH.call cf rfl (fun w => by go_simp)) ?_
  simp only [Act.put, List.setIfInBounds_toArray, List.set_cons_zero, List.set_cons_succ]
  refine SeqH.next (.agg (row 32 z5)) rfl rfl (fun π D _ => SureH.load 4 rfl rfl 22 _ rfl rfl isRowB (sizeRow _)) ?_
  simp only [Act.put, List.setIfInBounds_toArray, List.set_cons_zero, List.set_cons_succ]
  refine SeqH.next (.agg (row 32 z7)) rfl rfl (fun π D _ => SureH.call cz7 rfl (fun w => by go_simp)) ?_
  simp only [Act.put, List.setIfInBounds_toArray, List.set_cons_zero, List.set_cons_succ]
  refine SeqH.next (.agg (row 32 z8)) rfl rfl (fun π D _ => SureH.call cz8 rfl (fun w => by go_simp)) ?_
  simp only [Act.put, List.setIfInBounds_toArray, List.set_cons_zero, List.set_cons_succ]
  refine SeqH.next (.agg (row 32 z9)) rfl rfl (fun π D _ => SureH.call cz9 rfl (fun w => by go_simp)) ?_
  simp only [Act.put, List.setIfInBounds_toArray, List.set_cons_zero, List.set_cons_succ]
  refine SeqH.next (.agg (row 64 (cat z6 z9))) rfl rfl (fun π D _ => SureH.build (row 64 (cat z6 z9)) 45 _ rfl rfl [(0, (.agg (row 32 z6))), (1, (.agg (row 32 z9)))] (by simp only [List.map_toArray, List.map_cons, List.map_nil]; rfl) (built_place z6 z9)) ?_
  simp only [Act.put, List.setIfInBounds_toArray, List.set_cons_zero, List.set_cons_succ]
  refine SeqH.store0 1 (fun _ _ => rfl) rfl  (fun _ => rfl) 45 _ _ rfl (fun _ => rfl) (fun _ => rfl) (sizeP _) (sizeEqP _ _) (row_one _ _) ?_
  intro  π w21  hH
  simp only [List.set_cons_zero, List.set_cons_succ] at hH
  simp only [Act.put]
  refine Rest.done (by decide) ?_
  go_wp2
  exact ret_H 1 hH rfl rfl rfl rfl isRowP (sizeP _) ⟨by rw [ez6.out, ez9.out, ez8.out, ez7.out, ez5.out, ez2.out, ez4.out, ez1.out, ez3.out]; simp only [nF_bF, nF_fac]; rfl, hH.toBelow⟩
end Go.Proofs.Ytchojbhmfjibmaa
