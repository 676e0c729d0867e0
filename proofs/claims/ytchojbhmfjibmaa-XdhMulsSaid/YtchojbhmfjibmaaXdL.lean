/- xdh's product: the ladder (mkxdl.py writes this text). -/
import Derived.Test.YtchojbhmfjibmaaXdS
namespace Go.Proofs.Ytchojbhmfjibmaa
open Go Go.RowKit
set_option maxRecDepth 100000

def B2 (b : Bool) : Int := if b then 1 else 0
theorem B2_xor (a b : Bool) : bits .xor .u8 (B2 a) (B2 b) = B2 (a ^^ b) := by cases a <;> cases b <;> rfl
/-- The two, in each other's place or not. -/
def sw (b : Bool) (p : (Nat → UInt8) × (Nat → UInt8) × (Nat → UInt8) × (Nat → UInt8)) : (Nat → UInt8) × (Nat → UInt8) × (Nat → UInt8) × (Nat → UInt8) := if b then (p.2.2.1, p.2.2.2, p.1, p.2.1) else p
theorem swap_c (b : Bool) (p : (Nat → UInt8) × (Nat → UInt8) × (Nat → UInt8) × (Nat → UInt8)) (w : World) : Calls Try.prog 30 #[.int .u8 (B2 b), vP p.1 p.2.1, vP p.2.2.1 p.2.2.2] w fun e w' => e = .returned (.tuple #[vP (sw b p).1 (sw b p).2.1, vP (sw b p).2.2.1 (sw b p).2.2.2]) ∧ Below w.heap.size w w' := by
  cases b
  · exact swap0_c _ _ w
  · exact swap1_c _ _ w
/-- What the places stand for. -/
def stand (p : (Nat → UInt8) × (Nat → UInt8) × (Nat → UInt8) × (Nat → UInt8)) : (Fin pF × Fin pF) × (Fin pF × Fin pF) := ((nF p.1, nF p.2.1), (nF p.2.2.1, nF p.2.2.2))
theorem bit_lv (b : Nat → UInt8) (j : Nat) (hj : j < 256) : (b (j / 8)).toNat / 2 ^ (j % 8) % 2 = lv b 32 / 2 ^ j % 2 := by
  have h := byteN_lv b 32 (j / 8) (by omega)
  rw [← h, byteN_nat]
  have e : (2 : Nat) ^ j = 256 ^ (j / 8) * 2 ^ (j % 8) := by
    rw [show (256 : Nat) = 2 ^ 8 from rfl, ← Nat.pow_mul, ← Nat.pow_add]
    congr 1; omega
  rw [e, ← Nat.div_div_eq_div_mul]
  generalize lv b 32 / 256 ^ (j / 8) = v
  have hr : j % 8 < 8 := Nat.mod_lt _ (by decide)
  generalize j % 8 = r at *
  have e2 : (256 : Nat) = 2 ^ r * (2 * 2 ^ (7 - r)) := by
    rw [show (256 : Nat) = 2 ^ 8 from rfl, ← Nat.pow_succ', ← Nat.pow_add]
    congr 1; omega
  rw [e2, Nat.mod_mul_right_div_self, Nat.mod_mul_right_mod]

def oneB : Nat → UInt8 := fun i => if i = 0 then 1 else 0
theorem nF_one : nF oneB = 1 := by decide +kernel
/-- Behind the bits above r: what the places hold, in each other's place or not. -/
def LadSt (n u : Nat → UInt8) (r : Nat) (sb : Bool) (p : (Nat → UInt8) × (Nat → UInt8) × (Nat → UInt8) × (Nat → UInt8)) : Prop :=
  stand (sw sb p) = ladTo aF (nF u) 255 (lv n 32) (255 - r) ∧ sb = (decide (r < 255) && (lv n 32 / 2 ^ r % 2 == 1))
theorem and1_B2 (x : UInt8) : bits .and .u8 (x.toNat : Int) 1 = B2 (x.toNat % 2 == 1) := u8_each (Q := fun x => bits .and .u8 (x.toNat : Int) 1 = B2 (x.toNat % 2 == 1)) (by decide +kernel) x
theorem bit_int {x : UInt8} {k v : Nat} {bt : Bool} (hb : bt = (v % 2 == 1)) (h : x.toNat / 2 ^ k % 2 = v % 2) : bits .and .u8 ((x.toNat : Int) / 2 ^ k) 1 = B2 bt := by
  have h1 : ((x.toNat : Int) / 2 ^ k) = ((x.toNat / 2 ^ k : Nat) : Int) := by rw [Int.natCast_ediv]; congr 1
  have hlt : x.toNat / 2 ^ k < 256 := Nat.lt_of_le_of_lt (Nat.div_le_self _ _) x.toNat_lt
  have h2 := and1_B2 (UInt8.ofNat (x.toNat / 2 ^ k))
  rw [UInt8.toNat_ofNat_of_lt' hlt] at h2
  rw [h1, h2, h, hb]
theorem nF_nil : nF (fun _ => 0) = 0 := by decide +kernel
theorem lad_next {n u : Nat → UInt8} {j : Nat} {sb bt : Bool} {x1 z1 x2 z2 y1 v1 y2 v2 d1 d2 a1 a2 : Nat → UInt8} (hj : j < 255) (hS : LadSt n u (j + 1) sb (x1, z1, x2, z2)) (hb : bt = (lv n 32 / 2 ^ j % 2 == 1)) (hy : sw (sb ^^ bt) (x1, z1, x2, z2) = (y1, v1, y2, v2))
    (hd : (nF d1, nF d2) = dblP (nF y1) (nF v1)) (ha : (nF a1, nF a2) = addP (nF y1) (nF v1) (nF y2) (nF v2) (nF u)) : LadSt n u j bt (d1, d2, a1, a2) := by
  refine ⟨?_, by rw [hb]; simp [hj]⟩
  obtain ⟨h1, _⟩ := hS
  have e : 255 - j = (255 - (j + 1)) + 1 := by omega
  have e2 : 255 - ((255 - (j + 1)) + 1) = j := by omega
  rw [e]
  show _ = ladStep aF (nF u) (lv n 32 / 2 ^ (255 - ((255 - (j + 1)) + 1)) % 2 == 1) (ladTo aF (nF u) 255 (lv n 32) (255 - (j + 1)))
  rw [e2, ← hb, ← h1]
  have key : ∀ X Z X' Z' : Fin pF, addP X Z X' Z' (nF u) = ladA (nF u) X Z X' Z' := fun X Z X' Z' => by
    unfold addP ladA
    refine Prod.ext ?_ ?_
    · show ((X + Z) * (X' - Z') + (X - Z) * (X' + Z')) * ((X + Z) * (X' - Z') + (X - Z) * (X' + Z')) = ((X - Z) * (X' + Z') + (X + Z) * (X' - Z')) * ((X - Z) * (X' + Z') + (X + Z) * (X' - Z'))
      generalize (X + Z) * (X' - Z') = p; generalize (X - Z) * (X' + Z') = q; grind
    · show nF u * (((X + Z) * (X' - Z') - (X - Z) * (X' + Z')) * ((X + Z) * (X' - Z') - (X - Z) * (X' + Z'))) = nF u * (((X - Z) * (X' + Z') - (X + Z) * (X' - Z')) * ((X - Z) * (X' + Z') - (X + Z) * (X' - Z')))
      generalize (X + Z) * (X' - Z') = p; generalize (X - Z) * (X' + Z') = q; generalize nF u = r; grind
  have kd : ∀ X Z : Fin pF, dblP X Z = ladD aF X Z := fun _ _ => rfl
  rw [key] at ha
  rw [kd] at hd
  cases sb <;> cases bt <;> simp only [sw, Bool.xor_false, Bool.xor_true, Bool.not_true, Bool.not_false, Bool.false_eq_true, if_false, if_true, Prod.mk.injEq] at hy <;> obtain ⟨rfl, rfl, rfl, rfl⟩ := hy
  · show ((nF d1, nF d2), (nF a1, nF a2)) = (ladD aF _ _, ladA (nF u) _ _ _ _)
    rw [hd, ha]; rfl
  · show ((nF a1, nF a2), (nF d1, nF d2)) = (ladA (nF u) _ _ _ _, ladD aF _ _)
    rw [hd, ha]; rfl
  · show ((nF d1, nF d2), (nF a1, nF a2)) = (ladD aF _ _, ladA (nF u) _ _ _ _)
    rw [hd, ha]; rfl
  · show ((nF a1, nF a2), (nF d1, nF d2)) = (ladA (nF u) _ _ _ _, ladD aF _ _)
    rw [hd, ha]; rfl
theorem lad_end {n u : Nat → UInt8} {sb : Bool} {x1 z1 x2 z2 : Nat → UInt8} (hn : lv n 32 % 2 = 0) (hS : LadSt n u 0 sb (x1, z1, x2, z2)) : xmul (lv n 32) (nF u) = nF x1 * ivF (nF z1) ∧ false = sb := by
  obtain ⟨h1, h2⟩ := hS
  rw [Nat.pow_zero, Nat.div_one, hn] at h2
  have h2 : sb = false := h2
  subst h2
  refine ⟨?_, rfl⟩
  have h1 : ((nF x1, nF z1), (nF x2, nF z2)) = ladTo aF (nF u) 255 (lv n 32) 255 := h1
  unfold xmul ladOut
  rw [← h1]
theorem lad_start (n u : Nat → UInt8) : LadSt n u 255 false (oneB, (fun _ => 0), u, oneB) := by
  refine ⟨?_, rfl⟩
  show ((nF oneB, nF fun _ => 0), (nF u, nF oneB)) = ((1, 0), (nF u, 1))
  rw [nF_one, nF_nil]
theorem built_one : Try.prog.built 22 [(0, .int .u8 1)] = some (row 32 oneB) := by kernel_rfl
theorem built_place1 (a : Nat → UInt8) : Try.prog.built 45 [(0, .agg (row 32 a))] = some (row 64 (cat a fun _ => 0)) := by kernel_rfl

set_option maxHeartbeats 4000000 in
theorem product_c (n u : Nat → UInt8) (hn : lv n 32 % 2 = 0) (w : World) : Calls Try.prog 18 #[vB n, vB u] w fun e w' => e = .returned (vB (bF (xmul (lv n 32) (nF u)))) ∧ Below w.heap.size w w' := by
  go_enter Try.func18, Try.ntmps18
  have hH := Hold.init w
  go_upto_region 1 with (first | (refine wpList_box_H hH rfl (some 2) rfl 22 _ rfl _ rfl ?_; clear hH; intro g1 w2 hH; simp only [List.nil_append] at hH) | (refine wpList_box_H hH rfl (some 3) rfl 22 _ rfl _ rfl ?_; clear hH; intro g3 w4 hH; simp only [List.nil_append, List.cons_append] at hH) | (refine wpList_alloc_H hH rfl (some 4) rfl 22 rfl _ z32B ?_; clear hH; intro g5 w6 hH; simp only [List.nil_append, List.cons_append] at hH))
  refine region_rest mixedOrders ?_
  have hH := hH.drew
  refine Rest.phaseL (PH w [] (fun _ => _) [(5, (fun D => Obj.cells (if D 7 then row 64 (cat oneB (fun _ => 0)) else row 64 (cat (fun _ => 0) (fun _ => 0))) 45 (0, 0))), (6, (fun _ => Obj.cells (row 64 (cat (fun _ => 0) (fun _ => 0))) 45 (0, 0)))]) [5, 6, 7] 8 (by kernel_rfl) (PH.start _ hH) ?_
  clear hH
  refine SeqH.next (.agg (row 32 oneB)) rfl rfl (fun π D _ => SureH.build (row 32 oneB) 22 _ rfl rfl [(0, .int .u8 1)] (by simp only [List.map_toArray, List.map_cons, List.map_nil]; rfl) built_one) ?_
  simp only [Act.put, List.setIfInBounds_toArray, List.set_cons_zero, List.set_cons_succ]
  refine SeqH.next (.agg (row 64 (cat oneB (fun _ => 0)))) rfl rfl (fun π D _ => SureH.build (row 64 (cat oneB (fun _ => 0))) 45 _ rfl rfl [(0, (.agg (row 32 oneB)))] (by simp only [List.map_toArray, List.map_cons, List.map_nil]; rfl) (built_place1 oneB)) ?_
  simp only [Act.put, List.setIfInBounds_toArray, List.set_cons_zero, List.set_cons_succ]
  refine SeqH.next (.agg (row 32 u)) rfl rfl (fun π D _ => SureH.load 1 rfl rfl 22 _ rfl rfl isRowB (sizeRow _)) ?_
  simp only [Act.put, List.setIfInBounds_toArray, List.set_cons_zero, List.set_cons_succ]
  refine SeqH.next (.agg (row 32 oneB)) rfl rfl (fun π D _ => SureH.build (row 32 oneB) 22 _ rfl rfl [(0, .int .u8 1)] (by simp only [List.map_toArray, List.map_cons, List.map_nil]; rfl) built_one) ?_
  simp only [Act.put, List.setIfInBounds_toArray, List.set_cons_zero, List.set_cons_succ]
  refine SeqH.next (.agg (row 64 (cat u oneB))) rfl rfl (fun π D _ => SureH.build (row 64 (cat u oneB)) 45 _ rfl rfl [(0, (.agg (row 32 u))), (1, (.agg (row 32 oneB)))] (by simp only [List.map_toArray, List.map_cons, List.map_nil]; rfl) (built_place u oneB)) ?_
  simp only [Act.put, List.setIfInBounds_toArray, List.set_cons_zero, List.set_cons_succ]
  refine SeqH.make rfl rfl (fun π => MakesH.alloc 45 rfl _ zeroP _ (List.Mem.head _) (fun D h => by have h := h.2 7 rfl (by kernel_rfl); (try dsimp only); rw [h]; rfl) ⟨fun _ => rfl, (List.forall_mem_cons.2 ⟨(fun _ => rfl), (List.forall_mem_cons.2 ⟨(fun _ => rfl), (List.forall_mem_nil _)⟩)⟩)⟩ (by simp) rfl) ?_
  simp only [Act.put, List.setIfInBounds_toArray, List.set_cons_zero, List.set_cons_succ]
  refine SeqH.make rfl rfl (fun π => MakesH.alloc 45 rfl _ zeroP _ (List.Mem.tail _ (List.Mem.head _)) (fun _ _ => rfl) ⟨fun _ => rfl, (List.forall_mem_cons.2 ⟨(fun _ => rfl), (List.forall_mem_cons.2 ⟨(fun _ => rfl), (List.forall_mem_nil _)⟩)⟩)⟩ (by simp) rfl) ?_
  simp only [Act.put, List.setIfInBounds_toArray, List.set_cons_zero, List.set_cons_succ]
  refine SeqH.make rfl rfl (fun π => MakesH.storeM (m := 5) (old := row 64 (cat (fun _ => 0) (fun _ => 0))) (cs := row 64 (cat oneB (fun _ => 0))) _ (List.Mem.head _) (by simp) (fun D h => h.1 5 rfl (by kernel_rfl)) (fun D h => by (try dsimp only); rw [h]; rfl) (fun D => rfl) (List.forall_mem_cons.2 ⟨(fun h => absurd rfl h), (List.forall_mem_cons.2 ⟨(fun _ _ => rfl), (List.forall_mem_nil _)⟩)⟩) (fun _ => rfl) (List.forall_mem_cons.2 ⟨(by decide), (List.forall_mem_cons.2 ⟨(by decide), (List.forall_mem_nil _)⟩)⟩) 45 _ _ rfl rfl rfl (sizeP _) (sizeEqP _ _) (row_one _ _) rfl) ?_
  simp only [Act.put]
  refine SeqH.store2 (L' := [bl g1 22 (row 32 n), bl g3 22 (row 32 u), bl g5 22 (row 32 (fun _ => 0))]) (ob := Obj.cells (row 64 (cat oneB (fun _ => 0))) 45 (0, 0)) (ob2 := Obj.cells (row 64 (cat (fun _ => 0) (fun _ => 0))) 45 (0, 0)) 4 (fun D h => by have h7 := h 7 rfl (by decide); (try dsimp only); rw [h7]; exact ⟨rfl, rfl, rfl⟩) (fun _ _ => rfl) rfl rfl (fun _ => rfl) 45 _ _ rfl (fun _ _ _ _ e => e) (fun _ => rfl) (sizeP _) (sizeEqP _ _) (row_one _ _) ?_
  intro g7 g8 π w9 pg7 pg8 hH
  simp only [pg7, pg8]
  clear pg7 pg8
  simp only [List.nil_append, List.cons_append] at hH
  simp only [List.set_cons_zero, List.set_cons_succ] at hH
  simp only [Act.put]
  refine Rest.done (by decide) ?_
  go_upto_region 3 with (fail)
  go_wp2
  go_loopw [7, 8, 9] (fun s_ i_ _ wr => ∃ (r : Nat) (sb : Bool) (x1 z1 x2 z2 : Nat → UInt8), r ≤ 255 ∧ i_ = .int .i64 ((r : Int) - 1) ∧ s_ = .int .u8 (B2 sb) ∧ Hid (LadSt n u r sb (x1, z1, x2, z2)) ∧ Hold w [] [bl g1 22 (row 32 n), bl g3 22 (row 32 u), bl g5 22 (row 32 fun _ => 0), bl g7 45 (row 64 (cat x1 z1)), bl g8 45 (row 64 (cat x2 z2))] wr) (fun _ i_ _ _ => (intOf i_ + 1).toNat)
  case atStart => exact ⟨255, false, oneB, (fun _ => 0), u, oneB, by omega, rfl, rfl, lad_start n u, hH⟩
  case round =>
    clear hH
    obtain ⟨r, sb, x1, z1, x2, z2, hr, rfl, rfl, hSt, hH⟩ := hrel
    rcases Nat.eq_zero_or_pos r with hr0 | hr0
    rotate_left 1
    · obtain ⟨j, rfl⟩ : ∃ j, r = j + 1 := ⟨r - 1, by omega⟩
      have ei : (((j + 1 : Nat) : Int) - 1) = (j : Int) := by omega
      rw [ei]
      obtain ⟨bt, hbt⟩ : ∃ bt : Bool, Hid (bt = (lv n 32 / 2 ^ j % 2 == 1)) := ⟨_, rfl⟩
      obtain ⟨q, hq⟩ : ∃ q, q = j / 8 := ⟨_, rfl⟩
      obtain ⟨k, hk⟩ : ∃ k, k = j % 8 := ⟨_, rfl⟩
      have hbit : (n q).toNat / 2 ^ k % 2 = lv n 32 / 2 ^ j % 2 := by rw [hq, hk]; exact bit_lv n j (by omega)
      have hq1 : (q : Int) < 32 := by omega
      have HQ := Lib.hid (And.intro (show (j : Int).tdiv 8 = (q : Int) by rw [Int.tdiv_eq_ediv_of_nonneg (by omega)]; omega) (And.intro (show (j : Int) / 8 = (q : Int) by omega) (show IntKind.i64.wrap (q : Int) = (q : Int) by rw [IntWalk.i64_in _ (by omega)])))
      have HR := Lib.hid (And.intro (show (j : Int).tmod 8 = (k : Int) by rw [Int.tmod_eq_emod_of_nonneg (by omega)]; omega) (And.intro (show (j : Int) % 8 = (k : Int) by omega) (show IntKind.i64.wrap (k : Int) = (k : Int) by rw [IntWalk.i64_in _ (by omega)])))
      have hk8 : k < 8 := by omega
      have HB := Lib.hid hbit
      clear hq hk hbit ei
      have c := (hH.cell 0 rfl q).trans (row_get 32 n q (by omega))
      unfold by8 at c
      have e1 := HQ.out.1; have e2 := HQ.out.2.1; have e3 := HR.out.1; have e4 := HR.out.2.1
      have eb : bits .and .u8 (((n q).toNat : Int) / 2 ^ k) 1 = B2 bt := bit_int hbt.out HB.out
      go_upto_region 7 with (fail)
      clear eb c e1 e2 e3 e4
      have ex := B2_xor sb bt
      obtain ⟨y1, v1, y2, v2, hy, cy⟩ : ∃ y1 v1 y2 v2, Hid (sw (sb ^^ bt) (x1, z1, x2, z2) = (y1, v1, y2, v2)) ∧ ∀ W, Calls Try.prog 30 #[.int .u8 (B2 (sb ^^ bt)), vP x1 z1, vP x2 z2] W fun e w' => e = .returned (.tuple #[vP y1 v1, vP y2 v2]) ∧ Below W.heap.size W w' := ⟨_, _, _, _, rfl, fun W => swap_c (sb ^^ bt) (x1, z1, x2, z2) W⟩
      go_upto_region 8 with (first | (refine wpList_load_H 3 hH rfl rfl 45 _ rfl rfl isRowP (sizeP _) ?_) | (refine wpList_load_H 4 hH rfl rfl 45 _ rfl rfl isRowP (sizeP _) ?_) | (go_at_call 30; refine (cy _).mono ?_; rintro e w5 ⟨rfl, hb⟩; have hH := hH.call hb; clear hb) | (refine wpList_store_H 3 hH rfl rfl 45 _ _ rfl rfl rfl (sizeP _) (sizeEqP _ _) (row_one _ _) ?_; clear hH; intro w6 hH; simp only [List.set_cons_zero, List.set_cons_succ] at hH) | (refine wpList_store_H 4 hH rfl rfl 45 _ _ rfl rfl rfl (sizeP _) (sizeEqP _ _) (row_one _ _) ?_; clear hH; intro w7 hH; simp only [List.set_cons_zero, List.set_cons_succ] at hH))
      clear ex cy
      obtain ⟨d1, d2, hd, cd⟩ : ∃ a1 a2, Hid ((nF a1, nF a2) = dblP (nF y1) (nF v1)) ∧ ∀ W, Calls Try.prog 31 #[vP y1 v1] W fun e w' => e = .returned (vP a1 a2) ∧ Below W.heap.size W w' := ⟨bF (dblP (nF y1) (nF v1)).1, bF (dblP (nF y1) (nF v1)).2, (by unfold Hid; rw [nF_bF, nF_bF]), fun W => twice_c y1 v1 W⟩
      obtain ⟨a1, a2, ha, ca⟩ : ∃ a1 a2, Hid ((nF a1, nF a2) = addP (nF y1) (nF v1) (nF y2) (nF v2) (nF u)) ∧ ∀ W, Calls Try.prog 32 #[vP y1 v1, vP y2 v2, vB u] W fun e w' => e = .returned (vP a1 a2) ∧ Below W.heap.size W w' := ⟨bF (addP (nF y1) (nF v1) (nF y2) (nF v2) (nF u)).1, bF (addP (nF y1) (nF v1) (nF y2) (nF v2) (nF u)).2, (by unfold Hid; rw [nF_bF, nF_bF]), fun W => xplus_c y1 v1 y2 v2 u W⟩
      refine region_rest mixedOrders ?_
      have hH := hH.drew
      refine Rest.phaseL (PH w [] (fun _ => _) []) [] 6 (by kernel_rfl) (PH.start _ hH) ?_
      clear hH
      refine SeqH.next (.agg (row 64 (cat y1 v1))) rfl rfl (fun π D _ => SureH.load 3 rfl rfl 45 _ rfl rfl isRowP (sizeP _)) ?_
      simp only [Act.put, List.setIfInBounds_toArray, List.set_cons_zero, List.set_cons_succ]
      refine SeqH.next (.agg (row 64 (cat d1 d2))) rfl rfl (fun π D _ => SureH.call cd rfl (fun w => by go_simp)) ?_
      simp only [Act.put, List.setIfInBounds_toArray, List.set_cons_zero, List.set_cons_succ]
      refine SeqH.next (.agg (row 64 (cat y1 v1))) rfl rfl (fun π D _ => SureH.load 3 rfl rfl 45 _ rfl rfl isRowP (sizeP _)) ?_
      simp only [Act.put, List.setIfInBounds_toArray, List.set_cons_zero, List.set_cons_succ]
      refine SeqH.next (.agg (row 64 (cat y2 v2))) rfl rfl (fun π D _ => SureH.load 4 rfl rfl 45 _ rfl rfl isRowP (sizeP _)) ?_
      simp only [Act.put, List.setIfInBounds_toArray, List.set_cons_zero, List.set_cons_succ]
      refine SeqH.next (.agg (row 32 u)) rfl rfl (fun π D _ => SureH.load 1 rfl rfl 22 _ rfl rfl isRowB (sizeRow _)) ?_
      simp only [Act.put, List.setIfInBounds_toArray, List.set_cons_zero, List.set_cons_succ]
      refine SeqH.next (.agg (row 64 (cat a1 a2))) rfl rfl (fun π D _ => SureH.call ca rfl (fun w => by go_simp)) ?_
      simp only [Act.put, List.setIfInBounds_toArray, List.set_cons_zero, List.set_cons_succ]
      refine SeqH.store0 3 (fun _ _ => rfl) rfl  (fun _ => rfl) 45 _ _ rfl (fun _ => rfl) (fun _ => rfl) (sizeP _) (sizeEqP _ _) (row_one _ _) ?_
      intro  π w10  hH
      simp only [List.set_cons_zero, List.set_cons_succ] at hH
      simp only [Act.put]
      refine Rest.phaseL (PH w [] (fun _ => _) []) [] 7 (by kernel_rfl) (PH.start _ hH) ?_
      clear hH
      refine SeqH.store0 4 (fun _ _ => rfl) rfl  (fun _ => rfl) 45 _ _ rfl (fun _ => rfl) (fun _ => rfl) (sizeP _) (sizeEqP _ _) (row_one _ _) ?_
      intro  π w11  hH
      simp only [List.set_cons_zero, List.set_cons_succ] at hH
      simp only [Act.put]
      refine Rest.done (by decide) ?_
      clear cd ca
      go_upto_region 9 with (fail)
      go_wp2
      go_roundw
      case rel => exact ⟨j, bt, d1, d2, a1, a2, by omega, by go_num, rfl, lad_next (by omega) hSt.out hbt.out hy.out hd.out ha.out, hH⟩
      case measure => simp [intOf]
    · subst hr0
      have ei : (((0 : Nat) : Int) - 1) = -1 := rfl
      rw [ei]; clear ei
      obtain ⟨he, rfl⟩ := lad_end hn hSt.out
      obtain ⟨z12, ez12, cz12⟩ : ∃ z, Hid (z = bF (ivF (nF z1))) ∧ ∀ W, Calls Try.prog 34 #[(.agg (row 32 z1))] W fun e w' => e = .returned (.agg (row 32 z)) ∧ Below W.heap.size W w' := ⟨_, rfl, fun W => invF_c z1 W⟩
      obtain ⟨z13, ez13, cz13⟩ : ∃ z, Hid (z = bF (nF x1 * nF z12)) ∧ ∀ W, Calls Try.prog 33 #[(.agg (row 32 x1)), (.agg (row 32 z12))] W fun e w' => e = .returned (.agg (row 32 z)) ∧ Below W.heap.size W w' := ⟨_, rfl, fun W => mulF_c x1 z12 W⟩
      have HE := Lib.hid he; clear he
      go_upto_region 10 with (fail)
      refine region_rest mixedOrders ?_
      have hH := hH.drew
      refine Rest.phaseL (PH w [] (fun _ => _) []) [] 6 (by kernel_rfl) (PH.start _ hH) ?_
      clear hH
      refine SeqH.next (.pointer (some ⟨g7, 0, none⟩)) rfl rfl (fun π D _ => SureH.pure rfl (fun w => by go_simp)) ?_
      simp only [Act.put, List.setIfInBounds_toArray, List.set_cons_zero, List.set_cons_succ]
      refine SeqH.next (.agg (row 32 x1)) rfl rfl (fun π D _ => SureH.part 3 (row 32 x1) rfl cat_x rfl 22 _ rfl rfl isRowB (sizeRow _)) ?_
      simp only [Act.put, List.setIfInBounds_toArray, List.set_cons_zero, List.set_cons_succ]
      refine SeqH.next (.pointer (some ⟨g7, 32, none⟩)) rfl rfl (fun π D _ => SureH.pure rfl (fun w => by go_simp)) ?_
      simp only [Act.put, List.setIfInBounds_toArray, List.set_cons_zero, List.set_cons_succ]
      refine SeqH.next (.agg (row 32 z1)) rfl rfl (fun π D _ => SureH.part 3 (row 32 z1) rfl cat_z rfl 22 _ rfl rfl isRowB (sizeRow _)) ?_
      simp only [Act.put, List.setIfInBounds_toArray, List.set_cons_zero, List.set_cons_succ]
      refine SeqH.next (.agg (row 32 z12)) rfl rfl (fun π D _ => SureH.call cz12 rfl (fun w => by go_simp)) ?_
      simp only [Act.put, List.setIfInBounds_toArray, List.set_cons_zero, List.set_cons_succ]
      refine SeqH.next (.agg (row 32 z13)) rfl rfl (fun π D _ => SureH.call cz13 rfl (fun w => by go_simp)) ?_
      simp only [Act.put, List.setIfInBounds_toArray, List.set_cons_zero, List.set_cons_succ]
      refine SeqH.store0 2 (fun _ _ => rfl) rfl  (fun _ => rfl) 22 _ _ rfl (fun _ => rfl) (fun _ => rfl) (sizeRow _) (sizeEq _ _) (row_one _ _) ?_
      intro  π w14  hH
      simp only [List.set_cons_zero, List.set_cons_succ] at hH
      simp only [Act.put]
      refine Rest.done (by decide) ?_
      go_wp2
      exact ret_H 2 hH rfl rfl rfl rfl isRowB (sizeRow _) ⟨by rw [ez13.out, ez12.out, nF_bF, HE.out], hH.toBelow⟩
end Go.Proofs.Ytchojbhmfjibmaa
