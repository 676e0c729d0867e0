/- Keys wrapped: Wrap of package aes. -/
import Derived.Test.YtcpfiimbobijlaaDoorWLeaf
import Derived.Laws.Cover3
namespace Go.Proofs.YtcpfiimbobijlaaDoor
open Go Go.RowKit
set_option maxRecDepth 100000

/-- The parts, behind the place for A. -/
def outF (P : Nat → UInt8) : Nat → UInt8 := fun j => if j < 8 then 0 else P (j - 8)
theorem outF_cpy (P D : Nat → UInt8) (at_ i : Nat) : cpy (8 + at_) 8 (outF P) D i = outF (cpy at_ 8 P D) i := by
  show (if 8 + at_ ≤ i ∧ i < 8 + at_ + 8 then D (i - (8 + at_)) else if i < 8 then 0 else P (i - 8)) = (if i < 8 then 0 else if at_ ≤ i - 8 ∧ i - 8 < at_ + 8 then D (i - 8 - at_) else P (i - 8))
  by_cases e : i < 8
  · rw [if_neg (by omega), if_pos e, if_pos e]
  · rw [if_neg e, if_neg e]
    by_cases e2 : 8 + at_ ≤ i ∧ i < 8 + at_ + 8
    · rw [if_pos e2, if_pos (by omega), show i - (8 + at_) = i - 8 - at_ by omega]
    · rw [if_neg e2, if_neg (by omega)]
/-- What Wrap leaves: m + 8 bytes in a block of its own. -/
def Wrapped (m : Nat) (A P : Nat → UInt8) (w : World) (e : Ending) (w' : World) : Prop :=
  ∃ g, e = .returned (.tuple #[.slice (some ⟨g, 0, none⟩) (8 + m) (8 + m), .int .i64 0]) ∧ w.heap.size ≤ g ∧ Row w' g 5 (8 + m) (bothF A P) ∧ Below w.heap.size w w'

/-- While it is wrapped: the box, the keys, A, the parts. -/
def WrapS (w0 : World) (gk r1 ga go m : Nat) (s W A P : Nat → UInt8) (w' : World) : Prop :=
  Row w' 0 48 256 s ∧ Row w' gk 23 (16 * r1) W ∧ Row w' ga 53 8 A ∧ Row w' go 5 (8 + m) (outF P) ∧ Below w0.heap.size w0 w' ∧ w0.heap.size ≤ ga ∧ w0.heap.size ≤ go ∧ w0.heap.size ≤ gk ∧ 0 < w0.heap.size ∧ ga ≠ go ∧ gk ≠ ga ∧ gk ≠ go
theorem WrapS.below {w0 w1 w2 : World} {gk r1 ga go m : Nat} {s W A P : Nat → UInt8} (h : WrapS w0 gk r1 ga go m s W A P w1) (hb : Below w1.heap.size w1 w2) : WrapS w0 gk r1 ga go m s W A P w2 := by
  obtain ⟨h1, h2, h3, h4, h5, h6⟩ := h
  exact ⟨h1.below hb h1.lt, h2.below hb h2.lt, h3.below hb h3.lt, h4.below hb h4.lt, h5.trans (hb.mono h5.size), h6⟩
theorem WrapS.alloc {w0 w1 : World} {gk r1 ga go m : Nat} {s W A P : Nat → UInt8} (h : WrapS w0 gk r1 ga go m s W A P w1) (o : Obj) : WrapS w0 gk r1 ga go m s W A P (w1.alloc o) := by
  obtain ⟨h1, h2, h3, h4, h5, h6⟩ := h
  exact ⟨h1.alloc _, h2.alloc _, h3.alloc _, h4.alloc _, h5.alloc h5.size _, h6⟩
theorem WrapS.far {w0 w1 : World} {gk r1 ga go m : Nat} {s W A P : Nat → UInt8} (h : WrapS w0 gk r1 ga go m s W A P w1) {k : Nat} (hk : w1.heap.size ≤ k) (cs : Array Value) {o : Obj} : WrapS w0 gk r1 ga go m s W A P ((w1.alloc o).setRow k cs) := by
  obtain ⟨h1, h2, h3, h4, h5, h6⟩ := h.alloc o
  have l1 := h.1.lt
  have l2 := h.2.1.lt
  have l3 := h.2.2.1.lt
  have l4 := h.2.2.2.1.lt
  have l5 := h.2.2.2.2.1.size
  exact ⟨h1.setRow_far (by omega) _, h2.setRow_far (by omega) _, h3.setRow_far (by omega) _, h4.setRow_far (by omega) _, below_setRow8 h5 (by omega) _, h6⟩
theorem WrapS.putA {w0 w1 : World} {gk r1 ga go m : Nat} {s W A P : Nat → UInt8} (h : WrapS w0 gk r1 ga go m s W A P w1) (A' : Nat → UInt8) : WrapS w0 gk r1 ga go m s W A' P (w1.setRow ga (row 8 A')) := by
  obtain ⟨h1, h2, h3, h4, h5, h6, h7, h8, h9, ha, hb, hc⟩ := h
  exact ⟨h1.setRow_far (by omega) _, h2.setRow_far (by omega) _, h3.setRow _, h4.setRow_far (by omega) _, below_setRow8 h5 (by omega) _, h6, h7, h8, h9, ha, hb, hc⟩
theorem WrapS.putP {w0 w1 : World} {gk r1 ga go m : Nat} {s W A P : Nat → UInt8} (h : WrapS w0 gk r1 ga go m s W A P w1) (at_ : Nat) (D : Nat → UInt8) :
    WrapS w0 gk r1 ga go m s W A (cpy at_ 8 P D) (w1.setRow go (row (8 + m) (cpy (8 + at_) 8 (outF P) D))) := by
  obtain ⟨h1, h2, h3, h4, h5, h6, h7, h8, h9, ha, hb, hc⟩ := h
  exact ⟨h1.setRow_far (by omega) _, h2.setRow_far (by omega) _, h3.setRow_far (by omega) _, (h4.setRow _).congr fun i _ => outF_cpy P D at_ i, below_setRow8 h5 (by omega) _, h6, h7, h8, h9, ha, hb, hc⟩

theorem new_at2 (w : World) (o : Obj) (k : Nat) (cs : Array Value) (t : TypeId) (n : Nat) (f : Nat → UInt8) : Row (((w.alloc o).setRow k cs).alloc (.cells (row n f) t)) (w.heap.size + 1) t n f := by
  have h := Row.new ((w.alloc o).setRow k cs) t n f
  simpa only [size_setRow, World.size_alloc] using h

theorem at_ok (t m : Nat) (hm : m % 8 = 0) (h0 : 0 < m) : t * 8 % m + 8 ≤ m := by
  obtain ⟨q, rfl⟩ : ∃ q, m = 8 * q := ⟨m / 8, by omega⟩
  rw [Nat.mul_comm t 8, Nat.mul_mod_mul_left]
  have := Nat.mod_lt t (show 0 < q by omega)
  omega

set_option maxRecDepth 100000 in
set_option maxHeartbeats 8000000 in
theorem Wrap16 (s key W dat : Nat → UInt8) (b off c b1 o1 m c1 : Nat) (w : World) (hs : Row w 0 48 256 s) (hkey : ∀ j, j < 16 → w.cell? ⟨b, off + j, none⟩ = some (.int .u8 ((key j).toNat : Int)))
    (hW : Sched s 4 key W) (hm1 : 16 ≤ m) (hm2 : m ≤ 128) (hm3 : m % 8 = 0) (hdat : ∀ j, j < m → w.cell? ⟨b1, o1 + j, none⟩ = some (.int .u8 ((dat j).toNat : Int))) :
    Calls Tryd.prog 18 #[.slice (some ⟨b, off, none⟩) 16 c, .slice (some ⟨b1, o1, none⟩) m c1] w
      (Wrapped m (wrapR (enc s 10 W) m (fun _ => 166) dat (6 * (m / 8))).1 (wrapR (enc s 10 W) m (fun _ => 166) dat (6 * (m / 8))).2 w) := by
  have hz0 := hs.lt
  have hb0 : b1 < w.heap.size := block_lt_of_cell (hdat 0 (by omega))
  have hmk : ∀ w : World, (Instr.makeSlice 22 (.int .i64 (8 + (m : Int))) (.int .i64 (8 + (m : Int)))).run Tryd.prog w = .ok (.slice (some ⟨w.heap.size, 0, none⟩) (8 + m) (8 + m)) (w.alloc (.cells (row (8 + m) fun _ => 0) 5)) := fun w => by
    have h := run_make_Row (P := Tryd.prog) 22 5 (8 + m) 1 1 undB info8 (by omega) (by omega) (by omega) w
    rw [Nat.mul_one] at h
    exact h
  obtain ⟨E, hE⟩ : ∃ E : (Nat → UInt8) → Nat → UInt8, E = enc s 10 W := ⟨_, rfl⟩
  rw [← hE]
  have HE := Lib.hid hE
  clear hE
  obtain ⟨N, hN⟩ : ∃ N, N = 6 * (m / 8) := ⟨_, rfl⟩
  have hN96 : N ≤ 96 := by omega
  have hNi : 6 * ((m : Int) / 8) = (N : Int) := by omega
  rw [← hN]
  have HN := Lib.hid hNi
  clear hN hNi
  have HM3 := Lib.hid hm3
  clear hm3
  go_enter Tryd.func18, Tryd.ntmps18
  go_wp2_with (first | (go_at_call 27; refine (isKey16 _ _ _).mono ?_; rintro e w' ⟨rfl, hw⟩; have hw := hw.symm; subst hw) | (go_at_call 35; refine (may_yes m _ hm1 hm2 HM3.out).mono ?_; rintro e w' ⟨rfl, hw⟩; have hw := hw.symm; subst hw))
  refine (roundKeys4 s key W b off c w hs hkey hW).mono ?_
  rintro e w1 ⟨gk, he, hgk, hrk, hb1⟩
  simp only [Nat.reduceAdd, Nat.reduceMul] at he hrk
  subst he
  have hs1 := hs.below hb1 hz0
  clear hs hkey hW
  go_wp2_with (fail)
  refine (start_c w1).mono ?_
  rintro e w2 ⟨rfl, hb2⟩
  have hs2 := hs1.below hb2 hs1.lt
  have hrk2 := hrk.below hb2 hrk.lt
  have hbel2 := hb1.trans (hb2.mono hb1.size)
  have hlk := hrk2.lt
  clear hb1 hb2 hs1 hrk
  go_wp2_with (first | (refine wpList_alloc_Row rfl 53 rfl 8 zeroA ?_) | (refine wpList_store_Row rfl 53 _ _ rfl _ rfl 53 8 (fun _ => 0) _ rfl (Row.new _ _ _ _) sizeA ?_) | (refine wpList_copy_Row rfl _ _ 22 22 rfl 5 undB size8 (w2.heap.size + 1) 8 m m ⟨b1, o1, none⟩ m c1 rfl rfl 5 (8 + m) _ (new_at2 w2 _ _ _ _ _ _) m dat (by simp) (fun j hj => by rw [Addr.add_mid]; exact (((below_setRow8 (hbel2.alloc hbel2.size _) hbel2.size _).alloc (by have := hbel2.size; simp; omega) _).cell (p := ⟨b1, o1 + j, none⟩) hb0).trans (hdat j hj)) (by omega) ?_))
  clear hmk
  have hS : WrapS w gk 11 w2.heap.size (w2.heap.size + 1) m s W (fun _ => 166) dat ((((w2.alloc (.cells (row 8 fun _ => 0) 53)).setRow w2.heap.size (row 8 fun _ => 166)).alloc (.cells (row (8 + m) fun _ => 0) 5)).setRow (w2.heap.size + 1) (row (8 + m) (cpy 8 m (fun _ => 0) dat))) := by
    have hsz := hbel2.size
    have l1 := hs2.lt
    refine ⟨(((hs2.alloc _).setRow_far (by omega) _).alloc _).setRow_far (by omega) _, (((hrk2.alloc _).setRow_far (by omega) _).alloc _).setRow_far (by omega) _,
      (((Row.new w2 53 8 (fun _ => 0)).setRow (fun _ => 166)).alloc _).setRow_far (by omega) _, ((new_at2 w2 _ _ _ _ _ _).setRow _).congr fun i hi => ?_,
      below_setRow8 ((below_setRow8 (hbel2.alloc hsz _) hsz _).alloc (by simp; omega) _) (by omega) _, hsz, by omega, hgk, hz0, by omega, by omega, by omega⟩
    unfold cpy outF
    by_cases e : i < 8
    · rw [if_neg (by omega), if_pos e]
    · rw [if_pos (by omega), if_neg e]
  clear hs2 hrk2 hdat
  revert hS
  generalize ((((w2.alloc (.cells (row 8 fun _ => 0) 53)).setRow w2.heap.size (row 8 fun _ => 166)).alloc (.cells (row (8 + m) fun _ => 0) 5)).setRow (w2.heap.size + 1) (row (8 + m) (cpy 8 m (fun _ => 0) dat))) = w3
  generalize w2.heap.size = ga at *
  intro hS
  clear hbel2
  go_loopw [10] (fun i wr => ∃ t : Nat, t ≤ N ∧ i = .int .i64 ((t : Int) + 1) ∧ WrapS w gk 11 ga (ga + 1) m s W (wrapR E m (fun _ => 166) dat t).1 (wrapR E m (fun _ => 166) dat t).2 wr) (fun i _ => N + 1 - (intOf i).toNat)
  case atStart => exact ⟨0, by omega, rfl, hS⟩
  case round =>
    obtain ⟨t, ht, rfl, hSt⟩ := hrel
    clear hS
    obtain ⟨A, hA⟩ : ∃ A : Nat → UInt8, A = (wrapR E m (fun _ => 166) dat t).1 := ⟨_, rfl⟩
    obtain ⟨P, hP⟩ : ∃ P : Nat → UInt8, P = (wrapR E m (fun _ => 166) dat t).2 := ⟨_, rfl⟩
    rw [← hA, ← hP] at hSt
    have HA := Lib.hid hA
    have HP := Lib.hid hP
    clear hA hP
    by_cases hlt : t < N
    · go_wp2_with (go_at_call 37; refine (steps_c _ m _ _ (by omega)).mono ?_; rintro e w' ⟨rfl, hw⟩; have hw := hw.symm; subst hw; rw [HN.out])
      obtain ⟨at_, hat⟩ : ∃ at_, at_ = t * 8 % m := ⟨_, rfl⟩
      have h8 : at_ + 8 ≤ m := by rw [hat]; exact at_ok t m HM3.out (by omega)
      have HAT := Lib.hid hat
      clear hat
      refine (partOf_c (ga + 1) 8 m m (t + 1) at_ wr (by omega) (by omega) (by omega) (by omega) (Nat.le_refl _) (by omega) (by rw [Nat.add_sub_cancel]; exact HAT.out.symm) h8).mono ?_
      rintro e w4 ⟨rfl, hw⟩
      have hw := hw.symm
      subst hw
      go_wp2_with (refine wpList_load_Row rfl 53 _ rfl ga rfl 53 8 A _ hSt.2.2.1 undA sizeA ?_)
      refine (both_c A (fun j => P (at_ + j)) (ga + 1) (8 + at_) (m - at_) wr (fun j hj => ?_)).mono ?_
      · rw [hSt.2.2.2.1.cell (8 + at_ + j) (by omega)]
        unfold outF
        rw [if_neg (by omega), show 8 + at_ + j - 8 = at_ + j by omega]
      rintro e w4 ⟨rfl, hb4⟩
      have hS4 := hSt.below hb4
      clear hSt hb4
      go_wp2_with (fail)
      have hc := encrypt_c s W (bothF A fun j => P (at_ + j)) gk 9 w4 (by omega) hS4.1 hS4.2.1
      rw [show enc s (9 + 1) W = E from HE.out.symm] at hc
      refine hc.mono ?_
      rintro e w5 ⟨rfl, hb5⟩
      have hS5 := hS4.below hb5
      clear hS4 hb5 hc
      obtain ⟨B, hB⟩ : ∃ B : Nat → UInt8, B = E (bothF A fun j => P (at_ + j)) := ⟨_, rfl⟩
      rw [← hB]
      have HB := Lib.hid hB
      clear hB
      have har : ∀ w' : World, (Instr.arrayAt 53 (.slice (some ⟨w5.heap.size, 0, none⟩) 8 16)).run Tryd.prog w' = .ok (.pointer (some ⟨w5.heap.size, 0, none⟩)) w' := fun w' => run_arrayAt w' 53 _ 8 _ _ _ undA (by omega)
      go_wp2_with (first | (refine wpList_alloc_Row rfl 23 rfl 16 zero16z ?_) | (refine wpList_store_Row rfl 23 _ _ rfl _ rfl 23 16 (fun _ => 0) _ rfl (Row.new _ _ _ _) size16 ?_) | (refine wpList_load_Mid rfl 53 _ rfl w5.heap.size 0 rfl 23 16 8 _ _ ((Row.new _ _ _ _).setRow _) (by omega) undA sizeA ?_))
      have hlt5 : ga + 1 < w5.heap.size := hS5.2.2.2.1.lt
      have hgb := (Row.new w5 23 16 (fun _ => 0)).setRow B
      have hS6 := hS5.far (Nat.le_refl _) (row 16 B) (o := .cells (row 16 fun _ => 0) 23)
      clear hS5 har
      revert hgb hS6
      generalize (w5.alloc (.cells (row 16 fun _ => 0) 23)).setRow w5.heap.size (row 16 B) = w6
      generalize w5.heap.size = gb at *
      intro hgb hS6
      refine (counted_c B (t + 1) w6 (by omega)).mono ?_
      rintro e w7 ⟨rfl, hb7⟩
      have hS7 := hS6.below hb7
      have hgb7 := hgb.below hb7 hgb.lt
      clear hS6 hgb hb7
      go_wp2_with (first | (refine wpList_store_Row rfl 53 _ _ rfl ga rfl 53 8 A _ rfl hS7.2.2.1 sizeA ?_) | (refine wpList_copy_Row rfl _ _ 22 22 rfl 5 undB size8 (ga + 1) (8 + at_) 8 (m - at_) ⟨gb, 8, none⟩ 8 8 rfl rfl 5 (8 + m) _ (hS7.putA _).2.2.2.1 8 (fun j => B (8 + j)) (by decide) (fun j hj => by rw [Addr.add_mid]; exact (hgb7.setRow_far (by omega) _).cell (8 + j) (by omega)) (by omega) ?_))
      have hS8 := (hS7.putA (countF B (t + 1))).putP at_ (fun j => B (8 + j))
      have e1 : (wrapR E m (fun _ => 166) dat (t + 1)).1 = countF B (t + 1) := by rw [HB.out, HAT.out, HA.out, HP.out]; rfl
      have e2 : (wrapR E m (fun _ => 166) dat (t + 1)).2 = cpy at_ 8 P (fun j => B (8 + j)) := by rw [HB.out, HAT.out, HA.out, HP.out]; rfl
      have H8 := Lib.hid hS8
      have HE1 := Lib.hid e1
      have HE2 := Lib.hid e2
      clear hS7 hgb7 hS8 e1 e2
      go_roundw
      case rel => exact ⟨t + 1, by omega, by go_num, by rw [HE1.out, HE2.out]; exact H8.out⟩
      case measure => simp [intOf]; omega
    · obtain rfl : t = N := by omega
      go_wp2_with (first | (go_at_call 37; refine (steps_c _ m _ _ (by omega)).mono ?_; rintro e w' ⟨rfl, hw⟩; have hw := hw.symm; subst hw; rw [HN.out]) | (refine wpList_copy_Row rfl _ _ 22 22 rfl 5 undB size8 (ga + 1) 0 (8 + m) (8 + m) ⟨ga, 0, none⟩ 8 8 rfl rfl 5 (8 + m) _ hSt.2.2.2.1 8 A (by have : Nat.min 8 (8 + m) = 8 := Nat.min_eq_left (by omega); omega) (fun j hj => by rw [Addr.add_mid, Nat.zero_add]; exact hSt.2.2.1.cell j hj) (by omega) ?_))
      go_ret2
      refine ⟨ga + 1, rfl, by have := hSt.2.2.2.2.2.1; omega, (hSt.2.2.2.1.setRow _).congr fun i _ => ?_, below_setRow8 hSt.2.2.2.2.1 (by have := hSt.2.2.2.2.2.1; omega) _⟩
      rw [← HA.out, ← HP.out]
      show (if 0 ≤ i ∧ i < 0 + 8 then A (i - 0) else if i < 8 then 0 else P (i - 8)) = (if i < 8 then A i else P (i - 8))
      by_cases h : i < 8
      · rw [if_pos (by omega), if_pos h]; rfl
      · rw [if_neg (by omega), if_neg h, if_neg h]

set_option maxRecDepth 100000 in
set_option maxHeartbeats 8000000 in
theorem Wrap32 (s key W dat : Nat → UInt8) (b off c b1 o1 m c1 : Nat) (w : World) (hs : Row w 0 48 256 s) (hkey : ∀ j, j < 32 → w.cell? ⟨b, off + j, none⟩ = some (.int .u8 ((key j).toNat : Int)))
    (hW : Sched s 8 key W) (hm1 : 16 ≤ m) (hm2 : m ≤ 128) (hm3 : m % 8 = 0) (hdat : ∀ j, j < m → w.cell? ⟨b1, o1 + j, none⟩ = some (.int .u8 ((dat j).toNat : Int))) :
    Calls Tryd.prog 18 #[.slice (some ⟨b, off, none⟩) 32 c, .slice (some ⟨b1, o1, none⟩) m c1] w
      (Wrapped m (wrapR (enc s 14 W) m (fun _ => 166) dat (6 * (m / 8))).1 (wrapR (enc s 14 W) m (fun _ => 166) dat (6 * (m / 8))).2 w) := by
  have hz0 := hs.lt
  have hb0 : b1 < w.heap.size := block_lt_of_cell (hdat 0 (by omega))
  have hmk : ∀ w : World, (Instr.makeSlice 22 (.int .i64 (8 + (m : Int))) (.int .i64 (8 + (m : Int)))).run Tryd.prog w = .ok (.slice (some ⟨w.heap.size, 0, none⟩) (8 + m) (8 + m)) (w.alloc (.cells (row (8 + m) fun _ => 0) 5)) := fun w => by
    have h := run_make_Row (P := Tryd.prog) 22 5 (8 + m) 1 1 undB info8 (by omega) (by omega) (by omega) w
    rw [Nat.mul_one] at h
    exact h
  obtain ⟨E, hE⟩ : ∃ E : (Nat → UInt8) → Nat → UInt8, E = enc s 14 W := ⟨_, rfl⟩
  rw [← hE]
  have HE := Lib.hid hE
  clear hE
  obtain ⟨N, hN⟩ : ∃ N, N = 6 * (m / 8) := ⟨_, rfl⟩
  have hN96 : N ≤ 96 := by omega
  have hNi : 6 * ((m : Int) / 8) = (N : Int) := by omega
  rw [← hN]
  have HN := Lib.hid hNi
  clear hN hNi
  have HM3 := Lib.hid hm3
  clear hm3
  go_enter Tryd.func18, Tryd.ntmps18
  go_wp2_with (first | (go_at_call 27; refine (isKey32 _ _ _).mono ?_; rintro e w' ⟨rfl, hw⟩; have hw := hw.symm; subst hw) | (go_at_call 35; refine (may_yes m _ hm1 hm2 HM3.out).mono ?_; rintro e w' ⟨rfl, hw⟩; have hw := hw.symm; subst hw))
  refine (roundKeys8 s key W b off c w hs hkey hW).mono ?_
  rintro e w1 ⟨gk, he, hgk, hrk, hb1⟩
  simp only [Nat.reduceAdd, Nat.reduceMul] at he hrk
  subst he
  have hs1 := hs.below hb1 hz0
  clear hs hkey hW
  go_wp2_with (fail)
  refine (start_c w1).mono ?_
  rintro e w2 ⟨rfl, hb2⟩
  have hs2 := hs1.below hb2 hs1.lt
  have hrk2 := hrk.below hb2 hrk.lt
  have hbel2 := hb1.trans (hb2.mono hb1.size)
  have hlk := hrk2.lt
  clear hb1 hb2 hs1 hrk
  go_wp2_with (first | (refine wpList_alloc_Row rfl 53 rfl 8 zeroA ?_) | (refine wpList_store_Row rfl 53 _ _ rfl _ rfl 53 8 (fun _ => 0) _ rfl (Row.new _ _ _ _) sizeA ?_) | (refine wpList_copy_Row rfl _ _ 22 22 rfl 5 undB size8 (w2.heap.size + 1) 8 m m ⟨b1, o1, none⟩ m c1 rfl rfl 5 (8 + m) _ (new_at2 w2 _ _ _ _ _ _) m dat (by simp) (fun j hj => by rw [Addr.add_mid]; exact (((below_setRow8 (hbel2.alloc hbel2.size _) hbel2.size _).alloc (by have := hbel2.size; simp; omega) _).cell (p := ⟨b1, o1 + j, none⟩) hb0).trans (hdat j hj)) (by omega) ?_))
  clear hmk
  have hS : WrapS w gk 15 w2.heap.size (w2.heap.size + 1) m s W (fun _ => 166) dat ((((w2.alloc (.cells (row 8 fun _ => 0) 53)).setRow w2.heap.size (row 8 fun _ => 166)).alloc (.cells (row (8 + m) fun _ => 0) 5)).setRow (w2.heap.size + 1) (row (8 + m) (cpy 8 m (fun _ => 0) dat))) := by
    have hsz := hbel2.size
    have l1 := hs2.lt
    refine ⟨(((hs2.alloc _).setRow_far (by omega) _).alloc _).setRow_far (by omega) _, (((hrk2.alloc _).setRow_far (by omega) _).alloc _).setRow_far (by omega) _,
      (((Row.new w2 53 8 (fun _ => 0)).setRow (fun _ => 166)).alloc _).setRow_far (by omega) _, ((new_at2 w2 _ _ _ _ _ _).setRow _).congr fun i hi => ?_,
      below_setRow8 ((below_setRow8 (hbel2.alloc hsz _) hsz _).alloc (by simp; omega) _) (by omega) _, hsz, by omega, hgk, hz0, by omega, by omega, by omega⟩
    unfold cpy outF
    by_cases e : i < 8
    · rw [if_neg (by omega), if_pos e]
    · rw [if_pos (by omega), if_neg e]
  clear hs2 hrk2 hdat
  revert hS
  generalize ((((w2.alloc (.cells (row 8 fun _ => 0) 53)).setRow w2.heap.size (row 8 fun _ => 166)).alloc (.cells (row (8 + m) fun _ => 0) 5)).setRow (w2.heap.size + 1) (row (8 + m) (cpy 8 m (fun _ => 0) dat))) = w3
  generalize w2.heap.size = ga at *
  intro hS
  clear hbel2
  go_loopw [10] (fun i wr => ∃ t : Nat, t ≤ N ∧ i = .int .i64 ((t : Int) + 1) ∧ WrapS w gk 15 ga (ga + 1) m s W (wrapR E m (fun _ => 166) dat t).1 (wrapR E m (fun _ => 166) dat t).2 wr) (fun i _ => N + 1 - (intOf i).toNat)
  case atStart => exact ⟨0, by omega, rfl, hS⟩
  case round =>
    obtain ⟨t, ht, rfl, hSt⟩ := hrel
    clear hS
    obtain ⟨A, hA⟩ : ∃ A : Nat → UInt8, A = (wrapR E m (fun _ => 166) dat t).1 := ⟨_, rfl⟩
    obtain ⟨P, hP⟩ : ∃ P : Nat → UInt8, P = (wrapR E m (fun _ => 166) dat t).2 := ⟨_, rfl⟩
    rw [← hA, ← hP] at hSt
    have HA := Lib.hid hA
    have HP := Lib.hid hP
    clear hA hP
    by_cases hlt : t < N
    · go_wp2_with (go_at_call 37; refine (steps_c _ m _ _ (by omega)).mono ?_; rintro e w' ⟨rfl, hw⟩; have hw := hw.symm; subst hw; rw [HN.out])
      obtain ⟨at_, hat⟩ : ∃ at_, at_ = t * 8 % m := ⟨_, rfl⟩
      have h8 : at_ + 8 ≤ m := by rw [hat]; exact at_ok t m HM3.out (by omega)
      have HAT := Lib.hid hat
      clear hat
      refine (partOf_c (ga + 1) 8 m m (t + 1) at_ wr (by omega) (by omega) (by omega) (by omega) (Nat.le_refl _) (by omega) (by rw [Nat.add_sub_cancel]; exact HAT.out.symm) h8).mono ?_
      rintro e w4 ⟨rfl, hw⟩
      have hw := hw.symm
      subst hw
      go_wp2_with (refine wpList_load_Row rfl 53 _ rfl ga rfl 53 8 A _ hSt.2.2.1 undA sizeA ?_)
      refine (both_c A (fun j => P (at_ + j)) (ga + 1) (8 + at_) (m - at_) wr (fun j hj => ?_)).mono ?_
      · rw [hSt.2.2.2.1.cell (8 + at_ + j) (by omega)]
        unfold outF
        rw [if_neg (by omega), show 8 + at_ + j - 8 = at_ + j by omega]
      rintro e w4 ⟨rfl, hb4⟩
      have hS4 := hSt.below hb4
      clear hSt hb4
      go_wp2_with (fail)
      have hc := encrypt_c s W (bothF A fun j => P (at_ + j)) gk 13 w4 (by omega) hS4.1 hS4.2.1
      rw [show enc s (13 + 1) W = E from HE.out.symm] at hc
      refine hc.mono ?_
      rintro e w5 ⟨rfl, hb5⟩
      have hS5 := hS4.below hb5
      clear hS4 hb5 hc
      obtain ⟨B, hB⟩ : ∃ B : Nat → UInt8, B = E (bothF A fun j => P (at_ + j)) := ⟨_, rfl⟩
      rw [← hB]
      have HB := Lib.hid hB
      clear hB
      have har : ∀ w' : World, (Instr.arrayAt 53 (.slice (some ⟨w5.heap.size, 0, none⟩) 8 16)).run Tryd.prog w' = .ok (.pointer (some ⟨w5.heap.size, 0, none⟩)) w' := fun w' => run_arrayAt w' 53 _ 8 _ _ _ undA (by omega)
      go_wp2_with (first | (refine wpList_alloc_Row rfl 23 rfl 16 zero16z ?_) | (refine wpList_store_Row rfl 23 _ _ rfl _ rfl 23 16 (fun _ => 0) _ rfl (Row.new _ _ _ _) size16 ?_) | (refine wpList_load_Mid rfl 53 _ rfl w5.heap.size 0 rfl 23 16 8 _ _ ((Row.new _ _ _ _).setRow _) (by omega) undA sizeA ?_))
      have hlt5 : ga + 1 < w5.heap.size := hS5.2.2.2.1.lt
      have hgb := (Row.new w5 23 16 (fun _ => 0)).setRow B
      have hS6 := hS5.far (Nat.le_refl _) (row 16 B) (o := .cells (row 16 fun _ => 0) 23)
      clear hS5 har
      revert hgb hS6
      generalize (w5.alloc (.cells (row 16 fun _ => 0) 23)).setRow w5.heap.size (row 16 B) = w6
      generalize w5.heap.size = gb at *
      intro hgb hS6
      refine (counted_c B (t + 1) w6 (by omega)).mono ?_
      rintro e w7 ⟨rfl, hb7⟩
      have hS7 := hS6.below hb7
      have hgb7 := hgb.below hb7 hgb.lt
      clear hS6 hgb hb7
      go_wp2_with (first | (refine wpList_store_Row rfl 53 _ _ rfl ga rfl 53 8 A _ rfl hS7.2.2.1 sizeA ?_) | (refine wpList_copy_Row rfl _ _ 22 22 rfl 5 undB size8 (ga + 1) (8 + at_) 8 (m - at_) ⟨gb, 8, none⟩ 8 8 rfl rfl 5 (8 + m) _ (hS7.putA _).2.2.2.1 8 (fun j => B (8 + j)) (by decide) (fun j hj => by rw [Addr.add_mid]; exact (hgb7.setRow_far (by omega) _).cell (8 + j) (by omega)) (by omega) ?_))
      have hS8 := (hS7.putA (countF B (t + 1))).putP at_ (fun j => B (8 + j))
      have e1 : (wrapR E m (fun _ => 166) dat (t + 1)).1 = countF B (t + 1) := by rw [HB.out, HAT.out, HA.out, HP.out]; rfl
      have e2 : (wrapR E m (fun _ => 166) dat (t + 1)).2 = cpy at_ 8 P (fun j => B (8 + j)) := by rw [HB.out, HAT.out, HA.out, HP.out]; rfl
      have H8 := Lib.hid hS8
      have HE1 := Lib.hid e1
      have HE2 := Lib.hid e2
      clear hS7 hgb7 hS8 e1 e2
      go_roundw
      case rel => exact ⟨t + 1, by omega, by go_num, by rw [HE1.out, HE2.out]; exact H8.out⟩
      case measure => simp [intOf]; omega
    · obtain rfl : t = N := by omega
      go_wp2_with (first | (go_at_call 37; refine (steps_c _ m _ _ (by omega)).mono ?_; rintro e w' ⟨rfl, hw⟩; have hw := hw.symm; subst hw; rw [HN.out]) | (refine wpList_copy_Row rfl _ _ 22 22 rfl 5 undB size8 (ga + 1) 0 (8 + m) (8 + m) ⟨ga, 0, none⟩ 8 8 rfl rfl 5 (8 + m) _ hSt.2.2.2.1 8 A (by have : Nat.min 8 (8 + m) = 8 := Nat.min_eq_left (by omega); omega) (fun j hj => by rw [Addr.add_mid, Nat.zero_add]; exact hSt.2.2.1.cell j hj) (by omega) ?_))
      go_ret2
      refine ⟨ga + 1, rfl, by have := hSt.2.2.2.2.2.1; omega, (hSt.2.2.2.1.setRow _).congr fun i _ => ?_, below_setRow8 hSt.2.2.2.2.1 (by have := hSt.2.2.2.2.2.1; omega) _⟩
      rw [← HA.out, ← HP.out]
      show (if 0 ≤ i ∧ i < 0 + 8 then A (i - 0) else if i < 8 then 0 else P (i - 8)) = (if i < 8 then A i else P (i - 8))
      by_cases h : i < 8
      · rw [if_pos (by omega), if_pos h]; rfl
      · rw [if_neg (by omega), if_neg h, if_neg h]

end Go.Proofs.YtcpfiimbobijlaaDoor
