/- Keys wrapped: Unwrap of package aes. -/
import Derived.Test.YtcpfiimbobijlaaDoorWrap
import Derived.Test.YtcpfiimbobijlaaDoorTopD
import Derived.Test.YtcpfiimbobijlaaDoorLaw
import Derived.Deep.DeepCutAuto
namespace Go.Proofs.YtcpfiimbobijlaaDoor
open Go Go.RowKit
set_option maxRecDepth 100000

/-- What stands behind k steps back from step N; d decrypts a block. -/
def unR (d : (Nat → UInt8) → Nat → UInt8) (m N : Nat) (A P : Nat → UInt8) : Nat → (Nat → UInt8) × (Nat → UInt8)
  | 0 => (A, P)
  | k + 1 =>
    let S := unR d m N A P k
    let B := d (bothF (countF S.1 (N - k)) fun j => S.2 ((N - k - 1) * 8 % m + j))
    (B, cpy ((N - k - 1) * 8 % m) 8 S.2 fun j => B (8 + j))

/-- What Unwrap leaves: m bytes in a block of its own, if A is what it was at the start. -/
def Unwrapped (m : Nat) (A P : Nat → UInt8) (w : World) (e : Ending) (w' : World) : Prop :=
  Below w.heap.size w w' ∧ ((eqb 8 A (fun _ => 166) = true ∧ ∃ g, e = .returned (.tuple #[.slice (some ⟨g, 0, none⟩) m m, .int .i64 0]) ∧ w.heap.size ≤ g ∧ Row w' g 5 m P) ∨
    (eqb 8 A (fun _ => 166) = false ∧ e = .returned (.tuple #[.slice none 0 0, .int .i64 5])))

def UnS (w0 : World) (gk r1 kb ga go m : Nat) (s bkf W A P : Nat → UInt8) (w' : World) : Prop :=
  Row w' 0 48 256 s ∧ Row w' gk 23 (16 * r1) W ∧ Row w' kb 48 256 bkf ∧ Row w' ga 53 8 A ∧ Row w' go 5 m P ∧ Below w0.heap.size w0 w' ∧
    w0.heap.size ≤ gk ∧ w0.heap.size ≤ kb ∧ w0.heap.size ≤ ga ∧ w0.heap.size ≤ go ∧ 0 < w0.heap.size ∧ ga ≠ go ∧ gk ≠ ga ∧ gk ≠ go ∧ kb ≠ ga ∧ kb ≠ go
section
variable {w0 w1 w2 : World} {gk r1 kb ga go m : Nat} {s bkf W A P : Nat → UInt8}
theorem UnS.below (h : UnS w0 gk r1 kb ga go m s bkf W A P w1) (hb : Below w1.heap.size w1 w2) : UnS w0 gk r1 kb ga go m s bkf W A P w2 := by
  obtain ⟨h1, h2, h3, h4, h5, h6, h7⟩ := h
  exact ⟨h1.below hb h1.lt, h2.below hb h2.lt, h3.below hb h3.lt, h4.below hb h4.lt, h5.below hb h5.lt, h6.trans (hb.mono h6.size), h7⟩
theorem UnS.drew (h : UnS w0 gk r1 kb ga go m s bkf W A P w1) : UnS w0 gk r1 kb ga go m s bkf W A P w1.drew := by
  obtain ⟨h1, h2, h3, h4, h5, h6, h7⟩ := h
  exact ⟨h1.drew, h2.drew, h3.drew, h4.drew, h5.drew, h6.drew, h7⟩
theorem UnS.far (h : UnS w0 gk r1 kb ga go m s bkf W A P w1) {k : Nat} (hk : w1.heap.size ≤ k) (cs : Array Value) {o : Obj} : UnS w0 gk r1 kb ga go m s bkf W A P ((w1.alloc o).setRow k cs) := by
  obtain ⟨h1, h2, h3, h4, h5, h6, h7⟩ := h
  have l1 := h1.lt
  have l2 := h2.lt
  have l3 := h3.lt
  have l4 := h4.lt
  have l5 := h5.lt
  have l6 := h6.size
  exact ⟨(h1.alloc _).setRow_far (by omega) _, (h2.alloc _).setRow_far (by omega) _, (h3.alloc _).setRow_far (by omega) _, (h4.alloc _).setRow_far (by omega) _, (h5.alloc _).setRow_far (by omega) _, below_setRow8 (h6.alloc l6 _) (by omega) _, h7⟩
theorem UnS.putA (h : UnS w0 gk r1 kb ga go m s bkf W A P w1) (A' : Nat → UInt8) : UnS w0 gk r1 kb ga go m s bkf W A' P (w1.setRow ga (row 8 A')) := by
  obtain ⟨h1, h2, h3, h4, h5, h6, h7, h8, h9, ha, hb, hc, hd, he, hf, hg⟩ := h
  exact ⟨h1.setRow_far (by omega) _, h2.setRow_far (by omega) _, h3.setRow_far (by omega) _, h4.setRow _, h5.setRow_far (by omega) _, below_setRow8 h6 (by omega) _, h7, h8, h9, ha, hb, hc, hd, he, hf, hg⟩
theorem UnS.putP (h : UnS w0 gk r1 kb ga go m s bkf W A P w1) (P' : Nat → UInt8) : UnS w0 gk r1 kb ga go m s bkf W A P' (w1.setRow go (row m P')) := by
  obtain ⟨h1, h2, h3, h4, h5, h6, h7, h8, h9, ha, hb, hc, hd, he, hf, hg⟩ := h
  exact ⟨h1.setRow_far (by omega) _, h2.setRow_far (by omega) _, h3.setRow_far (by omega) _, h4.setRow_far (by omega) _, h5.setRow _, below_setRow8 h6 (by omega) _, h7, h8, h9, ha, hb, hc, hd, he, hf, hg⟩
end

theorem new_at3 (w : World) (o : Obj) (k : Nat) (cs : Array Value) (o' : Obj) (k' : Nat) (cs' : Array Value) (t : TypeId) (n : Nat) (f : Nat → UInt8) : Row (((((w.alloc o).setRow k cs).alloc o').setRow k' cs').alloc (.cells (row n f) t)) (w.heap.size + 1 + 1) t n f := by
  have h := Row.new ((((w.alloc o).setRow k cs).alloc o').setRow k' cs') t n f
  simpa only [size_setRow, World.size_alloc] using h
theorem cellsA : Tryd.prog.cellsOf 53 = 8 := by kernel_rfl
theorem run_neq8 (f g : Nat → UInt8) (w : World) : (binOp .neq 53 (.agg (row 8 f)) (.agg (row 8 g))).run Tryd.prog w = .ok (.bool (!eqb 8 f g)) w := by
  have hi : ∃ i, Tryd.prog.info? 5 = some i := by
    cases hq : Tryd.prog.info? 5 with
    | none => have := size8; rw [hq] at this; cases this
    | some i => exact ⟨i, rfl⟩
  obtain ⟨i, hi⟩ := hi
  have h := run_equalIn_array (P := Tryd.prog) (w := w) 9999 (row 8 f) (row 8 g) undA hi
  rw [cells8, run_eqItems_row 9998 8 f g _ (fun j hj => List.mem_range.1 hj)] at h
  have h' : (Op.equalIn 10000 53 (.agg (row 8 f)) (.agg (row 8 g))).run Tryd.prog w = .ok ((List.range 8).all fun i => f i == g i) w := h
  simp only [binOp]
  simp [Op.equal, Op.maxDepth, h', eqb]

set_option maxRecDepth 100000 in
set_option maxHeartbeats 8000000 in
theorem Unwrap16 (s key W A0 dat : Nat → UInt8) (b off c b1 o1 m c1 : Nat) (w : World) (hs : Row w 0 48 256 s) (hkey : ∀ j, j < 16 → w.cell? ⟨b, off + j, none⟩ = some (.int .u8 ((key j).toNat : Int)))
    (hW : Sched s 4 key W) (hm1 : 16 ≤ m) (hm2 : m ≤ 128) (hm3 : m % 8 = 0) (hc1 : 8 + m ≤ c1)
    (hA0 : ∀ j, j < 8 → w.cell? ⟨b1, o1 + j, none⟩ = some (.int .u8 ((A0 j).toNat : Int))) (hdat : ∀ j, j < m → w.cell? ⟨b1, o1 + 8 + j, none⟩ = some (.int .u8 ((dat j).toNat : Int))) :
    Calls Tryd.prog 20 #[.slice (some ⟨b, off, none⟩) 16 c, .slice (some ⟨b1, o1, none⟩) (8 + m) c1] w
      (Unwrapped m (unR (dec (bk s 256) 10 W) m (6 * (m / 8)) A0 dat (6 * (m / 8))).1 (unR (dec (bk s 256) 10 W) m (6 * (m / 8)) A0 dat (6 * (m / 8))).2 w) := by
  have hz0 := hs.lt
  have hb0 : b1 < w.heap.size := block_lt_of_cell (hA0 0 (by omega))
  have hmk : ∀ w : World, (Instr.makeSlice 22 (.int .i64 (8 + (m : Int) - 8)) (.int .i64 (8 + (m : Int) - 8))).run Tryd.prog w = .ok (.slice (some ⟨w.heap.size, 0, none⟩) m m) (w.alloc (.cells (row m fun _ => 0) 5)) := fun w => by
    have h := run_make_Row (P := Tryd.prog) 22 5 m 1 1 undB info8 (by omega) (by omega) (by omega) w
    rw [Nat.mul_one] at h
    rw [show (8 + (m : Int) - 8) = (m : Int) by omega]
    exact h
  have hmk2 : ∀ w : World, (Instr.makeSlice 22 (.int .i64 (m : Int)) (.int .i64 (m : Int))).run Tryd.prog w = .ok (.slice (some ⟨w.heap.size, 0, none⟩) m m) (w.alloc (.cells (row m fun _ => 0) 5)) := fun w => by
    have h := hmk w
    rw [show (8 + (m : Int) - 8) = (m : Int) by omega] at h
    exact h
  have har : ∀ w' : World, (Instr.arrayAt 53 (.slice (some ⟨b1, o1, none⟩) (8 + m) c1)).run Tryd.prog w' = .ok (.pointer (some ⟨b1, o1, none⟩)) w' := fun w' => run_arrayAt w' 53 _ 8 _ _ _ undA (by omega)
  obtain ⟨E, hE⟩ : ∃ E : (Nat → UInt8) → Nat → UInt8, E = dec (bk s 256) 10 W := ⟨_, rfl⟩
  rw [← hE]
  have HE := Lib.hid hE
  clear hE
  obtain ⟨N, hN⟩ : ∃ N, N = 6 * (m / 8) := ⟨_, rfl⟩
  have hN96 : N ≤ 96 := by omega
  have hNi : 6 * ((m : Int) / 8) = (N : Int) := by omega
  rw [← hN]
  have HN := Lib.hid hNi
  clear hN hNi
  have HM3 := Lib.hid hm3
  clear hm3
  go_enter Tryd.func20, Tryd.ntmps20
  go_wp2_with (go_at_call 27; refine (isKey16 _ _ _).mono ?_; rintro e w' ⟨rfl, hw⟩; have hw := hw.symm; subst hw)
  rw [show (8 + (m : Int) - 8) = (m : Int) by omega]
  refine (may_yes m _ hm1 hm2 HM3.out).mono ?_
  rintro e w' ⟨rfl, hw⟩
  have hw := hw.symm
  subst hw
  go_wp2_with (fail)
  refine (roundKeys4 s key W b off c w hs hkey hW).mono ?_
  rintro e w1 ⟨gk, he, hgk, hrk, hb1⟩
  simp only [Nat.reduceAdd, Nat.reduceMul] at he hrk
  subst he
  have hs1 := hs.below hb1 hz0
  clear hs hkey hW
  go_wp2_with (fail)
  refine (boxBack_c s w1 hs1).mono ?_
  rintro e w2 ⟨rfl, hb2⟩
  have hs2 := hs1.below hb2 hs1.lt
  have hrk2 := hrk.below hb2 hrk.lt
  have hbel2 := hb1.trans (hb2.mono hb1.size)
  have hlk := hrk2.lt
  have hsz := hbel2.size
  clear hb1 hb2 hs1 hrk
  have hB1 := below_setRow8 (hbel2.alloc hsz (.cells (row 256 fun _ => 0) 48)) hsz (row 256 (bk s 256))
  have hB2 := (below_setRow8 (hB1.alloc hB1.size (.cells (row 8 fun _ => 0) 53)) (k := w2.heap.size + 1) (by omega) (row 8 A0)).alloc (by simp; omega) (.cells (row m fun _ => 0) 5)
  have hA1 : ∀ j, j < 8 → ((w2.alloc (.cells (row 256 fun _ => 0) 48)).setRow w2.heap.size (row 256 (bk s 256))).cell? ⟨b1, o1 + j, none⟩ = some (.int .u8 ((A0 j).toNat : Int)) := fun j hj => (hB1.cell (p := ⟨b1, o1 + j, none⟩) hb0).trans (hA0 j hj)
  have hD1 := fun j (hj : j < m) => (hB2.cell (p := ⟨b1, o1 + 8 + j, none⟩) hb0).trans (hdat j hj)
  have HB1 := Lib.hid hB1
  have HB2 := Lib.hid hB2
  have HA1 := Lib.hid hA1
  have HD1 := Lib.hid hD1
  clear hB1 hB2 hA1 hD1 hA0 hdat
  go_upto_region 4 with (first | (refine wpList_alloc_Row rfl 48 rfl 256 zero256 ?_) | (refine wpList_store_Row rfl 48 _ _ rfl _ rfl 48 256 (fun _ => 0) _ rfl (Row.new _ _ _ _) size256 ?_))
  simp only [Act.put]
  iterate 7 go_step
  refine wpList_load_Cells rfl 53 _ rfl b1 o1 rfl 8 A0 _ HA1.out undA sizeA ?_
  simp only [Act.put, List.setIfInBounds_toArray, List.set_cons_zero, List.set_cons_succ]
  refine wpList_alloc_Row rfl 53 rfl 8 zeroA ?_
  simp only [Act.put, List.setIfInBounds_toArray, List.set_cons_zero, List.set_cons_succ, size_setRow, World.size_alloc]
  refine wpList_store_Row rfl 53 _ _ rfl (w2.heap.size + 1) rfl 53 8 (fun _ => 0) A0 rfl (new_at2 w2 _ _ _ _ _ _) sizeA ?_
  simp only [Act.put]
  clear HA1 HB1 har
  have hS : UnS w gk 11 w2.heap.size (w2.heap.size + 1) (w2.heap.size + 1 + 1) m s (bk s 256) W A0 (fun _ => 0) (((((w2.alloc (.cells (row 256 fun _ => 0) 48)).setRow w2.heap.size (row 256 (bk s 256))).alloc (.cells (row 8 fun _ => 0) 53)).setRow (w2.heap.size + 1) (row 8 A0)).alloc (.cells (row m fun _ => 0) 5)) := by
    have l1 := hs2.lt
    exact ⟨((((hs2.alloc _).setRow_far (by omega) _).alloc _).setRow_far (by omega) _).alloc _, ((((hrk2.alloc _).setRow_far (by omega) _).alloc _).setRow_far (by omega) _).alloc _,
      (((((Row.new w2 48 256 (fun _ => 0)).setRow (bk s 256)).alloc _).setRow_far (by omega) _)).alloc _, ((new_at2 w2 _ _ _ _ _ _).setRow A0).alloc _, new_at3 w2 _ _ _ _ _ _ _ _ _, HB2.out, hgk, hsz, by omega, by omega, hz0, by omega, by omega, by omega, by omega, by omega⟩
  clear hs2 hrk2 HB2
  go_upto_region 6 with (fail)
  revert hS HD1
  generalize ((((w2.alloc (.cells (row 256 fun _ => 0) 48)).setRow w2.heap.size (row 256 (bk s 256))).alloc (.cells (row 8 fun _ => 0) 53)).setRow (w2.heap.size + 1) (row 8 A0)).alloc (.cells (row m fun _ => 0) 5) = w3
  generalize w2.heap.size = kb at *
  intro HD1 hS
  go_wp2_with (refine wpList_copy_Row rfl _ _ 22 22 rfl 5 undB size8 (kb + 1 + 1) 0 m m ⟨b1, o1 + 8, none⟩ m (c1 - 8) rfl rfl 5 m _ hS.2.2.2.2.1 m dat (by simp) (fun j hj => by rw [Addr.add_mid]; exact HD1.out j hj) (by omega) ?_)
  have hS2 := hS.putP (cpy 0 m (fun _ => 0) dat)
  have hS3 : UnS w gk 11 kb (kb + 1) (kb + 1 + 1) m s (bk s 256) W A0 dat (w3.setRow (kb + 1 + 1) (row m (cpy 0 m (fun _ => 0) dat))) := by
    obtain ⟨h1, h2, h3, h4, h5, h6⟩ := hS2
    exact ⟨h1, h2, h3, h4, h5.congr fun i hi => (by show (if 0 ≤ i ∧ i < 0 + m then dat (i - 0) else 0) = dat i; rw [if_pos (by omega)]; rfl), h6⟩
  clear hS hS2 HD1 hbel2 hlk hsz hmk hmk2
  revert hS3
  generalize w3.setRow (kb + 1 + 1) (row m (cpy 0 m (fun _ => 0) dat)) = w4
  intro hS
  refine (steps_c _ m _ _ (by omega)).mono ?_
  rintro e w' ⟨rfl, hw⟩
  have hw := hw.symm
  subst hw
  rw [HN.out]
  go_wp2_with (fail)
  go_loopw [10] (fun i_ wr => ∃ k t : Nat, k + t = N ∧ i_ = .int .i64 (t : Int) ∧ UnS w gk 11 kb (kb + 1) (kb + 1 + 1) m s (bk s 256) W (unR E m N A0 dat k).1 (unR E m N A0 dat k).2 wr) (fun i_ _ => (intOf i_).toNat)
  case atStart => exact ⟨0, N, by omega, rfl, hS⟩
  case round =>
    obtain ⟨k, t, hkt, rfl, hSt⟩ := hrel
    clear hS
    have ht96 : t ≤ 96 := by omega
    have HKT := Lib.hid hkt
    clear hkt
    obtain ⟨A, hA⟩ : ∃ A : Nat → UInt8, A = (unR E m N A0 dat k).1 := ⟨_, rfl⟩
    obtain ⟨P, hP⟩ : ∃ P : Nat → UInt8, P = (unR E m N A0 dat k).2 := ⟨_, rfl⟩
    rw [← hA, ← hP] at hSt
    have HA := Lib.hid hA
    have HP := Lib.hid hP
    clear hA hP
    by_cases hlt : 1 ≤ t
    · go_wp2_with (fail)
      obtain ⟨at_, hat⟩ : ∃ at_, at_ = (t - 1) * 8 % m := ⟨_, rfl⟩
      have h8 : at_ + 8 ≤ m := by rw [hat]; exact at_ok (t - 1) m HM3.out (by omega)
      have HAT := Lib.hid hat
      clear hat
      refine (partOf_c (kb + 1 + 1) 0 m m t at_ wr hlt (by omega) (by omega) (by omega) (Nat.le_refl _) (by omega) HAT.out.symm h8).mono ?_
      rintro e w' ⟨rfl, hw⟩
      have hw := hw.symm
      subst hw
      go_wp2_with (refine wpList_load_Row rfl 53 _ rfl (kb + 1) rfl 53 8 A _ hSt.2.2.2.1 undA sizeA ?_)
      refine (counted_c A t wr (by omega)).mono ?_
      rintro e w5 ⟨rfl, hb5⟩
      have hS5 := hSt.below hb5
      clear hSt hb5
      go_wp2_with (fail)
      refine (both_c (countF A t) (fun j => P (at_ + j)) (kb + 1 + 1) at_ (m - at_) w5 (fun j hj => ?_)).mono ?_
      · rw [hS5.2.2.2.2.1.cell (at_ + j) (by omega)]
      rintro e w6 ⟨rfl, hb6⟩
      have hS6 := hS5.below hb6
      clear hS5 hb6
      go_wp2_with (fail)
      have hc := decrypt_c (bk s 256) W (bothF (countF A t) fun j => P (at_ + j)) gk kb 9 w6 (by omega) hS6.2.2.1 hS6.2.1
      rw [show dec (bk s 256) (9 + 1) W = E from HE.out.symm] at hc
      refine hc.mono ?_
      rintro e w7 ⟨rfl, hb7⟩
      have hS7 := hS6.below hb7
      clear hS6 hb7 hc
      obtain ⟨B, hB⟩ : ∃ B : Nat → UInt8, B = E (bothF (countF A t) fun j => P (at_ + j)) := ⟨_, rfl⟩
      rw [← hB]
      have HB := Lib.hid hB
      clear hB
      have har : ∀ w' : World, (Instr.arrayAt 53 (.slice (some ⟨w7.heap.size, 0, none⟩) 8 16)).run Tryd.prog w' = .ok (.pointer (some ⟨w7.heap.size, 0, none⟩)) w' := fun w' => run_arrayAt w' 53 _ 8 _ _ _ undA (by omega)
      have hlt7 : kb + 1 + 1 < w7.heap.size := hS7.2.2.2.2.1.lt
      have hgb := (Row.new w7 23 16 (fun _ => 0)).setRow B
      have hS8 := hS7.far (Nat.le_refl _) (row 16 B) (o := .cells (row 16 fun _ => 0) 23)
      go_upto_region 12 with (first | (refine wpList_alloc_Row rfl 23 rfl 16 zero16z ?_) | (refine wpList_store_Row rfl 23 _ _ rfl _ rfl 23 16 (fun _ => 0) _ rfl (Row.new _ _ _ _) size16 ?_))
      simp only [Act.put]
      clear hS7
      revert hgb hS8
      generalize (w7.alloc (.cells (row 16 fun _ => 0) 23)).setRow w7.heap.size (row 16 B) = w8
      generalize w7.heap.size = gb at *
      intro hgb hS8
      go_wp2_with (first | (refine wpList_load_Mid rfl 53 _ rfl gb 0 rfl 23 16 8 _ _ hgb (by omega) undA sizeA ?_) | (refine wpList_store_Row rfl 53 _ _ rfl (kb + 1) rfl 53 8 A _ rfl hS8.2.2.2.1 sizeA ?_) | (refine wpList_copy_Row rfl _ _ 22 22 rfl 5 undB size8 (kb + 1 + 1) at_ 8 (m - at_) ⟨gb, 8, none⟩ 8 8 rfl rfl 5 m _ (hS8.putA _).2.2.2.2.1 8 (fun j => B (8 + j)) (by decide) (fun j hj => by rw [Addr.add_mid]; exact (hgb.setRow_far (by omega) _).cell (8 + j) (by omega)) (by omega) ?_))
      have hS9 := (hS8.putA (fun j => B (0 + j))).putP (cpy at_ 8 P (fun j => B (8 + j)))
      have e0 : N - k = t := by have := HKT.out; omega
      have e1 : (unR E m N A0 dat (k + 1)).1 = fun j => B (0 + j) := by
        rw [show (fun j => B (0 + j)) = B by funext j; rw [Nat.zero_add], HB.out, HAT.out, HA.out, HP.out, ← e0]
        rfl
      have e2 : (unR E m N A0 dat (k + 1)).2 = cpy at_ 8 P (fun j => B (8 + j)) := by
        rw [HB.out, HAT.out, HA.out, HP.out, ← e0]
        rfl
      have H9 := Lib.hid hS9
      have HE1 := Lib.hid e1
      have HE2 := Lib.hid e2
      clear hS8 hgb hS9 e0 e1 e2 har
      go_roundw
      case rel => exact ⟨k + 1, t - 1, by have := HKT.out; omega, by congr 1; omega, by rw [HE1.out, HE2.out]; exact H9.out⟩
      case measure => simp [intOf]; omega
    · obtain rfl : t = 0 := by omega
      have hkN : k = N := by have := HKT.out; omega
      rw [hkN] at HA HP
      clear hkN
      go_wp2_with (fail)
      have hbel := hSt.2.2.2.2.2.1
      have hgo := hSt.2.2.2.2.2.2.2.2.2.1
      refine region_seq (fun w' => UnS w gk 11 kb (kb + 1) (kb + 1 + 1) m s (bk s 256) W A P w') mixedOrders (by kernel_rfl) (by simp) hSt.drew ?_
      clear hSt hbel
      refine Seq.next (.agg (row 8 A)) (Sure.load_Row rfl 53 _ rfl (kb + 1) rfl 53 8 _ _ (fun w' hS => hS.2.2.2.1) undA sizeA) ?_
      simp only [Act.put, List.setIfInBounds_toArray, List.set_cons_zero, List.set_cons_succ]
      refine Seq.next (.agg (row 8 fun _ => 166)) (Sure.call (f := 36) (args := #[]) rfl (fun w' => by go_simp) (fun w' hS => (start_c w').mono fun e w'' h => ⟨h.1, hS.below h.2⟩)) ?_
      simp only [Act.put, List.setIfInBounds_toArray, List.set_cons_zero, List.set_cons_succ]
      refine Seq.last (by kernel_rfl) fun w' hS => ?_
      have hrow := hS.2.2.2.2.1
      have hbel := hS.2.2.2.2.2.1
      clear hS
      have H1 := Lib.hid hrow
      have H2 := Lib.hid hbel
      clear hrow hbel
      cases hq : eqb 8 A (fun _ => 166)
      · have eN : ∀ w : World, (binOp .neq 53 (.agg (row 8 A)) (.agg (row 8 fun _ => 166))).run Tryd.prog w = .ok (.bool true) w := fun w => by rw [run_neq8, hq]; rfl
        have HQ := Lib.hid hq
        clear hq
        go_simp
        go_wp2
        go_ret2
        refine ⟨H2.out, .inr ⟨?_, rfl⟩⟩
        rw [← HA.out]
        exact HQ.out
      · have eN : ∀ w : World, (binOp .neq 53 (.agg (row 8 A)) (.agg (row 8 fun _ => 166))).run Tryd.prog w = .ok (.bool false) w := fun w => by rw [run_neq8, hq]; rfl
        have HQ := Lib.hid hq
        clear hq
        go_simp
        go_wp2
        go_ret2
        refine ⟨H2.out, .inl ⟨?_, kb + 1 + 1, rfl, hgo, ?_⟩⟩
        · rw [← HA.out]
          exact HQ.out
        · rw [← HP.out]
          exact H1.out

set_option maxRecDepth 100000 in
set_option maxHeartbeats 8000000 in
theorem Unwrap32 (s key W A0 dat : Nat → UInt8) (b off c b1 o1 m c1 : Nat) (w : World) (hs : Row w 0 48 256 s) (hkey : ∀ j, j < 32 → w.cell? ⟨b, off + j, none⟩ = some (.int .u8 ((key j).toNat : Int)))
    (hW : Sched s 8 key W) (hm1 : 16 ≤ m) (hm2 : m ≤ 128) (hm3 : m % 8 = 0) (hc1 : 8 + m ≤ c1)
    (hA0 : ∀ j, j < 8 → w.cell? ⟨b1, o1 + j, none⟩ = some (.int .u8 ((A0 j).toNat : Int))) (hdat : ∀ j, j < m → w.cell? ⟨b1, o1 + 8 + j, none⟩ = some (.int .u8 ((dat j).toNat : Int))) :
    Calls Tryd.prog 20 #[.slice (some ⟨b, off, none⟩) 32 c, .slice (some ⟨b1, o1, none⟩) (8 + m) c1] w
      (Unwrapped m (unR (dec (bk s 256) 14 W) m (6 * (m / 8)) A0 dat (6 * (m / 8))).1 (unR (dec (bk s 256) 14 W) m (6 * (m / 8)) A0 dat (6 * (m / 8))).2 w) := by
  have hz0 := hs.lt
  have hb0 : b1 < w.heap.size := block_lt_of_cell (hA0 0 (by omega))
  have hmk : ∀ w : World, (Instr.makeSlice 22 (.int .i64 (8 + (m : Int) - 8)) (.int .i64 (8 + (m : Int) - 8))).run Tryd.prog w = .ok (.slice (some ⟨w.heap.size, 0, none⟩) m m) (w.alloc (.cells (row m fun _ => 0) 5)) := fun w => by
    have h := run_make_Row (P := Tryd.prog) 22 5 m 1 1 undB info8 (by omega) (by omega) (by omega) w
    rw [Nat.mul_one] at h
    rw [show (8 + (m : Int) - 8) = (m : Int) by omega]
    exact h
  have hmk2 : ∀ w : World, (Instr.makeSlice 22 (.int .i64 (m : Int)) (.int .i64 (m : Int))).run Tryd.prog w = .ok (.slice (some ⟨w.heap.size, 0, none⟩) m m) (w.alloc (.cells (row m fun _ => 0) 5)) := fun w => by
    have h := hmk w
    rw [show (8 + (m : Int) - 8) = (m : Int) by omega] at h
    exact h
  have har : ∀ w' : World, (Instr.arrayAt 53 (.slice (some ⟨b1, o1, none⟩) (8 + m) c1)).run Tryd.prog w' = .ok (.pointer (some ⟨b1, o1, none⟩)) w' := fun w' => run_arrayAt w' 53 _ 8 _ _ _ undA (by omega)
  obtain ⟨E, hE⟩ : ∃ E : (Nat → UInt8) → Nat → UInt8, E = dec (bk s 256) 14 W := ⟨_, rfl⟩
  rw [← hE]
  have HE := Lib.hid hE
  clear hE
  obtain ⟨N, hN⟩ : ∃ N, N = 6 * (m / 8) := ⟨_, rfl⟩
  have hN96 : N ≤ 96 := by omega
  have hNi : 6 * ((m : Int) / 8) = (N : Int) := by omega
  rw [← hN]
  have HN := Lib.hid hNi
  clear hN hNi
  have HM3 := Lib.hid hm3
  clear hm3
  go_enter Tryd.func20, Tryd.ntmps20
  go_wp2_with (go_at_call 27; refine (isKey32 _ _ _).mono ?_; rintro e w' ⟨rfl, hw⟩; have hw := hw.symm; subst hw)
  rw [show (8 + (m : Int) - 8) = (m : Int) by omega]
  refine (may_yes m _ hm1 hm2 HM3.out).mono ?_
  rintro e w' ⟨rfl, hw⟩
  have hw := hw.symm
  subst hw
  go_wp2_with (fail)
  refine (roundKeys8 s key W b off c w hs hkey hW).mono ?_
  rintro e w1 ⟨gk, he, hgk, hrk, hb1⟩
  simp only [Nat.reduceAdd, Nat.reduceMul] at he hrk
  subst he
  have hs1 := hs.below hb1 hz0
  clear hs hkey hW
  go_wp2_with (fail)
  refine (boxBack_c s w1 hs1).mono ?_
  rintro e w2 ⟨rfl, hb2⟩
  have hs2 := hs1.below hb2 hs1.lt
  have hrk2 := hrk.below hb2 hrk.lt
  have hbel2 := hb1.trans (hb2.mono hb1.size)
  have hlk := hrk2.lt
  have hsz := hbel2.size
  clear hb1 hb2 hs1 hrk
  have hB1 := below_setRow8 (hbel2.alloc hsz (.cells (row 256 fun _ => 0) 48)) hsz (row 256 (bk s 256))
  have hB2 := (below_setRow8 (hB1.alloc hB1.size (.cells (row 8 fun _ => 0) 53)) (k := w2.heap.size + 1) (by omega) (row 8 A0)).alloc (by simp; omega) (.cells (row m fun _ => 0) 5)
  have hA1 : ∀ j, j < 8 → ((w2.alloc (.cells (row 256 fun _ => 0) 48)).setRow w2.heap.size (row 256 (bk s 256))).cell? ⟨b1, o1 + j, none⟩ = some (.int .u8 ((A0 j).toNat : Int)) := fun j hj => (hB1.cell (p := ⟨b1, o1 + j, none⟩) hb0).trans (hA0 j hj)
  have hD1 := fun j (hj : j < m) => (hB2.cell (p := ⟨b1, o1 + 8 + j, none⟩) hb0).trans (hdat j hj)
  have HB1 := Lib.hid hB1
  have HB2 := Lib.hid hB2
  have HA1 := Lib.hid hA1
  have HD1 := Lib.hid hD1
  clear hB1 hB2 hA1 hD1 hA0 hdat
  go_upto_region 4 with (first | (refine wpList_alloc_Row rfl 48 rfl 256 zero256 ?_) | (refine wpList_store_Row rfl 48 _ _ rfl _ rfl 48 256 (fun _ => 0) _ rfl (Row.new _ _ _ _) size256 ?_))
  simp only [Act.put]
  iterate 7 go_step
  refine wpList_load_Cells rfl 53 _ rfl b1 o1 rfl 8 A0 _ HA1.out undA sizeA ?_
  simp only [Act.put, List.setIfInBounds_toArray, List.set_cons_zero, List.set_cons_succ]
  refine wpList_alloc_Row rfl 53 rfl 8 zeroA ?_
  simp only [Act.put, List.setIfInBounds_toArray, List.set_cons_zero, List.set_cons_succ, size_setRow, World.size_alloc]
  refine wpList_store_Row rfl 53 _ _ rfl (w2.heap.size + 1) rfl 53 8 (fun _ => 0) A0 rfl (new_at2 w2 _ _ _ _ _ _) sizeA ?_
  simp only [Act.put]
  clear HA1 HB1 har
  have hS : UnS w gk 15 w2.heap.size (w2.heap.size + 1) (w2.heap.size + 1 + 1) m s (bk s 256) W A0 (fun _ => 0) (((((w2.alloc (.cells (row 256 fun _ => 0) 48)).setRow w2.heap.size (row 256 (bk s 256))).alloc (.cells (row 8 fun _ => 0) 53)).setRow (w2.heap.size + 1) (row 8 A0)).alloc (.cells (row m fun _ => 0) 5)) := by
    have l1 := hs2.lt
    exact ⟨((((hs2.alloc _).setRow_far (by omega) _).alloc _).setRow_far (by omega) _).alloc _, ((((hrk2.alloc _).setRow_far (by omega) _).alloc _).setRow_far (by omega) _).alloc _,
      (((((Row.new w2 48 256 (fun _ => 0)).setRow (bk s 256)).alloc _).setRow_far (by omega) _)).alloc _, ((new_at2 w2 _ _ _ _ _ _).setRow A0).alloc _, new_at3 w2 _ _ _ _ _ _ _ _ _, HB2.out, hgk, hsz, by omega, by omega, hz0, by omega, by omega, by omega, by omega, by omega⟩
  clear hs2 hrk2 HB2
  go_upto_region 6 with (fail)
  revert hS HD1
  generalize ((((w2.alloc (.cells (row 256 fun _ => 0) 48)).setRow w2.heap.size (row 256 (bk s 256))).alloc (.cells (row 8 fun _ => 0) 53)).setRow (w2.heap.size + 1) (row 8 A0)).alloc (.cells (row m fun _ => 0) 5) = w3
  generalize w2.heap.size = kb at *
  intro HD1 hS
  go_wp2_with (refine wpList_copy_Row rfl _ _ 22 22 rfl 5 undB size8 (kb + 1 + 1) 0 m m ⟨b1, o1 + 8, none⟩ m (c1 - 8) rfl rfl 5 m _ hS.2.2.2.2.1 m dat (by simp) (fun j hj => by rw [Addr.add_mid]; exact HD1.out j hj) (by omega) ?_)
  have hS2 := hS.putP (cpy 0 m (fun _ => 0) dat)
  have hS3 : UnS w gk 15 kb (kb + 1) (kb + 1 + 1) m s (bk s 256) W A0 dat (w3.setRow (kb + 1 + 1) (row m (cpy 0 m (fun _ => 0) dat))) := by
    obtain ⟨h1, h2, h3, h4, h5, h6⟩ := hS2
    exact ⟨h1, h2, h3, h4, h5.congr fun i hi => (by show (if 0 ≤ i ∧ i < 0 + m then dat (i - 0) else 0) = dat i; rw [if_pos (by omega)]; rfl), h6⟩
  clear hS hS2 HD1 hbel2 hlk hsz hmk hmk2
  revert hS3
  generalize w3.setRow (kb + 1 + 1) (row m (cpy 0 m (fun _ => 0) dat)) = w4
  intro hS
  refine (steps_c _ m _ _ (by omega)).mono ?_
  rintro e w' ⟨rfl, hw⟩
  have hw := hw.symm
  subst hw
  rw [HN.out]
  go_wp2_with (fail)
  go_loopw [10] (fun i_ wr => ∃ k t : Nat, k + t = N ∧ i_ = .int .i64 (t : Int) ∧ UnS w gk 15 kb (kb + 1) (kb + 1 + 1) m s (bk s 256) W (unR E m N A0 dat k).1 (unR E m N A0 dat k).2 wr) (fun i_ _ => (intOf i_).toNat)
  case atStart => exact ⟨0, N, by omega, rfl, hS⟩
  case round =>
    obtain ⟨k, t, hkt, rfl, hSt⟩ := hrel
    clear hS
    have ht96 : t ≤ 96 := by omega
    have HKT := Lib.hid hkt
    clear hkt
    obtain ⟨A, hA⟩ : ∃ A : Nat → UInt8, A = (unR E m N A0 dat k).1 := ⟨_, rfl⟩
    obtain ⟨P, hP⟩ : ∃ P : Nat → UInt8, P = (unR E m N A0 dat k).2 := ⟨_, rfl⟩
    rw [← hA, ← hP] at hSt
    have HA := Lib.hid hA
    have HP := Lib.hid hP
    clear hA hP
    by_cases hlt : 1 ≤ t
    · go_wp2_with (fail)
      obtain ⟨at_, hat⟩ : ∃ at_, at_ = (t - 1) * 8 % m := ⟨_, rfl⟩
      have h8 : at_ + 8 ≤ m := by rw [hat]; exact at_ok (t - 1) m HM3.out (by omega)
      have HAT := Lib.hid hat
      clear hat
      refine (partOf_c (kb + 1 + 1) 0 m m t at_ wr hlt (by omega) (by omega) (by omega) (Nat.le_refl _) (by omega) HAT.out.symm h8).mono ?_
      rintro e w' ⟨rfl, hw⟩
      have hw := hw.symm
      subst hw
      go_wp2_with (refine wpList_load_Row rfl 53 _ rfl (kb + 1) rfl 53 8 A _ hSt.2.2.2.1 undA sizeA ?_)
      refine (counted_c A t wr (by omega)).mono ?_
      rintro e w5 ⟨rfl, hb5⟩
      have hS5 := hSt.below hb5
      clear hSt hb5
      go_wp2_with (fail)
      refine (both_c (countF A t) (fun j => P (at_ + j)) (kb + 1 + 1) at_ (m - at_) w5 (fun j hj => ?_)).mono ?_
      · rw [hS5.2.2.2.2.1.cell (at_ + j) (by omega)]
      rintro e w6 ⟨rfl, hb6⟩
      have hS6 := hS5.below hb6
      clear hS5 hb6
      go_wp2_with (fail)
      have hc := decrypt_c (bk s 256) W (bothF (countF A t) fun j => P (at_ + j)) gk kb 13 w6 (by omega) hS6.2.2.1 hS6.2.1
      rw [show dec (bk s 256) (13 + 1) W = E from HE.out.symm] at hc
      refine hc.mono ?_
      rintro e w7 ⟨rfl, hb7⟩
      have hS7 := hS6.below hb7
      clear hS6 hb7 hc
      obtain ⟨B, hB⟩ : ∃ B : Nat → UInt8, B = E (bothF (countF A t) fun j => P (at_ + j)) := ⟨_, rfl⟩
      rw [← hB]
      have HB := Lib.hid hB
      clear hB
      have har : ∀ w' : World, (Instr.arrayAt 53 (.slice (some ⟨w7.heap.size, 0, none⟩) 8 16)).run Tryd.prog w' = .ok (.pointer (some ⟨w7.heap.size, 0, none⟩)) w' := fun w' => run_arrayAt w' 53 _ 8 _ _ _ undA (by omega)
      have hlt7 : kb + 1 + 1 < w7.heap.size := hS7.2.2.2.2.1.lt
      have hgb := (Row.new w7 23 16 (fun _ => 0)).setRow B
      have hS8 := hS7.far (Nat.le_refl _) (row 16 B) (o := .cells (row 16 fun _ => 0) 23)
      go_upto_region 12 with (first | (refine wpList_alloc_Row rfl 23 rfl 16 zero16z ?_) | (refine wpList_store_Row rfl 23 _ _ rfl _ rfl 23 16 (fun _ => 0) _ rfl (Row.new _ _ _ _) size16 ?_))
      simp only [Act.put]
      clear hS7
      revert hgb hS8
      generalize (w7.alloc (.cells (row 16 fun _ => 0) 23)).setRow w7.heap.size (row 16 B) = w8
      generalize w7.heap.size = gb at *
      intro hgb hS8
      go_wp2_with (first | (refine wpList_load_Mid rfl 53 _ rfl gb 0 rfl 23 16 8 _ _ hgb (by omega) undA sizeA ?_) | (refine wpList_store_Row rfl 53 _ _ rfl (kb + 1) rfl 53 8 A _ rfl hS8.2.2.2.1 sizeA ?_) | (refine wpList_copy_Row rfl _ _ 22 22 rfl 5 undB size8 (kb + 1 + 1) at_ 8 (m - at_) ⟨gb, 8, none⟩ 8 8 rfl rfl 5 m _ (hS8.putA _).2.2.2.2.1 8 (fun j => B (8 + j)) (by decide) (fun j hj => by rw [Addr.add_mid]; exact (hgb.setRow_far (by omega) _).cell (8 + j) (by omega)) (by omega) ?_))
      have hS9 := (hS8.putA (fun j => B (0 + j))).putP (cpy at_ 8 P (fun j => B (8 + j)))
      have e0 : N - k = t := by have := HKT.out; omega
      have e1 : (unR E m N A0 dat (k + 1)).1 = fun j => B (0 + j) := by
        rw [show (fun j => B (0 + j)) = B by funext j; rw [Nat.zero_add], HB.out, HAT.out, HA.out, HP.out, ← e0]
        rfl
      have e2 : (unR E m N A0 dat (k + 1)).2 = cpy at_ 8 P (fun j => B (8 + j)) := by
        rw [HB.out, HAT.out, HA.out, HP.out, ← e0]
        rfl
      have H9 := Lib.hid hS9
      have HE1 := Lib.hid e1
      have HE2 := Lib.hid e2
      clear hS8 hgb hS9 e0 e1 e2 har
      go_roundw
      case rel => exact ⟨k + 1, t - 1, by have := HKT.out; omega, by congr 1; omega, by rw [HE1.out, HE2.out]; exact H9.out⟩
      case measure => simp [intOf]; omega
    · obtain rfl : t = 0 := by omega
      have hkN : k = N := by have := HKT.out; omega
      rw [hkN] at HA HP
      clear hkN
      go_wp2_with (fail)
      have hbel := hSt.2.2.2.2.2.1
      have hgo := hSt.2.2.2.2.2.2.2.2.2.1
      refine region_seq (fun w' => UnS w gk 15 kb (kb + 1) (kb + 1 + 1) m s (bk s 256) W A P w') mixedOrders (by kernel_rfl) (by simp) hSt.drew ?_
      clear hSt hbel
      refine Seq.next (.agg (row 8 A)) (Sure.load_Row rfl 53 _ rfl (kb + 1) rfl 53 8 _ _ (fun w' hS => hS.2.2.2.1) undA sizeA) ?_
      simp only [Act.put, List.setIfInBounds_toArray, List.set_cons_zero, List.set_cons_succ]
      refine Seq.next (.agg (row 8 fun _ => 166)) (Sure.call (f := 36) (args := #[]) rfl (fun w' => by go_simp) (fun w' hS => (start_c w').mono fun e w'' h => ⟨h.1, hS.below h.2⟩)) ?_
      simp only [Act.put, List.setIfInBounds_toArray, List.set_cons_zero, List.set_cons_succ]
      refine Seq.last (by kernel_rfl) fun w' hS => ?_
      have hrow := hS.2.2.2.2.1
      have hbel := hS.2.2.2.2.2.1
      clear hS
      have H1 := Lib.hid hrow
      have H2 := Lib.hid hbel
      clear hrow hbel
      cases hq : eqb 8 A (fun _ => 166)
      · have eN : ∀ w : World, (binOp .neq 53 (.agg (row 8 A)) (.agg (row 8 fun _ => 166))).run Tryd.prog w = .ok (.bool true) w := fun w => by rw [run_neq8, hq]; rfl
        have HQ := Lib.hid hq
        clear hq
        go_simp
        go_wp2
        go_ret2
        refine ⟨H2.out, .inr ⟨?_, rfl⟩⟩
        rw [← HA.out]
        exact HQ.out
      · have eN : ∀ w : World, (binOp .neq 53 (.agg (row 8 A)) (.agg (row 8 fun _ => 166))).run Tryd.prog w = .ok (.bool false) w := fun w => by rw [run_neq8, hq]; rfl
        have HQ := Lib.hid hq
        clear hq
        go_simp
        go_wp2
        go_ret2
        refine ⟨H2.out, .inl ⟨?_, kb + 1 + 1, rfl, hgo, ?_⟩⟩
        · rw [← HA.out]
          exact HQ.out
        · rw [← HP.out]
          exact H1.out

end Go.Proofs.YtcpfiimbobijlaaDoor
