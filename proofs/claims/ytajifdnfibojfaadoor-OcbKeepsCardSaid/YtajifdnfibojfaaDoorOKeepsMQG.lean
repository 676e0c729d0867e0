/- through's fold: what it keeps. No program. The document's through, sealing. The document's Seal. The document's Seal and Open of a key or a nonce that is none. -/
import Derived.Test.YtajifdnfibojfaaDoorOKeepsMQC
import Derived.Test.YtajifdnfibojfaaDoorOKeepsMQE
import Derived.Test.YtajifdnfibojfaaDoorOKeepsMQF
import Derived.Test.YtajifdnfibojfaaDoorRNewA
namespace Go.Proofs.YtajifdnfibojfaaDoor

section
variable (C E : (Nat → UInt8) → Nat → UInt8) (st dl : Nat → UInt8) (n : Nat) (of f : Nat → UInt8)
theorem thr_succ (t : Nat) : thrTo C E st dl n of f (List.range (t + 1)) = thrStep C E st dl n (thrTo C E st dl n of f (List.range t)) t := by rw [List.range_succ, thrTo_snoc]
theorem thr_keep : ∀ (t j : Nat), 16 * t ≤ j → (thrTo C E st dl n of f (List.range t)).2 j = f j
  | 0, _, _ => rfl
  | t + 1, j, h => by
    rw [thr_succ]
    show cpy (16 * t) (plen n t) (thrTo C E st dl n of f (List.range t)).2 _ j = f j
    have hp : plen n t ≤ 16 := by unfold plen; omega
    unfold cpy
    rw [if_neg (by omega)]
    exact thr_keep t j (by omega)
theorem thr_fix (t : Nat) : ∀ (d j : Nat), j < 16 * t → (thrTo C E st dl n of f (List.range (t + d))).2 j = (thrTo C E st dl n of f (List.range t)).2 j
  | 0, _, _ => rfl
  | d + 1, j, h => by
    rw [← Nat.add_assoc, thr_succ]
    show cpy (16 * (t + d)) (plen n (t + d)) (thrTo C E st dl n of f (List.range (t + d))).2 _ j = _
    unfold cpy
    rw [if_neg (by omega)]
    exact thr_fix t d j h
theorem thr_cnt : ∀ (t : Nat), 16 * t ≤ n → (thrTo C E st dl n of f (List.range t)).1.2 = t
  | 0, _ => rfl
  | t + 1, h => by
    rw [thr_succ]
    show (wkStep st dl n t (thrTo C E st dl n of f (List.range t)).1).2 = t + 1
    unfold wkStep
    rw [if_neg (by unfold plen; omega)]
    show (thrTo C E st dl n of f (List.range t)).1.2 + 1 = t + 1
    rw [thr_cnt t (by omega)]
/-- A whole block. -/
theorem thr_whole (t : Nat) (h : 16 * t + 16 ≤ n) : thrTo C E st dl n of f (List.range (t + 1)) =
    ((added (thrTo C E st dl n of f (List.range t)).1.1 (dbls (Lib.ctz 64 (t + 1) + 1) dl), t + 1),
      cpy (16 * t) 16 (thrTo C E st dl n of f (List.range t)).2 (added (C (added (fun j => f (16 * t + j)) (added (thrTo C E st dl n of f (List.range t)).1.1 (dbls (Lib.ctz 64 (t + 1) + 1) dl)))) (added (thrTo C E st dl n of f (List.range t)).1.1 (dbls (Lib.ctz 64 (t + 1) + 1) dl)))) := by
  have hp : plen n t = 16 := by unfold plen; omega
  have hk : (fun j => (thrTo C E st dl n of f (List.range t)).2 (16 * t + j)) = fun j => f (16 * t + j) := funext fun j => thr_keep C E st dl n of f t _ (by omega)
  rw [thr_succ]
  unfold thrStep thrB wkStep
  rw [hp, if_neg (by omega), if_neg (by omega), thr_cnt C E st dl n of f t (by omega), hk]
/-- What is left. -/
theorem thr_rest (t : Nat) (h1 : 16 * t < n) (h2 : n < 16 * t + 16) : ∃ c, thrTo C E st dl n of f (List.range (t + 1)) =
    ((added (thrTo C E st dl n of f (List.range t)).1.1 st, c),
      cpy (16 * t) (n - 16 * t) (thrTo C E st dl n of f (List.range t)).2 fun j => xr (f (16 * t + j)) (E (added (thrTo C E st dl n of f (List.range t)).1.1 st) j)) := by
  have hp : plen n t = n - 16 * t := by unfold plen; omega
  have hk : ∀ j, (thrTo C E st dl n of f (List.range t)).2 (16 * t + j) = f (16 * t + j) := fun j => thr_keep C E st dl n of f t _ (by omega)
  refine ⟨(thrTo C E st dl n of f (List.range t)).1.2, ?_⟩
  rw [thr_succ]
  unfold thrStep thrB wkStep
  rw [hp, if_pos (by omega), if_pos (by omega)]
  simp only [hk]
end
theorem added_comm (x y : Nat → UInt8) : added x y = added y x := funext fun _ => UInt8.xor_comm _ _
theorem added_assoc (x y z : Nat → UInt8) : added (added x y) z = added x (added y z) := funext fun _ => UInt8.xor_assoc _ _ _
end Go.Proofs.YtajifdnfibojfaaDoor

namespace Go.Proofs.YtajifdnfibojfaaDoor
open Go Go.RowKit
set_option maxRecDepth 100000
set_option maxRecDepth 100000

set_option maxHeartbeats 8000000 in
theorem rthrS_c (g gc gl k cap n0 n c : Nat) (A : Option Addr) (E D : (Nat → UInt8) → Nat → UInt8) (st dl of f : Nat → UInt8) (w : World) (ho : Ob g gc gl k cap st dl w) (h1 : n0 ≤ g) (h2 : n0 ≤ gl)
    (hR : ∀ W', Below n0 w W' → RCap gc E D W') (hB : ∀ W', Below n0 w W' → Bts W' A n c f) (hc : n ≤ 140737488355328) (PL : Nat → UInt8) (hPL : PL = f) :
    Calls Tryd.prog 18 #[.pointer (some ⟨g, 0, none⟩), .agg (row 16 of), .slice A n c, .bool false] w fun e w' =>
      ∃ v, e = .returned (.tuple #[v, .agg (row 16 (E (added (added (sumTo n PL (List.range ((n + 15) / 16))) (thrTo E E st dl n of f (List.range ((n + 15) / 16))).1.1) dl)))]) ∧ Own w' (w.heap.size + 3) v n (thrTo E E st dl n of f (List.range ((n + 15) / 16))).2 ∧ AtP g gc gl st dl w w' := by
  have HR := Lib.hid hR
  have hmc := (hB w (Below.refl _ _)).2.2
  have HB := Lib.hid hB
  clear hR hB
  have HPL := Lib.hid hPL
  clear hPL
  go_enter Tryd.func18, Tryd.ntmps18
  go_upto_region 2 with (fail)
  rw [zero16]
  have hs : R3 g gc gl gl k cap st dl w of (fun _ => 0) (fun _ => 0) (((w.alloc (.cells (row 16 of) 44)).alloc (.cells (row 16 fun _ => 0) 44)).alloc (.cells (row 16 fun _ => 0) 44)) := by
    obtain ⟨h0, h1, h2, h3⟩ := three_new w 44 of (fun _ => 0) (fun _ => 0) 16 16 16 44 44
    have hb : Below w.heap.size w (((w.alloc (.cells (row 16 of) 44)).alloc (.cells (row 16 fun _ => 0) 44)).alloc (.cells (row 16 fun _ => 0) 44)) := h3
    exact ⟨⟨ho.below hb, .inl rfl⟩, ⟨⟨hb.mono (by have := ho.1.lt; omega), fun x hx _ _ => hb.block x hx⟩, ho.1.lt, ho.ltl⟩, h0, h1, h2⟩
  revert hs
  generalize ((w.alloc (.cells (row 16 of) 44)).alloc (.cells (row 16 fun _ => 0) 44)).alloc (.cells (row 16 fun _ => 0) 44) = w1
  intro hs
  go_wp2
  go_loopw [2, 11, 12] (fun av ov iv wr => ∃ (t r c' : Nat) (A' : Option Addr), n = 16 * t + r ∧ av = .slice A' r c' ∧ c' ≤ c ∧ iv = .int .i64 ((t : Int) + 1) ∧ (∀ W', Below n0 w W' → Bts W' A' r c' fun j => f (16 * t + j)) ∧
      (∃ gl1 k1 cap1, R3 g gc gl gl1 k1 cap1 st dl w (thrTo E E st dl n of f (List.range t)).1.1 (fun _ => 0) (sumTo n PL (List.range t)) wr) ∧ Own wr (w.heap.size + 3) ov (16 * t) (thrTo E E st dl n of f (List.range t)).2) (fun av _ _ _ => lenV av)
  case atStart => exact ⟨0, n, c, A, by omega, rfl, Nat.le_refl _, rfl, fun W' hW => by simpa using HB.out W' hW, ⟨gl, k, cap, hs⟩, Own.nil _ _ _⟩
  case round =>
    clear hs
    obtain ⟨t, r, c', A', hm, rfl, hcc, rfl, hB', ⟨gl1, k1, cap1, hs⟩, hown⟩ := hrel
    have HB' := Lib.hid hB'
    clear hB'
    obtain ⟨Tt, hTt⟩ : ∃ Tt, Tt = thrTo E E st dl n of f (List.range t) := ⟨_, rfl⟩
    obtain ⟨sm, hsm⟩ : ∃ sm, sm = sumTo n PL (List.range t) := ⟨_, rfl⟩
    rw [← hTt] at hs hown
    rw [← hsm] at hs
    have hlr := (HB'.out _ (hs.base h1 h2)).2.2
    by_cases hlt : 16 ≤ r
    · have i1 : (16 : Int) ≤ (r : Int) := by omega
      obtain ⟨b', o', hA', _⟩ := (HB'.out _ (hs.base h1 h2)).1 (by omega)
      subst hA'
      obtain ⟨of1, hof⟩ : ∃ of1, of1 = Tt.1.1 := ⟨_, rfl⟩
      obtain ⟨Ld, hLd⟩ : ∃ Ld, Ld = dbls (Lib.ctz 64 (t + 1) + 1) dl := ⟨_, rfl⟩
      obtain ⟨O1, hO1⟩ : ∃ O1, O1 = added of1 Ld := ⟨_, rfl⟩
      obtain ⟨B0, hB0⟩ : ∃ B0 : Nat → UInt8, B0 = fun j => f (16 * t + j) := ⟨_, rfl⟩
      obtain ⟨Y, hY⟩ : ∃ Y, Y = added B0 O1 := ⟨_, rfl⟩
      obtain ⟨Z, hZ⟩ : ∃ Z, Z = E Y := ⟨_, rfl⟩
      obtain ⟨Cc, hCc⟩ : ∃ Cc, Cc = added O1 Z := ⟨_, rfl⟩
      obtain ⟨FN, hFN⟩ : ∃ FN, FN = cpy (16 * t) 16 Tt.2 Cc := ⟨_, rfl⟩
      obtain ⟨SN, hSN⟩ : ∃ SN, SN = sumTo n PL (List.range (t + 1)) := ⟨_, rfl⟩
      have hnext : thrTo E E st dl n of f (List.range (t + 1)) = ((O1, t + 1), FN) := by
        rw [thr_whole E E st dl n of f t (by omega), ← hTt, ← hof, ← hLd, ← hO1, ← hB0, ← hY, ← hZ, added_comm Z O1, ← hCc, ← hFN]
      have hsum : ∀ j, j < 16 → added sm B0 j = SN j := fun j hj => by
        rw [hSN, List.range_succ, sumTo_snoc, ← hsm]
        show xr (sm j) (B0 j) = xr (sm j) (partB n PL t j)
        congr 1
        unfold partB padB
        rw [if_pos (show j < plen n t by unfold plen; omega)]
        rw [HPL.out, hB0]
      rw [← hof] at hs
      have HO1 := Lib.hid hO1
      have HB0 := Lib.hid hB0
      have HY := Lib.hid hY
      have HZ := Lib.hid hZ
      have HCc := Lib.hid hCc
      have HFN := Lib.hid hFN
      have HSN := Lib.hid hSN
      have HN := Lib.hid hnext
      have HS := Lib.hid hsum
      have HLD := Lib.hid hLd
      clear hof hO1 hB0 hY hZ hCc hFN hSN hnext hsum hLd hTt hsm
      go_wp2
      refine region_seq (fun W' => (∃ gl1 k1 cap1, R3 g gc gl gl1 k1 cap1 st dl w of1 (fun _ => 0) sm W') ∧ Own W' (w.heap.size + 3) u11 (16 * t) Tt.2) mixedOrders (by kernel_rfl) (by simp) ⟨⟨gl1, k1, cap1, hs.drew⟩, hown⟩ ?_
      clear hs hown
      refine Seq.next (.agg (row 16 of1)) (Sure.load_Row rfl 44 _ rfl w.heap.size rfl 44 16 _ _ (fun w' hS => by obtain ⟨_, _, _, hr⟩ := hS.1; exact hr.2.2.1) undBk sizeBk) ?_
      simp only [Act.put, List.setIfInBounds_toArray, List.set_cons_zero, List.set_cons_succ]
      refine Seq.next ?_ (Sure.val rfl (fun w' hS => ?_)) ?_
      rotate_left 1
      · clear hS
        go_simp
        rfl
      simp only [Act.put, List.setIfInBounds_toArray, List.set_cons_zero, List.set_cons_succ]
      refine Seq.next ?_ (Sure.val rfl (fun w' hS => ?_)) ?_
      rotate_left 1
      · clear hS
        go_simp
        rfl
      simp only [Act.put, List.setIfInBounds_toArray, List.set_cons_zero, List.set_cons_succ]
      refine Seq.next (.agg (row 16 Ld)) (Sure.call (f := 34) (args := #[.pointer (some ⟨g, 0, none⟩), .int .i64 ((t : Int) + 1)]) rfl (fun w' => by go_simp) (fun w' hS => by obtain ⟨a1, a2, a3, hr⟩ := hS.1; exact (at_c g gc a1 a2 a3 (t + 1) st dl w' hr.1.1 (by omega) (by omega)).mono fun e w'' h => ⟨by rw [HLD.out]; exact h.1, hr.at_ h.2, hS.2.at_ hr.1.1 h.2⟩)) ?_
      simp only [Act.put, List.setIfInBounds_toArray, List.set_cons_zero, List.set_cons_succ]
      refine Seq.next (.agg (row 16 O1)) (Sure.call (f := 19) (args := #[.agg (row 16 of1), .agg (row 16 Ld)]) rfl (fun w' => by go_simp) (fun w' hS => (rxor_c of1 Ld w').mono fun e w'' h => ⟨by rw [HO1.out]; exact h.1, by obtain ⟨a1, a2, a3, hr⟩ := hS.1; exact ⟨a1, a2, a3, hr.below h.2⟩, hS.2.below h.2⟩)) ?_
      simp only [Act.put, List.setIfInBounds_toArray, List.set_cons_zero, List.set_cons_succ]
      refine Seq.store_Row rfl 44 _ _ rfl w.heap.size rfl 44 16 _ O1 rfl (fun w' hS => by obtain ⟨_, _, _, hr⟩ := hS.1; exact hr.2.2.1) sizeBk fun w' hS => ?_
      obtain ⟨⟨a1, a2, a3, hr⟩, hown⟩ := hS
      have hown := hown.setBk hr.2.2.1 (row 16 O1)
      have hs := hr.put0 O1
      clear hr
      clear gl1 k1 cap1
      revert hs hown
      generalize w'.setRow w.heap.size (row 16 O1) = w2
      intro hown hs
      obtain ⟨gl1, e1⟩ : ∃ gl1, gl1 = a1 := ⟨_, rfl⟩
      obtain ⟨k1, e2⟩ : ∃ k1, k1 = a2 := ⟨_, rfl⟩
      obtain ⟨cap1, e3⟩ : ∃ cap1, cap1 = a3 := ⟨_, rfl⟩
      rw [← e1, ← e2, ← e3] at hs
      clear e1 e2 e3
      have j1 : (16 : Int) ≤ (c' : Int) := by omega
      have hat : ∀ w : World, (Instr.arrayAt 44 (.slice (some ⟨b', o', none⟩) 16 c')).run Tryd.prog w = .ok (.pointer (some ⟨b', o', none⟩)) w := fun w => run_arrayAt w 44 _ 16 _ 16 c' undBk (Nat.le_refl _)
      have hrg : w2.rangeAt b' o' (row 16 B0).toList := range_cells fun j hj => by rw [HB0.out]; exact bts_at (HB'.out w2 (hs.base h1 h2)) j (by omega)
      go_upto_region 11 with (first | (refine wpList_load_Part rfl 44 _ rfl b' o' rfl 16 B0 _ hrg undBk sizeBk ?_) | (refine wpList_alloc_Row rfl 44 rfl 16 zeroBk ?_) | (refine wpList_store_Row rfl 44 _ _ rfl w2.heap.size rfl 44 16 (fun _ => 0) _ rfl (Row.new _ _ _ _) sizeBk ?_))
      have hgb := hs.lt
      have hg1 := hs.1.1.ltl
      have hr0 := ((Row.new w2 44 16 (fun _ => 0)).setRow B0).alloc (.cells (row 16 fun _ => 0) 44)
      have hr1 := Row.new ((w2.alloc (.cells (row 16 fun _ => 0) 44)).setRow w2.heap.size (row 16 B0)) 44 16 (fun _ => 0)
      have hown := ((hown.below ((Below.refl _ _).alloc (Nat.le_refl _) (.cells (row 16 fun _ => 0) 44))).setBk (Row.new w2 44 16 (fun _ => 0)) (row 16 B0)).below ((Below.refl _ _).alloc (Nat.le_refl _) (.cells (row 16 fun _ => 0) 44))
      have hs := (((hs.alloc (.cells (row 16 fun _ => 0) 44)).far hgb (by omega) (row 16 B0)).alloc (.cells (row 16 fun _ => 0) 44))
      have hsz1 : ((w2.alloc (.cells (row 16 fun _ => 0) 44)).setRow w2.heap.size (row 16 B0)).heap.size = w2.heap.size + 1 := by simp [World.setRow]
      rw [hsz1] at hr1
      revert hr0 hr1 hown hs
      clear hown hs hat hrg hsz1
      generalize ((w2.alloc (.cells (row 16 fun _ => 0) 44)).setRow w2.heap.size (row 16 B0)).alloc (.cells (row 16 fun _ => 0) 44) = w3
      generalize w2.heap.size = gb at *
      intro hr0 hr1 hown hs
      refine region_seq (fun W' => R3 g gc gl gl1 k1 cap1 st dl w O1 (fun _ => 0) sm W' ∧ Own W' (w.heap.size + 3) u11 (16 * t) Tt.2 ∧ Row W' gb 44 16 B0 ∧ Row W' (gb + 1) 44 16 (fun _ => 0)) mixedOrders (by kernel_rfl) (by simp) ⟨hs.drew, hown, hr0.drew, hr1.drew⟩ ?_
      clear hs hown hr0 hr1
      refine Seq.next (.agg (row 16 O1)) (Sure.load_Row rfl 44 _ rfl w.heap.size rfl 44 16 _ _ (fun w' hS => hS.1.2.2.1) undBk sizeBk) ?_
      simp only [Act.put, List.setIfInBounds_toArray, List.set_cons_zero, List.set_cons_succ]
      refine Seq.next ?_ (Sure.val rfl (fun w' hS => ?_)) ?_
      rotate_left 1
      · clear hS
        go_simp
        rfl
      simp only [Act.put, List.setIfInBounds_toArray, List.set_cons_zero, List.set_cons_succ]
      refine Seq.next (.agg (row 16 B0)) (Sure.load_Row rfl 44 _ rfl gb rfl 44 16 _ _ (fun w' hS => hS.2.2.1) undBk sizeBk) ?_
      simp only [Act.put, List.setIfInBounds_toArray, List.set_cons_zero, List.set_cons_succ]
      refine Seq.next (.agg (row 16 O1)) (Sure.load_Row rfl 44 _ rfl w.heap.size rfl 44 16 _ _ (fun w' hS => hS.1.2.2.1) undBk sizeBk) ?_
      simp only [Act.put, List.setIfInBounds_toArray, List.set_cons_zero, List.set_cons_succ]
      refine Seq.next (.agg (row 16 Y)) (Sure.call (f := 19) (args := #[.agg (row 16 B0), .agg (row 16 O1)]) rfl (fun w' => by go_simp) (fun w' hS => (rxor_c B0 O1 w').mono fun e w'' h => ⟨by rw [HY.out]; exact h.1, hS.1.below h.2, hS.2.1.below h.2, hS.2.2.1.below h.2 hS.2.2.1.lt, hS.2.2.2.below h.2 hS.2.2.2.lt⟩)) ?_
      simp only [Act.put, List.setIfInBounds_toArray, List.set_cons_zero, List.set_cons_succ]
      refine Seq.next (.agg (row 16 Z)) (Sure.call (f := 32) (args := #[.pointer (some ⟨g, 0, none⟩), .agg (row 16 Y)]) rfl (fun w' => by go_simp) (fun w' hS => (oaes_c g gc gl1 k1 cap1 E D st dl Y w' hS.1.1.1 (HR.out w' (hS.1.base h1 h2))).mono fun e w'' h => ⟨by rw [HZ.out]; exact h.1, hS.1.below h.2, hS.2.1.below h.2, hS.2.2.1.below h.2 hS.2.2.1.lt, hS.2.2.2.below h.2 hS.2.2.2.lt⟩)) ?_
      simp only [Act.put, List.setIfInBounds_toArray, List.set_cons_zero, List.set_cons_succ]
      refine Seq.next (.agg (row 16 Cc)) (Sure.call (f := 19) (args := #[.agg (row 16 O1), .agg (row 16 Z)]) rfl (fun w' => by go_simp) (fun w' hS => (rxor_c O1 Z w').mono fun e w'' h => ⟨by rw [HCc.out]; exact h.1, hS.1.below h.2, hS.2.1.below h.2, hS.2.2.1.below h.2 hS.2.2.1.lt, hS.2.2.2.below h.2 hS.2.2.2.lt⟩)) ?_
      simp only [Act.put, List.setIfInBounds_toArray, List.set_cons_zero, List.set_cons_succ]
      refine Seq.store_Row rfl 44 _ _ rfl (gb + 1) rfl 44 16 _ Cc rfl (fun w' hS => hS.2.2.2) sizeBk fun w' hS => ?_
      have hown := hS.2.1.setBk hS.2.2.2 (row 16 Cc)
      have hr1 := hS.2.2.2.setRow Cc
      have hr0 := hS.2.2.1.setRow_far (k := gb + 1) (by omega) (row 16 Cc)
      have hs := hS.1.far (x := gb + 1) (by omega) (by omega) (row 16 Cc)
      clear hS
      revert hown hr1 hr0 hs
      generalize w'.setRow (gb + 1) (row 16 Cc) = w4
      intro hown hr1 hr0 hs
      go_wp2_with (first | (refine wpList_load_Row rfl 44 _ rfl (w.heap.size + 1 + 1) rfl 44 16 _ _ hs.2.2.2.2 undBk sizeBk ?_) | (refine wpList_load_Row rfl 44 _ rfl (gb + 1) rfl 44 16 _ _ hr1 undBk sizeBk ?_) | (refine wpList_load_Row rfl 44 _ rfl gb rfl 44 16 _ _ hr0 undBk sizeBk ?_) | (go_at_fn 19))
      obtain ⟨S2, hS2⟩ : ∃ S2, S2 = added sm B0 := ⟨_, rfl⟩
      have hx := rxor_c sm B0 w4
      rw [← hS2] at hx
      have hsum2 : ∀ j, j < 16 → S2 j = SN j := fun j hj => by rw [hS2]; exact HS.out j hj
      have HS2 := Lib.hid hsum2
      clear hS2 hsum2
      refine hx.mono ?_
      rintro e w5 ⟨rfl, hb5⟩
      have hown := hown.below hb5
      have hr1 := hr1.below hb5 hr1.lt
      have hs := hs.below hb5
      clear hx hr0 hb5
      go_upto_region 13 with (first | (refine wpList_store_Row rfl 44 _ _ rfl (w.heap.size + 1 + 1) rfl 44 16 _ _ rfl hs.2.2.2.2 sizeBk ?_))
      have hown := hown.setBk hs.2.2.2.2 (row 16 S2)
      have hr1 := hr1.setRow_far (k := w.heap.size + 2) (by omega) (row 16 S2)
      have hs := (hs.put2 S2).congr2 HS2.out
      revert hown hr1 hs
      clear hown hr1 hs
      rw [show w.heap.size + 2 = w.heap.size + 1 + 1 from rfl]
      generalize w5.setRow (w.heap.size + 1 + 1) (row 16 S2) = w6
      intro hown hr1 hs
      go_upto_region 14 with (first | (refine wpList_app2 rfl _ _ rfl (w.heap.size + 3) u11 (16 * t) Tt.2 rfl hown ⟨gb + 1, 0, none⟩ 16 16 Cc rfl (fun j hj => by rw [Addr.add_mid, Nat.zero_add]; exact hr1.cell j hj) (by omega) hs.lt ?_; intro v7 w7 hown7 hgr7))
      have hs := hs.grown hown hgr7
      have hown : Own w7 (w.heap.size + 3) v7 (16 * t + 16) FN := hown7.congr fun j hj => by
        rw [HFN.out]
        unfold both cpy
        by_cases h : j < 16 * t
        · rw [if_pos h, if_neg (by omega)]
        · rw [if_neg h, if_pos (by omega)]
      clear hown7 hgr7 hr1
      have e : (fun j => f (16 * (t + 1) + j)) = fun j => f (16 * t + (16 + j)) := funext fun j => by congr 1; omega
      have HE := Lib.hid e
      clear e
      by_cases hc16 : c' = 16
      · obtain rfl : r = 16 := by omega
        subst hc16
        go_wp2
        go_roundw
        case rel => exact ⟨t + 1, 0, 0, _, by omega, rfl, by omega, by go_num, fun W' _ => ⟨fun h => absurd h (by omega), (fun h => by cases h), Nat.le_refl _⟩, ⟨gl1, k1, cap1, by rw [HN.out, ← HSN.out]; exact hs⟩, by rw [HN.out]; exact hown⟩
        case measure => simp [lenV]
      · have hc16' : ¬ (c' : Int) = 16 := by omega
        have i2 : (16 : Int) ≤ (r : Int) := by omega
        go_wp2
        go_roundw
        case rel => exact ⟨t + 1, r - 16, c' - 16, _, by omega, rfl, by omega, by go_num, fun W' hW => by rw [HE.out]; exact (HB'.out W' hW).cut 16 hlt, ⟨gl1, k1, cap1, by rw [HN.out, ← HSN.out]; exact hs⟩, by rw [HN.out]; exact hown⟩
        case measure => simp [lenV]; omega
    · have i1 : ¬ (16 : Int) ≤ (r : Int) := by omega
      by_cases hr0 : r = 0
      · subst hr0
        have hK : (n + 15) / 16 = t := by omega
        have hfo : sumTo n PL (List.range ((n + 15) / 16)) = sm ∧ thrTo E E st dl n of f (List.range ((n + 15) / 16)) = Tt := by rw [hK, hsm, hTt]; exact ⟨rfl, rfl⟩
        obtain ⟨OF, hOF⟩ : ∃ OF, OF = Tt.1.1 := ⟨_, rfl⟩
        obtain ⟨SM, hSM⟩ : ∃ SM, SM = sm := ⟨_, rfl⟩
        obtain ⟨FI, hFI⟩ : ∃ FI, FI = Tt.2 := ⟨_, rfl⟩
        obtain ⟨OV, hOV⟩ : ∃ OV, OV = u11 := ⟨_, rfl⟩
        rw [← hFI, ← hOV, show 16 * t = n by omega] at hown
        rw [← hOF, ← hSM] at hs
        have hfin : sumTo n PL (List.range ((n + 15) / 16)) = SM ∧ (thrTo E E st dl n of f (List.range ((n + 15) / 16))).1.1 = OF ∧ (thrTo E E st dl n of f (List.range ((n + 15) / 16))).2 = FI := by
          rw [hfo.1, hfo.2]; exact ⟨hSM.symm, hOF.symm, hFI.symm⟩
        have HFIN := Lib.hid hfin
        rw [← hOV]
        clear hfin hfo hOF hSM hFI hK hm hsm hTt
        clear hOV
        go_wp2
        obtain ⟨P1, hP1⟩ : ∃ P1, P1 = added SM OF := ⟨_, rfl⟩
        obtain ⟨P2, hP2⟩ : ∃ P2, P2 = added P1 dl := ⟨_, rfl⟩
        obtain ⟨P3, hP3⟩ : ∃ P3, P3 = E P2 := ⟨_, rfl⟩
        have hfin3 : E (added (added SM OF) dl) = P3 := by rw [hP3, hP2, hP1]
        have HP1 := Lib.hid hP1
        have HP2 := Lib.hid hP2
        have HP3 := Lib.hid hP3
        have HF3 := Lib.hid hfin3
        clear hP1 hP2 hP3 hfin3
        have hk0 := hs.1.1.2.2.1
        have hk0' : (0 : Int) < (k1 : Int) := by omega
        refine region_seq (fun W' => R3 g gc gl gl1 k1 cap1 st dl w OF (fun _ => 0) SM W' ∧ Own W' (w.heap.size + 3) OV n FI) mixedOrders (by kernel_rfl) (by simp) ⟨hs.drew, hown⟩ ?_
        clear hs hown
        refine Seq.next ?_ (Sure.val rfl (fun w' hS => ?_)) ?_
        rotate_left 1
        · clear hS
          go_simp
          rfl
        simp only [Act.put, List.setIfInBounds_toArray, List.set_cons_zero, List.set_cons_succ]
        refine Seq.next ?_ (Sure.val rfl (fun w' hS => ?_)) ?_
        rotate_left 1
        · clear hS
          go_simp
          rfl
        simp only [Act.put, List.setIfInBounds_toArray, List.set_cons_zero, List.set_cons_succ]
        refine Seq.next (.agg (row 16 SM)) (Sure.load_Row rfl 44 _ rfl (w.heap.size + 1 + 1) rfl 44 16 _ _ (fun w' hS => hS.1.2.2.2.2) undBk sizeBk) ?_
        simp only [Act.put, List.setIfInBounds_toArray, List.set_cons_zero, List.set_cons_succ]
        refine Seq.next (.agg (row 16 OF)) (Sure.load_Row rfl 44 _ rfl w.heap.size rfl 44 16 _ _ (fun w' hS => hS.1.2.2.1) undBk sizeBk) ?_
        simp only [Act.put, List.setIfInBounds_toArray, List.set_cons_zero, List.set_cons_succ]
        refine Seq.next (.agg (row 16 P1)) (Sure.call (f := 19) (args := #[.agg (row 16 SM), .agg (row 16 OF)]) rfl (fun w' => by go_simp) (fun w' hS => (rxor_c SM OF w').mono fun e w'' h => ⟨by rw [HP1.out]; exact h.1, hS.1.below h.2, hS.2.below h.2⟩)) ?_
        simp only [Act.put, List.setIfInBounds_toArray, List.set_cons_zero, List.set_cons_succ]
        refine Seq.next ?_ (Sure.val rfl (fun w' hS => ?_)) ?_
        rotate_left 1
        · have e17 := hS.1.1.1.l
          clear hS
          go_simp
          rfl
        simp only [Act.put, List.setIfInBounds_toArray, List.set_cons_zero, List.set_cons_succ]
        refine Seq.next ?_ (Sure.val rfl (fun w' hS => ?_)) ?_
        rotate_left 1
        · have e17 := hS.1.1.1.l
          clear hS
          go_simp
          rfl
        simp only [Act.put, List.setIfInBounds_toArray, List.set_cons_zero, List.set_cons_succ]
        refine Seq.next ?_ (Sure.val rfl (fun w' hS => ?_)) ?_
        rotate_left 1
        · have e17 := hS.1.1.1.l
          clear hS
          go_simp
          rfl
        simp only [Act.put, List.setIfInBounds_toArray, List.set_cons_zero, List.set_cons_succ]
        refine Seq.next ?_ (Sure.val rfl (fun w' hS => ?_)) ?_
        rotate_left 1
        · have e17 := hS.1.1.1.l
          clear hS
          go_simp
          rfl
        simp only [Act.put, List.setIfInBounds_toArray, List.set_cons_zero, List.set_cons_succ]
        refine Seq.next ?_ (Sure.val rfl (fun w' hS => ?_)) ?_
        rotate_left 1
        · have e17 := hS.1.1.1.l
          clear hS
          go_simp
          rfl
        simp only [Act.put, List.setIfInBounds_toArray, List.set_cons_zero, List.set_cons_succ]
        refine Seq.next (.agg (row 16 dl)) (Sure.load_Part rfl 44 _ rfl gl1 0 rfl 16 dl _ (fun w' hS => hS.1.1.1.at_ 0 hk0) undBk sizeBk) ?_
        simp only [Act.put, List.setIfInBounds_toArray, List.set_cons_zero, List.set_cons_succ]
        refine Seq.next (.agg (row 16 P2)) (Sure.call (f := 19) (args := #[.agg (row 16 P1), .agg (row 16 dl)]) rfl (fun w' => by go_simp) (fun w' hS => (rxor_c P1 dl w').mono fun e w'' h => ⟨by rw [HP2.out]; exact h.1, hS.1.below h.2, hS.2.below h.2⟩)) ?_
        simp only [Act.put, List.setIfInBounds_toArray, List.set_cons_zero, List.set_cons_succ]
        refine Seq.next (.agg (row 16 P3)) (Sure.call (f := 32) (args := #[.pointer (some ⟨g, 0, none⟩), .agg (row 16 P2)]) rfl (fun w' => by go_simp) (fun w' hS => (oaes_c g gc gl1 k1 cap1 E D st dl P2 w' hS.1.1.1 (HR.out w' (hS.1.base h1 h2))).mono fun e w'' h => ⟨by rw [HP3.out]; exact h.1, hS.1.below h.2, hS.2.below h.2⟩)) ?_
        simp only [Act.put, List.setIfInBounds_toArray, List.set_cons_zero, List.set_cons_succ]
        refine Seq.next ?_ (Sure.val rfl (fun w' hS => ?_)) ?_
        rotate_left 1
        · clear hS
          go_simp
          rfl
        simp only [Act.put, List.setIfInBounds_toArray, List.set_cons_zero, List.set_cons_succ]
        refine Seq.store_Row rfl 44 _ _ rfl (w.heap.size + 1) rfl 44 16 _ P3 rfl (fun w' hS => hS.1.2.2.2.1) sizeBk fun w' hS => ?_
        have hown9 := hS.2.setBk hS.1.2.2.2.1 (row 16 P3)
        have hs9 := hS.1.put1 P3
        clear hS
        revert hown9 hs9
        generalize w'.setRow (w.heap.size + 1) (row 16 P3) = w9
        intro hown9 hs9
        go_wp2
        exact ret_tmp_Row rfl rfl _ _ 16 _ _ OV rfl rfl hs9.2.2.2.1 undBk sizeBk (⟨OV, by rw [HFIN.out.1, HFIN.out.2.1, HF3.out], by rw [HFIN.out.2.2]; exact hown9, hs9.done⟩)
      · have i2 : (0 : Int) < (r : Int) := by omega
        obtain ⟨b', o', hA', _⟩ := (HB'.out _ (hs.base h1 h2)).1 (by omega)
        subst hA'
        obtain ⟨of1, hof⟩ : ∃ of1, of1 = Tt.1.1 := ⟨_, rfl⟩
        obtain ⟨OF, hOF⟩ : ∃ OF, OF = added of1 st := ⟨_, rfl⟩
        obtain ⟨Pd, hPd⟩ : ∃ Pd, Pd = E OF := ⟨_, rfl⟩
        obtain ⟨G, hG⟩ : ∃ G : Nat → UInt8, G = fun j => xr (f (16 * t + j)) (Pd j) := ⟨_, rfl⟩
        obtain ⟨FI, hFI⟩ : ∃ FI, FI = cpy (16 * t) r Tt.2 G := ⟨_, rfl⟩
        obtain ⟨X, hX⟩ : ∃ X, X = padB r fun j => f (16 * t + j) := ⟨_, rfl⟩
        obtain ⟨SM, hSM⟩ : ∃ SM, SM = added sm X := ⟨_, rfl⟩
        have hK : (n + 15) / 16 = t + 1 := by omega
        have hrst : ∃ ct, thrTo E E st dl n of f (List.range (t + 1)) = ((OF, ct), FI) := by
          obtain ⟨ct, h⟩ := thr_rest E E st dl n of f t (by omega) (by omega)
          refine ⟨ct, h.trans ?_⟩
          rw [← hTt, ← hof, ← hOF, ← hPd, ← hG, show n - 16 * t = r by omega, ← hFI]
        have hfin : sumTo n PL (List.range ((n + 15) / 16)) = SM ∧ (thrTo E E st dl n of f (List.range ((n + 15) / 16))).1.1 = OF ∧ (thrTo E E st dl n of f (List.range ((n + 15) / 16))).2 = FI := by
          obtain ⟨ct, h⟩ := hrst
          refine ⟨?_, by rw [hK, h], by rw [hK, h]⟩
          rw [hK, List.range_succ, sumTo_snoc, ← hsm, hSM]
          congr 1
          rw [hX]
          show padB (plen n t) (fun j => PL (16 * t + j)) = _
          rw [show plen n t = r by unfold plen; omega]
          rw [HPL.out]
        rw [← hof] at hs
        have HOF := Lib.hid hOF
        have HPd := Lib.hid hPd
        have HG := Lib.hid hG
        have HFI := Lib.hid hFI
        have HX := Lib.hid hX
        have HSM := Lib.hid hSM
        have HFIN := Lib.hid hfin
        have HM := Lib.hid hm
        have hnr : r < 16 := by omega
        have hr0' : 0 < r := by omega
        have htn : 16 * t + r = n := hm.symm
        have HTN := Lib.hid htn
        have htb : 16 * t + r ≤ 140737488355328 := by omega
        clear hof hOF hPd hG hFI hX hSM hrst hfin hK hTt hsm hm htn
        go_wp2
        refine region_seq (fun W' => R3 g gc gl gl1 k1 cap1 st dl w of1 (fun _ => 0) sm W' ∧ Own W' (w.heap.size + 3) u11 (16 * t) Tt.2) mixedOrders (by kernel_rfl) (by simp) ⟨hs.drew, hown⟩ ?_
        clear hs hown
        refine Seq.next (.agg (row 16 of1)) (Sure.load_Row rfl 44 _ rfl w.heap.size rfl 44 16 _ _ (fun w' hS => hS.1.2.2.1) undBk sizeBk) ?_
        simp only [Act.put, List.setIfInBounds_toArray, List.set_cons_zero, List.set_cons_succ]
        refine Seq.next ?_ (Sure.val rfl (fun w' hS => ?_)) ?_
        rotate_left 1
        · clear hS
          go_simp
          rfl
        simp only [Act.put, List.setIfInBounds_toArray, List.set_cons_zero, List.set_cons_succ]
        refine Seq.next ?_ (Sure.val rfl (fun w' hS => ?_)) ?_
        rotate_left 1
        · clear hS
          go_simp
          rfl
        simp only [Act.put, List.setIfInBounds_toArray, List.set_cons_zero, List.set_cons_succ]
        refine Seq.next ?_ (Sure.val rfl (fun w' hS => ?_)) ?_
        rotate_left 1
        · clear hS
          go_simp
          rfl
        simp only [Act.put, List.setIfInBounds_toArray, List.set_cons_zero, List.set_cons_succ]
        refine Seq.next (.agg (row 16 st)) (Sure.load_Part rfl 44 _ rfl g 1 rfl 16 st _ (fun w' hS => hS.1.1.1.1.range 1 16 st fun j hj => ob_st _ _ _ j hj) undBk sizeBk) ?_
        simp only [Act.put, List.setIfInBounds_toArray, List.set_cons_zero, List.set_cons_succ]
        refine Seq.next (.agg (row 16 OF)) (Sure.call (f := 19) (args := #[.agg (row 16 of1), .agg (row 16 st)]) rfl (fun w' => by go_simp) (fun w' hS => (rxor_c of1 st w').mono fun e w'' h => ⟨by rw [HOF.out]; exact h.1, hS.1.below h.2, hS.2.below h.2⟩)) ?_
        simp only [Act.put, List.setIfInBounds_toArray, List.set_cons_zero, List.set_cons_succ]
        refine Seq.store_Row rfl 44 _ _ rfl w.heap.size rfl 44 16 _ OF rfl (fun w' hS => hS.1.2.2.1) sizeBk fun w' hS => ?_
        have hown := hS.2.setBk hS.1.2.2.1 (row 16 OF)
        have hs := hS.1.put0 OF
        clear hS
        revert hown hs
        generalize w'.setRow w.heap.size (row 16 OF) = w2
        intro hown hs
        go_wp2_with (first | (refine wpList_load_Row rfl 44 _ rfl w.heap.size rfl 44 16 _ _ hs.2.2.1 undBk sizeBk ?_) | (go_at_fn 32))
        have hx := oaes_c g gc gl1 k1 cap1 E D st dl OF w2 hs.1.1 (HR.out w2 (hs.base h1 h2))
        rw [← HPd.out] at hx
        refine hx.mono ?_
        rintro e w3 ⟨rfl, hb3⟩
        have hown := hown.below hb3
        have hs := hs.below hb3
        clear hx hb3
        go_upto_region 19 with (first | (refine wpList_alloc_Row rfl 44 rfl 16 zeroBk ?_) | (refine wpList_store_Row rfl 44 _ _ rfl w3.heap.size rfl 44 16 (fun _ => 0) _ rfl (Row.new _ _ _ _) sizeBk ?_))
        have hgp := hs.lt
        have hg1 := hs.1.1.ltl
        have hr1 := (Row.new w3 44 16 (fun _ => 0)).setRow Pd
        have hown := (hown.below ((Below.refl _ _).alloc (Nat.le_refl _) (.cells (row 16 fun _ => 0) 44))).setBk (Row.new w3 44 16 (fun _ => 0)) (row 16 Pd)
        have hs := (hs.alloc (.cells (row 16 fun _ => 0) 44)).far hgp (by omega) (row 16 Pd)
        revert hr1 hown hs
        clear hown hs
        generalize (w3.alloc (.cells (row 16 fun _ => 0) 44)).setRow w3.heap.size (row 16 Pd) = w4
        generalize w3.heap.size = gp at *
        intro hr1 hown hs
        go_upto_region 20 with (fail)
        have hub : ∀ x, u11.ownBlock = some x → x < w4.heap.size := fun x hx => (World.ownsRow.lt hown x hx).2
        have hres := Own.new w4 w4.heap.size (Nat.le_refl _) G
        have hz5 : w4.heap.size ≤ (w4.alloc (.cells #[] 5)).heap.size := by simp
        have hgp4 := hr1.lt
        have hg14 := hs.1.1.ltl
        have hown := hown.below ((Below.refl _ _).alloc (Nat.le_refl _) (.cells #[] 5))
        have hr1 := hr1.alloc (.cells #[] 5)
        have hs := hs.alloc (.cells #[] 5)
        revert hz5 hub hres hown hr1 hs hgp4 hg14
        clear hown hr1 hs
        generalize w4.alloc (.cells #[] 5) = w5
        generalize w4.heap.size = b2 at *
        intro hub hres hz5 hgp4 hg14 hown hr1 hs
        go_wp2
        go_loopw [16, 76] (fun rv kv wr => ∃ m : Nat, m ≤ r ∧ kv = .int .i64 m ∧ Own wr b2 rv m G ∧ R3 g gc gl gl1 k1 cap1 st dl w OF (fun _ => 0) sm wr ∧ Own wr (w.heap.size + 3) u11 (16 * t) Tt.2 ∧ Row wr gp 44 16 Pd ∧ b2 ≤ wr.heap.size) (fun _ kv _ => r - (intOf kv).toNat)
        case atStart => exact ⟨0, by omega, rfl, hres, hs, hown, hr1, hz5⟩
        case round =>
          clear hres hs hown hr1
          obtain ⟨m, hmr, rfl, hres, hs, hown, hr1, hsz⟩ := hrel
          by_cases hlt2 : m < r
          · have i3 : (m : Int) < (r : Int) := by omega
            have hm16 : m < 16 := by omega
            have i4 : (m : Int) < 16 := by omega
            go_wp2
            refine region_chain (fun q π W' => R3 g gc gl gl1 k1 cap1 st dl w OF (fun _ => 0) sm W' ∧ Own W' (w.heap.size + 3) u11 (16 * t) Tt.2 ∧ Row W' gp 44 16 Pd ∧ b2 ≤ W'.heap.size ∧ (q < 2 → Own W' b2 u16 m G) ∧ (1 ≤ q → ∃ gt, π 0 = .slice (some ⟨gt, 0, none⟩) 1 1 ∧ Row W' gt 5 1 (fun _ => G m) ∧ b2 ≤ gt ∧ u16.ownBlock ≠ some gt) ∧ (2 ≤ q → Own W' b2 (π 1) (m + 1) G)) (fun i => i == 9 || i == 10) mixedOrders (by kernel_rfl) (by kernel_rfl) (by simp)
              ⟨hs.drew, hown, hr1.drew, hsz, fun _ => hres, fun h => by omega, fun h => by omega⟩ ?_
            clear hs hown hr1 hsz hres
            refine SeqP.next ?_ (fun π q => Sure.val rfl (fun w' hS => ?_)) ?_
            rotate_left 1
            · clear hS
              go_simp
              rfl
            simp only [Act.put, List.setIfInBounds_toArray, List.set_cons_zero, List.set_cons_succ]
            refine SeqP.next ?_ (fun π q => Sure.val rfl (fun w' hS => ?_)) ?_
            rotate_left 1
            · clear hS
              go_simp
              rfl
            simp only [Act.put, List.setIfInBounds_toArray, List.set_cons_zero, List.set_cons_succ]
            refine SeqP.next ?_ (fun π q => Sure.val rfl (fun w' hS => ?_)) ?_
            rotate_left 1
            · clear hS
              go_simp
              rfl
            simp only [Act.put, List.setIfInBounds_toArray, List.set_cons_zero, List.set_cons_succ]
            refine SeqP.next ?_ (fun π q => Sure.val rfl (fun w' hS => ?_)) ?_
            rotate_left 1
            · have e1 := bts_at (HB'.out w' (hS.1.base h1 h2)) m hlt2
              have e2 := hS.2.2.1.cell m hm16
              clear hS
              go_simp
              rfl
            simp only [Act.put, List.setIfInBounds_toArray, List.set_cons_zero, List.set_cons_succ]
            refine SeqP.next ?_ (fun π q => Sure.val rfl (fun w' hS => ?_)) ?_
            rotate_left 1
            · have e1 := bts_at (HB'.out w' (hS.1.base h1 h2)) m hlt2
              have e2 := hS.2.2.1.cell m hm16
              clear hS
              go_simp
              rfl
            simp only [Act.put, List.setIfInBounds_toArray, List.set_cons_zero, List.set_cons_succ]
            refine SeqP.next ?_ (fun π q => Sure.val rfl (fun w' hS => ?_)) ?_
            rotate_left 1
            · have e1 := bts_at (HB'.out w' (hS.1.base h1 h2)) m hlt2
              have e2 := hS.2.2.1.cell m hm16
              clear hS
              go_simp
              rfl
            simp only [Act.put, List.setIfInBounds_toArray, List.set_cons_zero, List.set_cons_succ]
            refine SeqP.next ?_ (fun π q => Sure.val rfl (fun w' hS => ?_)) ?_
            rotate_left 1
            · have e1 := bts_at (HB'.out w' (hS.1.base h1 h2)) m hlt2
              have e2 := hS.2.2.1.cell m hm16
              clear hS
              go_simp
              rfl
            simp only [Act.put, List.setIfInBounds_toArray, List.set_cons_zero, List.set_cons_succ]
            refine SeqP.next ?_ (fun π q => Sure.val rfl (fun w' hS => ?_)) ?_
            rotate_left 1
            · have e1 := bts_at (HB'.out w' (hS.1.base h1 h2)) m hlt2
              have e2 := hS.2.2.1.cell m hm16
              clear hS
              go_simp
              rfl
            simp only [Act.put, List.setIfInBounds_toArray, List.set_cons_zero, List.set_cons_succ]
            refine SeqP.next (.int .u8 ((G m).toNat : Int)) (fun π q => Sure.val rfl (fun w' hS => ?_)) ?_
            · clear hS
              go_simp
              rw [xor8, HG.out]
            simp only [Act.put, List.setIfInBounds_toArray, List.set_cons_zero, List.set_cons_succ]
            refine SeqP.make rfl (fun π => ⟨rfl, fun w' hS => ⟨.slice (some ⟨w'.heap.size, 0, none⟩) 1 1, w'.alloc (.cells (row 1 fun _ => G m) 5), exec_build8 _ rfl (G m) rfl, ?_⟩⟩) ?_
            · have hal : Below w'.heap.size w' (w'.alloc (.cells (row 1 fun _ => G m) 5)) := (Below.refl _ _).alloc (Nat.le_refl _) _
              exact ⟨hS.1.below hal, hS.2.1.below hal, hS.2.2.1.below hal hS.2.2.1.lt, Nat.le_trans hS.2.2.2.1 hal.size, fun _ => (hS.2.2.2.2.1 (by omega)).below hal, fun _ => ⟨w'.heap.size, upd_same _ _ _, Row.new _ _ _ _, hS.2.2.2.1, fun e => by have := (World.ownsRow.lt (hS.2.2.2.2.1 (by omega)) _ e).2; omega⟩, fun h => by omega⟩
            simp only [Act.put, List.setIfInBounds_toArray, List.set_cons_zero, List.set_cons_succ]
            refine SeqP.make rfl (fun π => ⟨rfl, fun w' hS => ?_⟩) ?_
            · obtain ⟨hs, hown, hr1, hsz, hres, hbt, hx⟩ := hS
              clear hx
              obtain ⟨gt, hpi, hgt, hgb, hgn⟩ := hbt (by omega)
              have hres := hres (by omega)
              clear hbt
              obtain ⟨v', w2, hrun, hnew, hgr⟩ := run_app2 22 b2 u16 m G hres ⟨gt, 0, none⟩ 1 1 (fun _ => G m) (fun j hj => by rw [Addr.add_mid, Nat.zero_add]; exact hgt.cell j hj) (by omega) hsz
              have hlt3 : ∀ x, u16.ownBlock = some x → b2 ≤ x := fun x hx => (World.ownsRow.lt hres x hx).1
              refine ⟨v', w2, exec_app2 (.tmp 79) (.tmp 88) rfl _ (.slice (some ⟨gt, 0, none⟩) 1 1) _ rfl (by exact hpi) hrun, hs.grown (hres.weaken (by omega)) hgr, hown.kept_ hgr (fun x hx e => by have := hub x hx; have := hlt3 x e; omega), (hgr.block gp hr1.lt fun e => by have := hlt3 gp e.symm; omega).trans hr1, Nat.le_trans hsz hgr.size, fun h => by omega, fun _ => ⟨gt, (upd_ne π _ (by omega)).trans hpi, (hgr.block gt hgt.lt (Ne.symm hgn)).trans hgt, hgb, hgn⟩, fun _ => ?_⟩
              rw [upd_same]
              exact hnew.congr fun j hj => by
                unfold both
                by_cases e : j < m
                · rw [if_pos e]
                · rw [if_neg e, show j = m by omega]
            simp only [Act.put, List.setIfInBounds_toArray, List.set_cons_zero, List.set_cons_succ]
            refine SeqP.last (fun π => rfl) fun π w' hS => ?_
            obtain ⟨hs, hown, hr1, hsz, hx1, hx2, hres⟩ := hS
            have hres := hres (by omega)
            clear hx1 hx2
            go_simp
            go_wp2
            go_roundw
            case rel => exact ⟨m + 1, by omega, by go_num, hres, hs, hown, hr1, hsz⟩
            case measure => simp [intOf]; omega
          · have i3 : ¬ (m : Int) < (r : Int) := by omega
            have e : m = r := by omega
            rw [e] at hres
            clear e
            obtain ⟨gR, cR, hRV, hgR, hpR, hcR1, hcR2⟩ := Own.prow hres hr0'
            subst hRV
            go_upto_region 26 with (first | (refine wpList_app2 rfl _ _ rfl (w.heap.size + 3) u11 (16 * t) Tt.2 rfl hown ⟨gR, 0, none⟩ r cR G rfl (fun j hj => by rw [Addr.add_mid, Nat.zero_add]; exact hpR.cell j hj) (by omega) hs.lt ?_; intro OV w7 hown7 hgr7))
            have hs := hs.grown hown hgr7
            have hpR : PRow w7 gR 5 r G := by
              have hl := hpR.lt
              obtain ⟨cs, c1, c2⟩ := hpR
              exact ⟨cs, (hgr7.block gR hl fun e => by have := hub gR e.symm; omega).trans c1, c2⟩
            have hown : Own w7 (w.heap.size + 3) OV n FI := by
              have htn := HTN.out
              rw [htn] at hown7
              exact hown7.congr fun j hj => by
                rw [HFI.out]
                unfold both cpy
                by_cases h : j < 16 * t
                · rw [if_pos h, if_neg (by omega)]
                · rw [if_neg h, if_pos (by omega)]
            clear hown7 hgr7 hres hr1 hub hsz
            go_wp2
            refine region_seq (fun W' => R3 g gc gl gl1 k1 cap1 st dl w OF (fun _ => 0) sm W' ∧ Own W' (w.heap.size + 3) OV n FI ∧ PRow W' gR 5 r G) mixedOrders (by kernel_rfl) (by simp) ⟨hs.drew, hown, hpR.drew⟩ ?_
            clear hs hown hpR
            refine Seq.next (.agg (row 16 sm)) (Sure.load_Row rfl 44 _ rfl (w.heap.size + 1 + 1) rfl 44 16 _ _ (fun w' hS => hS.1.2.2.2.2) undBk sizeBk) ?_
            simp only [Act.put, List.setIfInBounds_toArray, List.set_cons_zero, List.set_cons_succ]
            refine Seq.next ?_ (Sure.val rfl (fun w' hS => ?_)) ?_
            rotate_left 1
            · clear hS
              go_simp
              rfl
            simp only [Act.put, List.setIfInBounds_toArray, List.set_cons_zero, List.set_cons_succ]
            refine Seq.next (.agg (row 16 X)) (Sure.call (f := 36) (args := #[.slice (some ⟨b', o', none⟩) r c']) rfl (fun w' => by go_simp) (fun w' hS => (rpadded_c b' o' r c' (fun j => f (16 * t + j)) w' (by omega) (by omega) (fun j hj => bts_at (HB'.out w' (hS.1.base h1 h2)) j hj)).mono fun e w'' h => ⟨by rw [HX.out]; exact h.1, hS.1.below h.2, hS.2.1.below h.2, hS.2.2.below h.2 hS.2.2.lt⟩)) ?_
            simp only [Act.put, List.setIfInBounds_toArray, List.set_cons_zero, List.set_cons_succ]
            refine Seq.next (.agg (row 16 SM)) (Sure.call (f := 19) (args := #[.agg (row 16 sm), .agg (row 16 X)]) rfl (fun w' => by go_simp) (fun w' hS => (rxor_c sm X w').mono fun e w'' h => ⟨by rw [HSM.out]; exact h.1, hS.1.below h.2, hS.2.1.below h.2, hS.2.2.below h.2 hS.2.2.lt⟩)) ?_
            simp only [Act.put, List.setIfInBounds_toArray, List.set_cons_zero, List.set_cons_succ]
            refine Seq.store_Row rfl 44 _ _ rfl (w.heap.size + 1 + 1) rfl 44 16 _ SM rfl (fun w' hS => hS.1.2.2.2.2) sizeBk fun w' hS => ?_
            have hown := hS.2.1.setBk hS.1.2.2.2.2 (row 16 SM)
            have hs := hS.1.put2 SM
            clear hS
            revert hown hs
            rw [show w.heap.size + 2 = w.heap.size + 1 + 1 from rfl]
            generalize w'.setRow (w.heap.size + 1 + 1) (row 16 SM) = w8
            intro hown hs
            go_wp2
            obtain ⟨P1, hP1⟩ : ∃ P1, P1 = added SM OF := ⟨_, rfl⟩
            obtain ⟨P2, hP2⟩ : ∃ P2, P2 = added P1 dl := ⟨_, rfl⟩
            obtain ⟨P3, hP3⟩ : ∃ P3, P3 = E P2 := ⟨_, rfl⟩
            have hfin3 : E (added (added SM OF) dl) = P3 := by rw [hP3, hP2, hP1]
            have HP1 := Lib.hid hP1
            have HP2 := Lib.hid hP2
            have HP3 := Lib.hid hP3
            have HF3 := Lib.hid hfin3
            clear hP1 hP2 hP3 hfin3
            have hk0 := hs.1.1.2.2.1
            have hk0' : (0 : Int) < (k1 : Int) := by omega
            refine region_seq (fun W' => R3 g gc gl gl1 k1 cap1 st dl w OF (fun _ => 0) SM W' ∧ Own W' (w.heap.size + 3) OV n FI) mixedOrders (by kernel_rfl) (by simp) ⟨hs.drew, hown⟩ ?_
            clear hs hown
            refine Seq.next ?_ (Sure.val rfl (fun w' hS => ?_)) ?_
            rotate_left 1
            · clear hS
              go_simp
              rfl
            simp only [Act.put, List.setIfInBounds_toArray, List.set_cons_zero, List.set_cons_succ]
            refine Seq.next ?_ (Sure.val rfl (fun w' hS => ?_)) ?_
            rotate_left 1
            · clear hS
              go_simp
              rfl
            simp only [Act.put, List.setIfInBounds_toArray, List.set_cons_zero, List.set_cons_succ]
            refine Seq.next (.agg (row 16 SM)) (Sure.load_Row rfl 44 _ rfl (w.heap.size + 1 + 1) rfl 44 16 _ _ (fun w' hS => hS.1.2.2.2.2) undBk sizeBk) ?_
            simp only [Act.put, List.setIfInBounds_toArray, List.set_cons_zero, List.set_cons_succ]
            refine Seq.next (.agg (row 16 OF)) (Sure.load_Row rfl 44 _ rfl w.heap.size rfl 44 16 _ _ (fun w' hS => hS.1.2.2.1) undBk sizeBk) ?_
            simp only [Act.put, List.setIfInBounds_toArray, List.set_cons_zero, List.set_cons_succ]
            refine Seq.next (.agg (row 16 P1)) (Sure.call (f := 19) (args := #[.agg (row 16 SM), .agg (row 16 OF)]) rfl (fun w' => by go_simp) (fun w' hS => (rxor_c SM OF w').mono fun e w'' h => ⟨by rw [HP1.out]; exact h.1, hS.1.below h.2, hS.2.below h.2⟩)) ?_
            simp only [Act.put, List.setIfInBounds_toArray, List.set_cons_zero, List.set_cons_succ]
            refine Seq.next ?_ (Sure.val rfl (fun w' hS => ?_)) ?_
            rotate_left 1
            · have e17 := hS.1.1.1.l
              clear hS
              go_simp
              rfl
            simp only [Act.put, List.setIfInBounds_toArray, List.set_cons_zero, List.set_cons_succ]
            refine Seq.next ?_ (Sure.val rfl (fun w' hS => ?_)) ?_
            rotate_left 1
            · have e17 := hS.1.1.1.l
              clear hS
              go_simp
              rfl
            simp only [Act.put, List.setIfInBounds_toArray, List.set_cons_zero, List.set_cons_succ]
            refine Seq.next ?_ (Sure.val rfl (fun w' hS => ?_)) ?_
            rotate_left 1
            · have e17 := hS.1.1.1.l
              clear hS
              go_simp
              rfl
            simp only [Act.put, List.setIfInBounds_toArray, List.set_cons_zero, List.set_cons_succ]
            refine Seq.next ?_ (Sure.val rfl (fun w' hS => ?_)) ?_
            rotate_left 1
            · have e17 := hS.1.1.1.l
              clear hS
              go_simp
              rfl
            simp only [Act.put, List.setIfInBounds_toArray, List.set_cons_zero, List.set_cons_succ]
            refine Seq.next ?_ (Sure.val rfl (fun w' hS => ?_)) ?_
            rotate_left 1
            · have e17 := hS.1.1.1.l
              clear hS
              go_simp
              rfl
            simp only [Act.put, List.setIfInBounds_toArray, List.set_cons_zero, List.set_cons_succ]
            refine Seq.next (.agg (row 16 dl)) (Sure.load_Part rfl 44 _ rfl gl1 0 rfl 16 dl _ (fun w' hS => hS.1.1.1.at_ 0 hk0) undBk sizeBk) ?_
            simp only [Act.put, List.setIfInBounds_toArray, List.set_cons_zero, List.set_cons_succ]
            refine Seq.next (.agg (row 16 P2)) (Sure.call (f := 19) (args := #[.agg (row 16 P1), .agg (row 16 dl)]) rfl (fun w' => by go_simp) (fun w' hS => (rxor_c P1 dl w').mono fun e w'' h => ⟨by rw [HP2.out]; exact h.1, hS.1.below h.2, hS.2.below h.2⟩)) ?_
            simp only [Act.put, List.setIfInBounds_toArray, List.set_cons_zero, List.set_cons_succ]
            refine Seq.next (.agg (row 16 P3)) (Sure.call (f := 32) (args := #[.pointer (some ⟨g, 0, none⟩), .agg (row 16 P2)]) rfl (fun w' => by go_simp) (fun w' hS => (oaes_c g gc gl1 k1 cap1 E D st dl P2 w' hS.1.1.1 (HR.out w' (hS.1.base h1 h2))).mono fun e w'' h => ⟨by rw [HP3.out]; exact h.1, hS.1.below h.2, hS.2.below h.2⟩)) ?_
            simp only [Act.put, List.setIfInBounds_toArray, List.set_cons_zero, List.set_cons_succ]
            refine Seq.next ?_ (Sure.val rfl (fun w' hS => ?_)) ?_
            rotate_left 1
            · clear hS
              go_simp
              rfl
            simp only [Act.put, List.setIfInBounds_toArray, List.set_cons_zero, List.set_cons_succ]
            refine Seq.store_Row rfl 44 _ _ rfl (w.heap.size + 1) rfl 44 16 _ P3 rfl (fun w' hS => hS.1.2.2.2.1) sizeBk fun w' hS => ?_
            have hown9 := hS.2.setBk hS.1.2.2.2.1 (row 16 P3)
            have hs9 := hS.1.put1 P3
            clear hS
            revert hown9 hs9
            generalize w'.setRow (w.heap.size + 1) (row 16 P3) = w9
            intro hown9 hs9
            go_wp2
            exact ret_tmp_Row rfl rfl _ _ 16 _ _ OV rfl rfl hs9.2.2.2.1 undBk sizeBk (⟨OV, by rw [HFIN.out.1, HFIN.out.2.1, HF3.out], by rw [HFIN.out.2.2]; exact hown9, hs9.done⟩)
end Go.Proofs.YtajifdnfibojfaaDoor

namespace Go.Proofs.YtajifdnfibojfaaDoor
open Go Go.RowKit
set_option maxRecDepth 100000

/-- What begun answers of a key and a nonce that are such. -/
def Begun (g gc gl cap n0 : Nat) (E D : (Nat → UInt8) → Nat → UInt8) (st dl : Nat → UInt8) (w w' : World) : Prop :=
  Ob g gc gl 1 cap st dl w' ∧ w.heap.size ≤ n0 ∧ n0 ≤ g ∧ n0 ≤ gl ∧ (∀ W', Below n0 w' W' → RCap gc E D W') ∧ Below w.heap.size w w'
/-- What stands when the tag is made: the object, the tag's block, the bytes that come out. -/
def TgI (n0 gt g gc b0 : Nat) (st dl : Nat → UInt8) (w1 : World) (v : Value) (q : Nat) (FI T : Nat → UInt8) (W : World) : Prop :=
  (∃ gl k cap, Ob g gc gl k cap st dl W ∧ n0 ≤ gl ∧ gl ≠ gt) ∧ Below n0 w1 W ∧ Row W gt 44 16 T ∧ Own W b0 v q FI ∧ n0 ≤ g ∧ n0 ≤ gt
section
variable {n0 gt g gc b0 q : Nat} {st dl FI T : Nat → UInt8} {w1 W W' : World} {v : Value}
theorem TgI.drew (h : TgI n0 gt g gc b0 st dl w1 v q FI T W) : TgI n0 gt g gc b0 st dl w1 v q FI T W.drew := by
  obtain ⟨⟨gl, k, cap, a, a2⟩, b, c, d⟩ := h
  exact ⟨⟨gl, k, cap, a.drew, a2⟩, b.drew, c.drew, d⟩
theorem TgI.below (h : TgI n0 gt g gc b0 st dl w1 v q FI T W) (hb : Below W.heap.size W W') : TgI n0 gt g gc b0 st dl w1 v q FI T W' := by
  obtain ⟨⟨gl, k, cap, a, a2⟩, b, c, d, e⟩ := h
  exact ⟨⟨gl, k, cap, a.below hb, a2⟩, b.trans (hb.mono (by have := a.1.lt; omega)), c.below hb c.lt, d.below hb, e⟩
theorem TgI.set_ (h : TgI n0 gt g gc b0 st dl w1 v q FI T W) (T' : Nat → UInt8) : TgI n0 gt g gc b0 st dl w1 v q FI T' (W.setRow gt (row 16 T')) := by
  obtain ⟨⟨gl, k, cap, a, a2⟩, b, c, d, e⟩ := h
  exact ⟨⟨gl, k, cap, a.setRow_far (Ne.symm (cells_ne a.1 c (Ne.symm (by decide)))) (Ne.symm a2.2) _, a2⟩, below_setRow8 b (by omega) _, c.setRow T', d.setBk c _, e⟩
end

set_option maxHeartbeats 4000000 in
theorem rseal_c (Ak An Aa Ap : Option Addr) (kn kc n c m c1 q c2 : Nat) (E D : (Nat → UInt8) → Nat → UInt8) (st dl V fa fp : Nat → UInt8) (w : World)
    (hbeg : Calls Tryd.prog 17 #[.slice Ak kn kc, .slice An n c] w fun e w' => ∃ g gc gl cap n0, e = .returned (.tuple #[.pointer (some ⟨g, 0, none⟩), .agg (row 16 V), .bool true]) ∧ Begun g gc gl cap n0 E D st dl w w')
    (ha : Bts w Aa m c1 fa) (hp : Bts w Ap q c2 fp) (hc1 : m ≤ 140737488355328) (hc2 : q ≤ 140737488351232) (TT FF : Nat → UInt8) (hTT : TT = added (E (added (added (sumTo q fp (List.range ((q + 15) / 16))) (thrTo E E st dl q V fp (List.range ((q + 15) / 16))).1.1) dl)) (hashTo E st dl m fa (List.range ((m + 15) / 16))).2)
    (hFF : FF = (thrTo E E st dl q V fp (List.range ((q + 15) / 16))).2) :
    Calls Tryd.prog 9 #[.slice Ak kn kc, .slice An n c, .slice Aa m c1, .slice Ap q c2] w fun e w' => ∃ v, e = .returned (.tuple #[v, .int .i64 0]) ∧ Own w' w.heap.size v (q + 16) (both q FF TT) ∧ Below w.heap.size w w' := by
  have HA := Lib.hid ha
  have HP := Lib.hid hp
  have HTT := Lib.hid hTT
  have HFF := Lib.hid hFF
  have hqc := hp.2.2
  clear ha hp hTT hFF
  go_enter Tryd.func9, Tryd.ntmps9
  go_upto_region 1 with (fail)
  go_upto_region 2 with (first | (go_at_fn 17))
  refine hbeg.mono ?_
  rintro e w1 ⟨g, gc, gl, cap, n0, rfl, ho, h0, h1, h2, hcap, hb⟩
  have HR := Lib.hid hcap
  clear hcap hbeg
  go_upto_region 2 with (first | (refine wpList_alloc_Row rfl 44 rfl 16 zeroBk ?_) | (refine wpList_store_Row rfl 44 _ _ rfl w1.heap.size rfl 44 16 (fun _ => 0) _ rfl (Row.new _ _ _ _) sizeBk ?_))
  have hgl0 := ho.ltl
  have hg0 := ho.1.lt
  have hv := (Row.new w1 44 16 (fun _ => 0)).setRow V
  have ho := (ho.alloc (.cells (row 16 fun _ => 0) 44)).setRow_far (x := w1.heap.size) (by omega) (by omega) (row 16 V)
  have hbn := below_setRow8 (((Below.refl n0 w1)).alloc (by omega) (.cells (row 16 fun _ => 0) 44)) (k := w1.heap.size) (by omega) (row 16 V)
  revert hv ho hbn
  clear ho
  generalize (w1.alloc (.cells (row 16 fun _ => 0) 44)).setRow w1.heap.size (row 16 V) = w2
  generalize hw1 : w1.heap.size = gv at *
  intro hv ho hbn
  go_wp2_with (first | (refine wpList_load_Row rfl 44 _ rfl gv rfl 44 16 _ _ hv undBk sizeBk ?_) | (go_at_fn 18))
  have HBL := Lib.hid (p := ∀ W', Below n0 w1 W' → Below w.heap.size w W') fun W' hW => hb.trans (hW.mono h0)
  obtain ⟨T, hT⟩ : ∃ T, T = E (added (added (sumTo q fp (List.range ((q + 15) / 16))) (thrTo E E st dl q V fp (List.range ((q + 15) / 16))).1.1) dl) := ⟨_, rfl⟩
  have hx := rthrS_c g gc gl 1 cap n0 q c2 Ap E D st dl V fp w2 ho h1 h2 (fun W' hW => HR.out W' (hbn.trans hW)) (fun W' hW => HP.out.below ((HBL.out W' (hbn.trans hW)))) (by omega) fp rfl
  rw [← hT, ← HFF.out] at hx
  have HT := Lib.hid hT
  clear hT
  refine hx.mono ?_
  rintro e w3 ⟨v, rfl, hown, hat⟩
  obtain ⟨gl1, k1, cap1, ho, hor, hfr⟩ := hat
  have hz2 := hv.lt
  have hbn := hbn.trans (hfr.1.mono (by omega))
  have hl1 : n0 ≤ gl1 := by omega
  clear hx hv hfr hor
  go_upto_region 5 with (first | (refine wpList_alloc_Row rfl 44 rfl 16 zeroBk ?_) | (refine wpList_store_Row rfl 44 _ _ rfl w3.heap.size rfl 44 16 (fun _ => 0) _ rfl (Row.new _ _ _ _) sizeBk ?_))
  have hI : TgI n0 w3.heap.size g gc w.heap.size st dl w1 v q FF (fun _ => 0) (w3.alloc (.cells (row 16 fun _ => 0) 44)) :=
    ⟨⟨gl1, k1, cap1, ho.alloc _, hl1, by have := ho.ltl; omega⟩, hbn.alloc (by have := ho.1.lt; omega) _, Row.new _ _ _ _, (hown.below ((Below.refl _ _).alloc (Nat.le_refl _) _)).weaken (by have := (HBL.out _ hbn).size; omega), h1, by have := ho.1.lt; omega⟩
  have hI := hI.set_ T
  revert hI
  clear ho hown hbn
  generalize (w3.alloc (.cells (row 16 fun _ => 0) 44)).setRow w3.heap.size (row 16 T) = w4
  generalize w3.heap.size = gt at *
  intro hI
  obtain ⟨Hs, hH⟩ : ∃ Hs, Hs = (hashTo E st dl m fa (List.range ((m + 15) / 16))).2 := ⟨_, rfl⟩
  have hT2 : TT = added T Hs := by rw [HTT.out, HT.out, hH]
  have HH := Lib.hid hH
  have HT2 := Lib.hid hT2
  clear hH hT2
  refine region_seq (fun W' => TgI n0 gt g gc w.heap.size st dl w1 v q FF T W') mixedOrders (by kernel_rfl) (by simp) hI.drew ?_
  clear hI
  refine Seq.next (.agg (row 16 T)) (Sure.load_Row rfl 44 _ rfl gt rfl 44 16 _ _ (fun w' hS => hS.2.2.1) undBk sizeBk) ?_
  simp only [Act.put, List.setIfInBounds_toArray, List.set_cons_zero, List.set_cons_succ]
  refine Seq.next ?_ (Sure.val rfl (fun w' hS => ?_)) ?_
  rotate_left 1
  · clear hS
    go_simp
    rfl
  simp only [Act.put, List.setIfInBounds_toArray, List.set_cons_zero, List.set_cons_succ]
  refine Seq.next ?_ (Sure.val rfl (fun w' hS => ?_)) ?_
  rotate_left 1
  · clear hS
    go_simp
    rfl
  simp only [Act.put, List.setIfInBounds_toArray, List.set_cons_zero, List.set_cons_succ]
  refine Seq.next (.agg (row 16 Hs)) (Sure.call (f := 20) (args := #[.pointer (some ⟨g, 0, none⟩), .slice Aa m c1]) rfl (fun w' => by go_simp) (fun w' hS => by
    obtain ⟨⟨gl2, k2, cap2, a, a2, a3⟩, b, c, d, e1, e2⟩ := hS
    refine (rhash_c g gc gl2 k2 cap2 n0 m c1 Aa E D st dl fa w' a e1 a2 (fun W' hW => HR.out W' (b.trans hW)) (fun W' hW => HA.out.below (HBL.out W' (b.trans hW))) (by omega)).mono ?_
    rintro e w'' ⟨rfl, hat⟩
    refine ⟨by rw [HH.out], ?_⟩
    have d2 := d.at_ a hat
    obtain ⟨gl3, k3, cap3, ho3, hor3, hfr3⟩ := hat
    exact ⟨⟨gl3, k3, cap3, ho3, by have := a.1.lt; omega, by have := c.lt; omega⟩, b.trans (hfr3.1.mono (by omega)), (hfr3.2 gt c.lt (Ne.symm (cells_ne a.1 c (Ne.symm (by decide)))) (Ne.symm a3)).trans c, d2, e1, e2⟩)) ?_
  simp only [Act.put, List.setIfInBounds_toArray, List.set_cons_zero, List.set_cons_succ]
  refine Seq.next (.agg (row 16 TT)) (Sure.call (f := 19) (args := #[.agg (row 16 T), .agg (row 16 Hs)]) rfl (fun w' => by go_simp) (fun w' hS => (rxor_c T Hs w').mono fun e w'' h => ⟨by rw [HT2.out]; exact h.1, hS.below h.2⟩)) ?_
  simp only [Act.put, List.setIfInBounds_toArray, List.set_cons_zero, List.set_cons_succ]
  refine Seq.store_Row rfl 44 _ _ rfl gt rfl 44 16 _ TT rfl (fun w' hS => hS.2.2.1) sizeBk fun w' hS => ?_
  have hI := hS.set_ TT
  clear hS
  revert hI
  generalize w'.setRow gt (row 16 TT) = w5
  intro hI
  obtain ⟨_, hbn, hr, hown, _, _⟩ := hI
  go_wp2_with (first | (refine wpList_app2 rfl _ _ rfl w.heap.size v q FF rfl hown ⟨gt, 0, none⟩ 16 16 TT rfl (fun j hj => by rw [Addr.add_mid, Nat.zero_add]; exact hr.cell j hj) (by omega) (HBL.out _ hbn).size ?_; intro v7 w7 hown7 hgr7))
  exact bodyPost_ret (results_tmp2 rfl _ _ _) rfl ⟨v7, rfl, hown7, (HBL.out _ hbn).grown hgr7 (HBL.out _ hbn).size (fun k hk => (World.ownsRow.lt hown k hk).1)⟩
end Go.Proofs.YtajifdnfibojfaaDoor

namespace Go.Proofs.YtajifdnfibojfaaDoor
open Go Go.RowKit
set_option maxRecDepth 100000

/-- What begun answers of a key or a nonce that is none. -/
def NotBegun (w : World) (e : Ending) (w' : World) : Prop := e = .returned (.tuple #[.pointer none, .agg (row 16 fun _ => 0), .bool false]) ∧ Below w.heap.size w w'
set_option maxHeartbeats 2000000 in
theorem rbegun_bad (Ak An : Option Addr) (kn kc n c : Nat) (b : Bool) (w : World) (hb : b = false ∨ n < 1 ∨ 15 < n)
    (hNew : ∀ w', Below w.heap.size w w' → Calls Tryd.prog 31 #[.slice Ak kn kc] w' fun e w'' => (∃ x, e = .returned (.tuple #[x, .bool b])) ∧ Below w'.heap.size w' w'') :
    Calls Tryd.prog 17 #[.slice Ak kn kc, .slice An n c] w (NotBegun w) := by
  have HW := Lib.hid hNew
  clear hNew
  go_enter Tryd.func17, Tryd.ntmps17
  go_upto_region 1 with (fail)
  rw [zero16]
  have hr := Row.new w 44 16 (fun _ => 0)
  have hb1 : Below w.heap.size w (w.alloc (.cells (row 16 fun _ => 0) 44)) := (Below.refl _ _).alloc (Nat.le_refl _) _
  revert hr hb1
  generalize w.alloc (.cells (row 16 fun _ => 0) 44) = w1
  intro hr hb1
  go_upto_region 2 with (first | (go_at_fn 31))
  refine (HW.out w1 hb1).mono ?_
  rintro e w2 ⟨⟨x, rfl⟩, hb2⟩
  have hr := hr.below hb2 hr.lt
  have hb1 := hb1.trans (hb2.mono hb1.size)
  clear hb2
  have hfin : b = false ∨ (b = true ∧ (n : Int) < 1) ∨ (b = true ∧ ¬ (n : Int) < 1 ∧ (15 : Int) < (n : Int)) := by
    cases b with
    | false => exact .inl rfl
    | true =>
      rcases hb with h | h | h
      · cases h
      · exact .inr (.inl ⟨rfl, by omega⟩)
      · exact .inr (.inr ⟨rfl, by omega, by omega⟩)
  clear hb
  rcases hfin with rfl | ⟨rfl, h1⟩ | ⟨rfl, h1, h2⟩
  all_goals
    go_upto_region 3 with (fail)
    go_wp2_with (first | (refine wpList_store_Row rfl 44 _ _ rfl w.heap.size rfl 44 16 (fun _ => 0) (fun _ => 0) rfl hr sizeBk ?_))
    exact ret_tmp_Row_tmp rfl rfl w.heap.size 44 16 (fun _ => 0) _ _ _ rfl rfl rfl (hr.setRow _) undBk sizeBk ⟨rfl, below_setRow8 hb1 (Nat.le_refl _) _⟩
set_option maxHeartbeats 2000000 in
theorem rSeal_bad (Ak An Aa Ap : Option Addr) (kn kc n c m c1 q c2 : Nat) (w : World) (hbeg : Calls Tryd.prog 17 #[.slice Ak kn kc, .slice An n c] w (NotBegun w)) :
    Calls Tryd.prog 9 #[.slice Ak kn kc, .slice An n c, .slice Aa m c1, .slice Ap q c2] w fun e w' => e = .returned (.tuple #[.slice none 0 0, .int .i64 1]) ∧ Below w.heap.size w w' := by
  go_enter Tryd.func9, Tryd.ntmps9
  go_upto_region 1 with (fail)
  go_upto_region 2 with (first | (go_at_fn 17))
  refine hbeg.mono ?_
  rintro e w1 ⟨rfl, hb⟩
  clear hbeg
  go_wp2_with (first | (refine wpList_alloc_Row rfl 44 rfl 16 zeroBk ?_) | (refine wpList_store_Row rfl 44 _ _ rfl w1.heap.size rfl 44 16 (fun _ => 0) _ rfl (Row.new _ _ _ _) sizeBk ?_))
  exact bodyPost_ret (results_tmp2 rfl _ _ _) rfl ⟨rfl, below_setRow8 (k := w1.heap.size) (hb.alloc hb.size _) hb.size _⟩
set_option maxHeartbeats 2000000 in
theorem rOpen_bad (Ak An Aa Ap : Option Addr) (kn kc n c m c1 q c2 : Nat) (w : World) (hbeg : Calls Tryd.prog 17 #[.slice Ak kn kc, .slice An n c] w (NotBegun w)) :
    Calls Tryd.prog 11 #[.slice Ak kn kc, .slice An n c, .slice Aa m c1, .slice Ap q c2] w fun e w' => e = .returned (.tuple #[.slice none 0 0, .int .i64 1]) ∧ Below w.heap.size w w' := by
  go_enter Tryd.func11, Tryd.ntmps11
  go_upto_region 1 with (fail)
  go_upto_region 2 with (first | (go_at_fn 17))
  refine hbeg.mono ?_
  rintro e w1 ⟨rfl, hb⟩
  clear hbeg
  go_wp2_with (first | (refine wpList_alloc_Row rfl 44 rfl 16 zeroBk ?_) | (refine wpList_store_Row rfl 44 _ _ rfl w1.heap.size rfl 44 16 (fun _ => 0) _ rfl (Row.new _ _ _ _) sizeBk ?_))
  exact bodyPost_ret (results_tmp2 rfl _ _ _) rfl ⟨rfl, below_setRow8 (k := w1.heap.size) (hb.alloc hb.size _) hb.size _⟩
end Go.Proofs.YtajifdnfibojfaaDoor
