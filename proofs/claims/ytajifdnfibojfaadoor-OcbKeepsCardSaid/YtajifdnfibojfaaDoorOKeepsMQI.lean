/- The document's through, opening. A region that draws its order and in which some operations have values that hang on the world, in no order among themselves: walked in the order of its text, those values left open, each under its operation's place. Plain theorems, over any program. The document's Open. What the two Opens answer; OcbOpens: the walk. What was sealed is opened: the bytes and the tag. No walk. What was sealed is opened, by the program. OcbBack: what was sealed is opened; with one byte turned, or cut off, it is judged as the document says: the walk. append, of any bytes, to a slice of the call's own: what it answers, what else may have changed, where it lies. No walk. OcbKeeps: what is handed in stays as it is, its spare room too: the walk. -/
import Derived.Test.YtajifdnfibojfaaDoorOKeepsMQE
import Derived.Test.YtajifdnfibojfaaDoorOKeepsMQG
import Derived.Test.YtajifdnfibojfaaDoorOKeepsMQD
import Derived.Test.YtajifdnfibojfaaDoorOKeepsMQH
import Derived.Test.YtajifdnfibojfaaDoorOKeepsMQC
import Derived.Deep.DeepCutAuto
namespace Go.Proofs.YtajifdnfibojfaaDoor
open Go Go.RowKit
set_option maxRecDepth 100000

set_option maxHeartbeats 8000000 in
theorem rthrO_c (g gc gl k cap n0 n c : Nat) (A : Option Addr) (E D : (Nat → UInt8) → Nat → UInt8) (st dl of f : Nat → UInt8) (w : World) (ho : Ob g gc gl k cap st dl w) (h1 : n0 ≤ g) (h2 : n0 ≤ gl)
    (hR : ∀ W', Below n0 w W' → RCap gc E D W') (hB : ∀ W', Below n0 w W' → Bts W' A n c f) (hc : n ≤ 140737488355328) (PL : Nat → UInt8) (hPL : PL = (thrTo D E st dl n of f (List.range ((n + 15) / 16))).2) :
    Calls Tryd.prog 18 #[.pointer (some ⟨g, 0, none⟩), .agg (row 16 of), .slice A n c, .bool true] w fun e w' =>
      ∃ v, e = .returned (.tuple #[v, .agg (row 16 (E (added (added (sumTo n PL (List.range ((n + 15) / 16))) (thrTo D E st dl n of f (List.range ((n + 15) / 16))).1.1) dl)))]) ∧ Own w' (w.heap.size + 3) v n (thrTo D E st dl n of f (List.range ((n + 15) / 16))).2 ∧ AtP g gc gl st dl w w' := by
  have HR := Lib.hid hR
  have hmc := (hB w (Below.refl _ _)).2.2
  have HB := Lib.hid hB
  clear hR hB
  have HPL := Lib.hid hPL
  clear hPL
  go_enter Tryd.func18, Tryd.ntmps18
  go_upto_region 2 with (fail)
  rw [zero16]
  have hs : R3 g gc gl gl k cap st dl w of (fun _ => 0) (fun _ => 0) (((w.alloc (.cells (row 16 of) 44)).alloc (.cells (row 16 fun _ => 0) 44)).alloc (.cells (row 16 fun _ => 0) 44)) := by
    obtain ⟨h0, h1, h2, h3⟩ := three_new w 44 of (fun _ => 0) (fun _ => 0) 16 16 16 44 44
    have hb : Below w.heap.size w (((w.alloc (.cells (row 16 of) 44)).alloc (.cells (row 16 fun _ => 0) 44)).alloc (.cells (row 16 fun _ => 0) 44)) := h3
    exact ⟨⟨ho.below hb, .inl rfl⟩, ⟨⟨hb.mono (by have := ho.1.lt; omega), fun x hx _ _ => hb.block x hx⟩, ho.1.lt, ho.ltl⟩, h0, h1, h2⟩
  revert hs
  generalize ((w.alloc (.cells (row 16 of) 44)).alloc (.cells (row 16 fun _ => 0) 44)).alloc (.cells (row 16 fun _ => 0) 44) = w1
  intro hs
  go_wp2
  go_loopw [2, 11, 12] (fun av ov iv wr => ∃ (t r c' : Nat) (A' : Option Addr), n = 16 * t + r ∧ av = .slice A' r c' ∧ c' ≤ c ∧ iv = .int .i64 ((t : Int) + 1) ∧ (∀ W', Below n0 w W' → Bts W' A' r c' fun j => f (16 * t + j)) ∧
      (∃ gl1 k1 cap1, R3 g gc gl gl1 k1 cap1 st dl w (thrTo D E st dl n of f (List.range t)).1.1 (fun _ => 0) (sumTo n PL (List.range t)) wr) ∧ Own wr (w.heap.size + 3) ov (16 * t) (thrTo D E st dl n of f (List.range t)).2) (fun av _ _ _ => lenV av)
  case atStart => exact ⟨0, n, c, A, by omega, rfl, Nat.le_refl _, rfl, fun W' hW => by simpa using HB.out W' hW, ⟨gl, k, cap, hs⟩, Own.nil _ _ _⟩
  case round =>
    clear hs
    obtain ⟨t, r, c', A', hm, rfl, hcc, rfl, hB', ⟨gl1, k1, cap1, hs⟩, hown⟩ := hrel
    have HB' := Lib.hid hB'
    clear hB'
    obtain ⟨Tt, hTt⟩ : ∃ Tt, Tt = thrTo D E st dl n of f (List.range t) := ⟨_, rfl⟩
    obtain ⟨sm, hsm⟩ : ∃ sm, sm = sumTo n PL (List.range t) := ⟨_, rfl⟩
    rw [← hTt] at hs hown
    rw [← hsm] at hs
    have hlr := (HB'.out _ (hs.base h1 h2)).2.2
    by_cases hlt : 16 ≤ r
    · have i1 : (16 : Int) ≤ (r : Int) := by omega
      obtain ⟨b', o', hA', _⟩ := (HB'.out _ (hs.base h1 h2)).1 (by omega)
      subst hA'
      obtain ⟨of1, hof⟩ : ∃ of1, of1 = Tt.1.1 := ⟨_, rfl⟩
      obtain ⟨Ld, hLd⟩ : ∃ Ld, Ld = dbls (Lib.ctz 64 (t + 1) + 1) dl := ⟨_, rfl⟩
      obtain ⟨O1, hO1⟩ : ∃ O1, O1 = added of1 Ld := ⟨_, rfl⟩
      obtain ⟨B0, hB0⟩ : ∃ B0 : Nat → UInt8, B0 = fun j => f (16 * t + j) := ⟨_, rfl⟩
      obtain ⟨Y, hY⟩ : ∃ Y, Y = added B0 O1 := ⟨_, rfl⟩
      obtain ⟨Z, hZ⟩ : ∃ Z, Z = D Y := ⟨_, rfl⟩
      obtain ⟨Cc, hCc⟩ : ∃ Cc, Cc = added O1 Z := ⟨_, rfl⟩
      obtain ⟨FN, hFN⟩ : ∃ FN, FN = cpy (16 * t) 16 Tt.2 Cc := ⟨_, rfl⟩
      obtain ⟨SN, hSN⟩ : ∃ SN, SN = sumTo n PL (List.range (t + 1)) := ⟨_, rfl⟩
      have hnext : thrTo D E st dl n of f (List.range (t + 1)) = ((O1, t + 1), FN) := by
        rw [thr_whole D E st dl n of f t (by omega), ← hTt, ← hof, ← hLd, ← hO1, ← hB0, ← hY, ← hZ, added_comm Z O1, ← hCc, ← hFN]
      have hsum : ∀ j, j < 16 → added sm Cc j = SN j := fun j hj => by
        rw [hSN, List.range_succ, sumTo_snoc, ← hsm]
        show xr (sm j) (Cc j) = xr (sm j) (partB n PL t j)
        congr 1
        unfold partB padB
        rw [if_pos (show j < plen n t by unfold plen; omega)]
        have h5 := thr_fix D E st dl n of f (t + 1) ((n + 15) / 16 - (t + 1)) (16 * t + j) (by omega)
        rw [show t + 1 + ((n + 15) / 16 - (t + 1)) = (n + 15) / 16 by omega, ← HPL.out, hnext, hFN] at h5
        refine (Eq.trans h5 ?_).symm
        show (if 16 * t ≤ 16 * t + j ∧ 16 * t + j < 16 * t + 16 then Cc (16 * t + j - 16 * t) else Tt.2 (16 * t + j)) = Cc j
        rw [if_pos (by omega), Nat.add_sub_cancel_left]
      rw [← hof] at hs
      have HO1 := Lib.hid hO1
      have HB0 := Lib.hid hB0
      have HY := Lib.hid hY
      have HZ := Lib.hid hZ
      have HCc := Lib.hid hCc
      have HFN := Lib.hid hFN
      have HSN := Lib.hid hSN
      have HN := Lib.hid hnext
      have HS := Lib.hid hsum
      have HLD := Lib.hid hLd
      clear hof hO1 hB0 hY hZ hCc hFN hSN hnext hsum hLd hTt hsm
      go_wp2
      refine region_seq (fun W' => (∃ gl1 k1 cap1, R3 g gc gl gl1 k1 cap1 st dl w of1 (fun _ => 0) sm W') ∧ Own W' (w.heap.size + 3) u11 (16 * t) Tt.2) mixedOrders (by kernel_rfl) (by simp) ⟨⟨gl1, k1, cap1, hs.drew⟩, hown⟩ ?_
      clear hs hown
      refine Seq.next (.agg (row 16 of1)) (Sure.load_Row rfl 44 _ rfl w.heap.size rfl 44 16 _ _ (fun w' hS => by obtain ⟨_, _, _, hr⟩ := hS.1; exact hr.2.2.1) undBk sizeBk) ?_
      simp only [Act.put, List.setIfInBounds_toArray, List.set_cons_zero, List.set_cons_succ]
      refine Seq.next ?_ (Sure.val rfl (fun w' hS => ?_)) ?_
      rotate_left 1
      · clear hS
        go_simp
        rfl
      simp only [Act.put, List.setIfInBounds_toArray, List.set_cons_zero, List.set_cons_succ]
      refine Seq.next ?_ (Sure.val rfl (fun w' hS => ?_)) ?_
      rotate_left 1
      · clear hS
        go_simp
        rfl
      simp only [Act.put, List.setIfInBounds_toArray, List.set_cons_zero, List.set_cons_succ]
      refine Seq.next (.agg (row 16 Ld)) (Sure.call (f := 34) (args := #[.pointer (some ⟨g, 0, none⟩), .int .i64 ((t : Int) + 1)]) rfl (fun w' => by go_simp) (fun w' hS => by obtain ⟨a1, a2, a3, hr⟩ := hS.1; exact (at_c g gc a1 a2 a3 (t + 1) st dl w' hr.1.1 (by omega) (by omega)).mono fun e w'' h => ⟨by rw [HLD.out]; exact h.1, hr.at_ h.2, hS.2.at_ hr.1.1 h.2⟩)) ?_
      simp only [Act.put, List.setIfInBounds_toArray, List.set_cons_zero, List.set_cons_succ]
      refine Seq.next (.agg (row 16 O1)) (Sure.call (f := 19) (args := #[.agg (row 16 of1), .agg (row 16 Ld)]) rfl (fun w' => by go_simp) (fun w' hS => (rxor_c of1 Ld w').mono fun e w'' h => ⟨by rw [HO1.out]; exact h.1, by obtain ⟨a1, a2, a3, hr⟩ := hS.1; exact ⟨a1, a2, a3, hr.below h.2⟩, hS.2.below h.2⟩)) ?_
      simp only [Act.put, List.setIfInBounds_toArray, List.set_cons_zero, List.set_cons_succ]
      refine Seq.store_Row rfl 44 _ _ rfl w.heap.size rfl 44 16 _ O1 rfl (fun w' hS => by obtain ⟨_, _, _, hr⟩ := hS.1; exact hr.2.2.1) sizeBk fun w' hS => ?_
      obtain ⟨⟨a1, a2, a3, hr⟩, hown⟩ := hS
      have hown := hown.setBk hr.2.2.1 (row 16 O1)
      have hs := hr.put0 O1
      clear hr
      clear gl1 k1 cap1
      revert hs hown
      generalize w'.setRow w.heap.size (row 16 O1) = w2
      intro hown hs
      obtain ⟨gl1, e1⟩ : ∃ gl1, gl1 = a1 := ⟨_, rfl⟩
      obtain ⟨k1, e2⟩ : ∃ k1, k1 = a2 := ⟨_, rfl⟩
      obtain ⟨cap1, e3⟩ : ∃ cap1, cap1 = a3 := ⟨_, rfl⟩
      rw [← e1, ← e2, ← e3] at hs
      clear e1 e2 e3
      have j1 : (16 : Int) ≤ (c' : Int) := by omega
      have hat : ∀ w : World, (Instr.arrayAt 44 (.slice (some ⟨b', o', none⟩) 16 c')).run Tryd.prog w = .ok (.pointer (some ⟨b', o', none⟩)) w := fun w => run_arrayAt w 44 _ 16 _ 16 c' undBk (Nat.le_refl _)
      have hrg : w2.rangeAt b' o' (row 16 B0).toList := range_cells fun j hj => by rw [HB0.out]; exact bts_at (HB'.out w2 (hs.base h1 h2)) j (by omega)
      go_upto_region 9 with (first | (refine wpList_load_Part rfl 44 _ rfl b' o' rfl 16 B0 _ hrg undBk sizeBk ?_) | (refine wpList_alloc_Row rfl 44 rfl 16 zeroBk ?_) | (refine wpList_store_Row rfl 44 _ _ rfl w2.heap.size rfl 44 16 (fun _ => 0) _ rfl (Row.new _ _ _ _) sizeBk ?_))
      have hgb := hs.lt
      have hg1 := hs.1.1.ltl
      have hr0 := ((Row.new w2 44 16 (fun _ => 0)).setRow B0).alloc (.cells (row 16 fun _ => 0) 44)
      have hr1 := Row.new ((w2.alloc (.cells (row 16 fun _ => 0) 44)).setRow w2.heap.size (row 16 B0)) 44 16 (fun _ => 0)
      have hown := ((hown.below ((Below.refl _ _).alloc (Nat.le_refl _) (.cells (row 16 fun _ => 0) 44))).setBk (Row.new w2 44 16 (fun _ => 0)) (row 16 B0)).below ((Below.refl _ _).alloc (Nat.le_refl _) (.cells (row 16 fun _ => 0) 44))
      have hs := (((hs.alloc (.cells (row 16 fun _ => 0) 44)).far hgb (by omega) (row 16 B0)).alloc (.cells (row 16 fun _ => 0) 44))
      have hsz1 : ((w2.alloc (.cells (row 16 fun _ => 0) 44)).setRow w2.heap.size (row 16 B0)).heap.size = w2.heap.size + 1 := by simp [World.setRow]
      rw [hsz1] at hr1
      revert hr0 hr1 hown hs
      clear hown hs hat hrg hsz1
      generalize ((w2.alloc (.cells (row 16 fun _ => 0) 44)).setRow w2.heap.size (row 16 B0)).alloc (.cells (row 16 fun _ => 0) 44) = w3
      generalize w2.heap.size = gb at *
      intro hr0 hr1 hown hs
      refine region_seq (fun W' => R3 g gc gl gl1 k1 cap1 st dl w O1 (fun _ => 0) sm W' ∧ Own W' (w.heap.size + 3) u11 (16 * t) Tt.2 ∧ Row W' gb 44 16 B0 ∧ Row W' (gb + 1) 44 16 (fun _ => 0)) mixedOrders (by kernel_rfl) (by simp) ⟨hs.drew, hown, hr0.drew, hr1.drew⟩ ?_
      clear hs hown hr0 hr1
      refine Seq.next (.agg (row 16 O1)) (Sure.load_Row rfl 44 _ rfl w.heap.size rfl 44 16 _ _ (fun w' hS => hS.1.2.2.1) undBk sizeBk) ?_
      simp only [Act.put, List.setIfInBounds_toArray, List.set_cons_zero, List.set_cons_succ]
      refine Seq.next ?_ (Sure.val rfl (fun w' hS => ?_)) ?_
      rotate_left 1
      · have e0 := hS.1.1.1.c
        clear hS
        go_simp
        rfl
      simp only [Act.put, List.setIfInBounds_toArray, List.set_cons_zero, List.set_cons_succ]
      refine Seq.next ?_ (Sure.val rfl (fun w' hS => ?_)) ?_
      rotate_left 1
      · have e0 := hS.1.1.1.c
        clear hS
        go_simp
        rfl
      simp only [Act.put, List.setIfInBounds_toArray, List.set_cons_zero, List.set_cons_succ]
      refine Seq.next ?_ (Sure.val rfl (fun w' hS => ?_)) ?_
      rotate_left 1
      · have e0 := hS.1.1.1.c
        clear hS
        go_simp
        rfl
      simp only [Act.put, List.setIfInBounds_toArray, List.set_cons_zero, List.set_cons_succ]
      refine Seq.next ?_ (Sure.val rfl (fun w' hS => ?_)) ?_
      rotate_left 1
      · have e0 := hS.1.1.1.c
        clear hS
        go_simp
        rfl
      simp only [Act.put, List.setIfInBounds_toArray, List.set_cons_zero, List.set_cons_succ]
      refine Seq.next (.agg (row 16 B0)) (Sure.load_Row rfl 44 _ rfl gb rfl 44 16 _ _ (fun w' hS => hS.2.2.1) undBk sizeBk) ?_
      simp only [Act.put, List.setIfInBounds_toArray, List.set_cons_zero, List.set_cons_succ]
      refine Seq.next (.agg (row 16 O1)) (Sure.load_Row rfl 44 _ rfl w.heap.size rfl 44 16 _ _ (fun w' hS => hS.1.2.2.1) undBk sizeBk) ?_
      simp only [Act.put, List.setIfInBounds_toArray, List.set_cons_zero, List.set_cons_succ]
      refine Seq.next (.agg (row 16 Y)) (Sure.call (f := 19) (args := #[.agg (row 16 B0), .agg (row 16 O1)]) rfl (fun w' => by go_simp) (fun w' hS => (rxor_c B0 O1 w').mono fun e w'' h => ⟨by rw [HY.out]; exact h.1, hS.1.below h.2, hS.2.1.below h.2, hS.2.2.1.below h.2 hS.2.2.1.lt, hS.2.2.2.below h.2 hS.2.2.2.lt⟩)) ?_
      simp only [Act.put, List.setIfInBounds_toArray, List.set_cons_zero, List.set_cons_succ]
      refine Seq.next (.agg (row 16 Z)) (Sure.call (f := 35) (args := #[.pointer (some ⟨gc, 0, none⟩), .agg (row 16 Y)]) rfl (fun w' => by go_simp) (fun w' hS => ((HR.out w' (hS.1.base h1 h2)).2 w' (Below.refl _ _) Y).mono fun e w'' h => ⟨by rw [HZ.out]; exact h.1, hS.1.below h.2, hS.2.1.below h.2, hS.2.2.1.below h.2 hS.2.2.1.lt, hS.2.2.2.below h.2 hS.2.2.2.lt⟩)) ?_
      simp only [Act.put, List.setIfInBounds_toArray, List.set_cons_zero, List.set_cons_succ]
      refine Seq.next (.agg (row 16 Cc)) (Sure.call (f := 19) (args := #[.agg (row 16 O1), .agg (row 16 Z)]) rfl (fun w' => by go_simp) (fun w' hS => (rxor_c O1 Z w').mono fun e w'' h => ⟨by rw [HCc.out]; exact h.1, hS.1.below h.2, hS.2.1.below h.2, hS.2.2.1.below h.2 hS.2.2.1.lt, hS.2.2.2.below h.2 hS.2.2.2.lt⟩)) ?_
      simp only [Act.put, List.setIfInBounds_toArray, List.set_cons_zero, List.set_cons_succ]
      refine Seq.store_Row rfl 44 _ _ rfl (gb + 1) rfl 44 16 _ Cc rfl (fun w' hS => hS.2.2.2) sizeBk fun w' hS => ?_
      have hown := hS.2.1.setBk hS.2.2.2 (row 16 Cc)
      have hr1 := hS.2.2.2.setRow Cc
      have hr0 := hS.2.2.1.setRow_far (k := gb + 1) (by omega) (row 16 Cc)
      have hs := hS.1.far (x := gb + 1) (by omega) (by omega) (row 16 Cc)
      clear hS
      revert hown hr1 hr0 hs
      generalize w'.setRow (gb + 1) (row 16 Cc) = w4
      intro hown hr1 hr0 hs
      go_wp2_with (first | (refine wpList_load_Row rfl 44 _ rfl (w.heap.size + 1 + 1) rfl 44 16 _ _ hs.2.2.2.2 undBk sizeBk ?_) | (refine wpList_load_Row rfl 44 _ rfl (gb + 1) rfl 44 16 _ _ hr1 undBk sizeBk ?_) | (refine wpList_load_Row rfl 44 _ rfl gb rfl 44 16 _ _ hr0 undBk sizeBk ?_) | (go_at_fn 19))
      obtain ⟨S2, hS2⟩ : ∃ S2, S2 = added sm Cc := ⟨_, rfl⟩
      have hx := rxor_c sm Cc w4
      rw [← hS2] at hx
      have hsum2 : ∀ j, j < 16 → S2 j = SN j := fun j hj => by rw [hS2]; exact HS.out j hj
      have HS2 := Lib.hid hsum2
      clear hS2 hsum2
      refine hx.mono ?_
      rintro e w5 ⟨rfl, hb5⟩
      have hown := hown.below hb5
      have hr1 := hr1.below hb5 hr1.lt
      have hs := hs.below hb5
      clear hx hr0 hb5
      go_upto_region 13 with (first | (refine wpList_store_Row rfl 44 _ _ rfl (w.heap.size + 1 + 1) rfl 44 16 _ _ rfl hs.2.2.2.2 sizeBk ?_))
      have hown := hown.setBk hs.2.2.2.2 (row 16 S2)
      have hr1 := hr1.setRow_far (k := w.heap.size + 2) (by omega) (row 16 S2)
      have hs := (hs.put2 S2).congr2 HS2.out
      revert hown hr1 hs
      clear hown hr1 hs
      rw [show w.heap.size + 2 = w.heap.size + 1 + 1 from rfl]
      generalize w5.setRow (w.heap.size + 1 + 1) (row 16 S2) = w6
      intro hown hr1 hs
      go_upto_region 14 with (first | (refine wpList_app2 rfl _ _ rfl (w.heap.size + 3) u11 (16 * t) Tt.2 rfl hown ⟨gb + 1, 0, none⟩ 16 16 Cc rfl (fun j hj => by rw [Addr.add_mid, Nat.zero_add]; exact hr1.cell j hj) (by omega) hs.lt ?_; intro v7 w7 hown7 hgr7))
      have hs := hs.grown hown hgr7
      have hown : Own w7 (w.heap.size + 3) v7 (16 * t + 16) FN := hown7.congr fun j hj => by
        rw [HFN.out]
        unfold both cpy
        by_cases h : j < 16 * t
        · rw [if_pos h, if_neg (by omega)]
        · rw [if_neg h, if_pos (by omega)]
      clear hown7 hgr7 hr1
      have e : (fun j => f (16 * (t + 1) + j)) = fun j => f (16 * t + (16 + j)) := funext fun j => by congr 1; omega
      have HE := Lib.hid e
      clear e
      by_cases hc16 : c' = 16
      · obtain rfl : r = 16 := by omega
        subst hc16
        go_wp2
        go_roundw
        case rel => exact ⟨t + 1, 0, 0, _, by omega, rfl, by omega, by go_num, fun W' _ => ⟨fun h => absurd h (by omega), (fun h => by cases h), Nat.le_refl _⟩, ⟨gl1, k1, cap1, by rw [HN.out, ← HSN.out]; exact hs⟩, by rw [HN.out]; exact hown⟩
        case measure => simp [lenV]
      · have hc16' : ¬ (c' : Int) = 16 := by omega
        have i2 : (16 : Int) ≤ (r : Int) := by omega
        go_wp2
        go_roundw
        case rel => exact ⟨t + 1, r - 16, c' - 16, _, by omega, rfl, by omega, by go_num, fun W' hW => by rw [HE.out]; exact (HB'.out W' hW).cut 16 hlt, ⟨gl1, k1, cap1, by rw [HN.out, ← HSN.out]; exact hs⟩, by rw [HN.out]; exact hown⟩
        case measure => simp [lenV]; omega
    · have i1 : ¬ (16 : Int) ≤ (r : Int) := by omega
      by_cases hr0 : r = 0
      · subst hr0
        have hK : (n + 15) / 16 = t := by omega
        have hfo : sumTo n PL (List.range ((n + 15) / 16)) = sm ∧ thrTo D E st dl n of f (List.range ((n + 15) / 16)) = Tt := by rw [hK, hsm, hTt]; exact ⟨rfl, rfl⟩
        obtain ⟨OF, hOF⟩ : ∃ OF, OF = Tt.1.1 := ⟨_, rfl⟩
        obtain ⟨SM, hSM⟩ : ∃ SM, SM = sm := ⟨_, rfl⟩
        obtain ⟨FI, hFI⟩ : ∃ FI, FI = Tt.2 := ⟨_, rfl⟩
        obtain ⟨OV, hOV⟩ : ∃ OV, OV = u11 := ⟨_, rfl⟩
        rw [← hFI, ← hOV, show 16 * t = n by omega] at hown
        rw [← hOF, ← hSM] at hs
        have hfin : sumTo n PL (List.range ((n + 15) / 16)) = SM ∧ (thrTo D E st dl n of f (List.range ((n + 15) / 16))).1.1 = OF ∧ (thrTo D E st dl n of f (List.range ((n + 15) / 16))).2 = FI := by
          rw [hfo.1, hfo.2]; exact ⟨hSM.symm, hOF.symm, hFI.symm⟩
        have HFIN := Lib.hid hfin
        rw [← hOV]
        clear hfin hfo hOF hSM hFI hK hm hsm hTt
        clear hOV
        go_wp2
        obtain ⟨P1, hP1⟩ : ∃ P1, P1 = added SM OF := ⟨_, rfl⟩
        obtain ⟨P2, hP2⟩ : ∃ P2, P2 = added P1 dl := ⟨_, rfl⟩
        obtain ⟨P3, hP3⟩ : ∃ P3, P3 = E P2 := ⟨_, rfl⟩
        have hfin3 : E (added (added SM OF) dl) = P3 := by rw [hP3, hP2, hP1]
        have HP1 := Lib.hid hP1
        have HP2 := Lib.hid hP2
        have HP3 := Lib.hid hP3
        have HF3 := Lib.hid hfin3
        clear hP1 hP2 hP3 hfin3
        have hk0 := hs.1.1.2.2.1
        have hk0' : (0 : Int) < (k1 : Int) := by omega
        refine region_seq (fun W' => R3 g gc gl gl1 k1 cap1 st dl w OF (fun _ => 0) SM W' ∧ Own W' (w.heap.size + 3) OV n FI) mixedOrders (by kernel_rfl) (by simp) ⟨hs.drew, hown⟩ ?_
        clear hs hown
        refine Seq.next ?_ (Sure.val rfl (fun w' hS => ?_)) ?_
        rotate_left 1
        · clear hS
          go_simp
          rfl
        simp only [Act.put, List.setIfInBounds_toArray, List.set_cons_zero, List.set_cons_succ]
        refine Seq.next ?_ (Sure.val rfl (fun w' hS => ?_)) ?_
        rotate_left 1
        · clear hS
          go_simp
          rfl
        simp only [Act.put, List.setIfInBounds_toArray, List.set_cons_zero, List.set_cons_succ]
        refine Seq.next (.agg (row 16 SM)) (Sure.load_Row rfl 44 _ rfl (w.heap.size + 1 + 1) rfl 44 16 _ _ (fun w' hS => hS.1.2.2.2.2) undBk sizeBk) ?_
        simp only [Act.put, List.setIfInBounds_toArray, List.set_cons_zero, List.set_cons_succ]
        refine Seq.next (.agg (row 16 OF)) (Sure.load_Row rfl 44 _ rfl w.heap.size rfl 44 16 _ _ (fun w' hS => hS.1.2.2.1) undBk sizeBk) ?_
        simp only [Act.put, List.setIfInBounds_toArray, List.set_cons_zero, List.set_cons_succ]
        refine Seq.next (.agg (row 16 P1)) (Sure.call (f := 19) (args := #[.agg (row 16 SM), .agg (row 16 OF)]) rfl (fun w' => by go_simp) (fun w' hS => (rxor_c SM OF w').mono fun e w'' h => ⟨by rw [HP1.out]; exact h.1, hS.1.below h.2, hS.2.below h.2⟩)) ?_
        simp only [Act.put, List.setIfInBounds_toArray, List.set_cons_zero, List.set_cons_succ]
        refine Seq.next ?_ (Sure.val rfl (fun w' hS => ?_)) ?_
        rotate_left 1
        · have e17 := hS.1.1.1.l
          clear hS
          go_simp
          rfl
        simp only [Act.put, List.setIfInBounds_toArray, List.set_cons_zero, List.set_cons_succ]
        refine Seq.next ?_ (Sure.val rfl (fun w' hS => ?_)) ?_
        rotate_left 1
        · have e17 := hS.1.1.1.l
          clear hS
          go_simp
          rfl
        simp only [Act.put, List.setIfInBounds_toArray, List.set_cons_zero, List.set_cons_succ]
        refine Seq.next ?_ (Sure.val rfl (fun w' hS => ?_)) ?_
        rotate_left 1
        · have e17 := hS.1.1.1.l
          clear hS
          go_simp
          rfl
        simp only [Act.put, List.setIfInBounds_toArray, List.set_cons_zero, List.set_cons_succ]
        refine Seq.next ?_ (Sure.val rfl (fun w' hS => ?_)) ?_
        rotate_left 1
        · have e17 := hS.1.1.1.l
          clear hS
          go_simp
          rfl
        simp only [Act.put, List.setIfInBounds_toArray, List.set_cons_zero, List.set_cons_succ]
        refine Seq.next ?_ (Sure.val rfl (fun w' hS => ?_)) ?_
        rotate_left 1
        · have e17 := hS.1.1.1.l
          clear hS
          go_simp
          rfl
        simp only [Act.put, List.setIfInBounds_toArray, List.set_cons_zero, List.set_cons_succ]
        refine Seq.next (.agg (row 16 dl)) (Sure.load_Part rfl 44 _ rfl gl1 0 rfl 16 dl _ (fun w' hS => hS.1.1.1.at_ 0 hk0) undBk sizeBk) ?_
        simp only [Act.put, List.setIfInBounds_toArray, List.set_cons_zero, List.set_cons_succ]
        refine Seq.next (.agg (row 16 P2)) (Sure.call (f := 19) (args := #[.agg (row 16 P1), .agg (row 16 dl)]) rfl (fun w' => by go_simp) (fun w' hS => (rxor_c P1 dl w').mono fun e w'' h => ⟨by rw [HP2.out]; exact h.1, hS.1.below h.2, hS.2.below h.2⟩)) ?_
        simp only [Act.put, List.setIfInBounds_toArray, List.set_cons_zero, List.set_cons_succ]
        refine Seq.next (.agg (row 16 P3)) (Sure.call (f := 32) (args := #[.pointer (some ⟨g, 0, none⟩), .agg (row 16 P2)]) rfl (fun w' => by go_simp) (fun w' hS => (oaes_c g gc gl1 k1 cap1 E D st dl P2 w' hS.1.1.1 (HR.out w' (hS.1.base h1 h2))).mono fun e w'' h => ⟨by rw [HP3.out]; exact h.1, hS.1.below h.2, hS.2.below h.2⟩)) ?_
        simp only [Act.put, List.setIfInBounds_toArray, List.set_cons_zero, List.set_cons_succ]
        refine Seq.next ?_ (Sure.val rfl (fun w' hS => ?_)) ?_
        rotate_left 1
        · clear hS
          go_simp
          rfl
        simp only [Act.put, List.setIfInBounds_toArray, List.set_cons_zero, List.set_cons_succ]
        refine Seq.store_Row rfl 44 _ _ rfl (w.heap.size + 1) rfl 44 16 _ P3 rfl (fun w' hS => hS.1.2.2.2.1) sizeBk fun w' hS => ?_
        have hown9 := hS.2.setBk hS.1.2.2.2.1 (row 16 P3)
        have hs9 := hS.1.put1 P3
        clear hS
        revert hown9 hs9
        generalize w'.setRow (w.heap.size + 1) (row 16 P3) = w9
        intro hown9 hs9
        go_wp2
        exact ret_tmp_Row rfl rfl _ _ 16 _ _ OV rfl rfl hs9.2.2.2.1 undBk sizeBk (⟨OV, by rw [HFIN.out.1, HFIN.out.2.1, HF3.out], by rw [HFIN.out.2.2]; exact hown9, hs9.done⟩)
      · have i2 : (0 : Int) < (r : Int) := by omega
        obtain ⟨b', o', hA', _⟩ := (HB'.out _ (hs.base h1 h2)).1 (by omega)
        subst hA'
        obtain ⟨of1, hof⟩ : ∃ of1, of1 = Tt.1.1 := ⟨_, rfl⟩
        obtain ⟨OF, hOF⟩ : ∃ OF, OF = added of1 st := ⟨_, rfl⟩
        obtain ⟨Pd, hPd⟩ : ∃ Pd, Pd = E OF := ⟨_, rfl⟩
        obtain ⟨G, hG⟩ : ∃ G : Nat → UInt8, G = fun j => xr (f (16 * t + j)) (Pd j) := ⟨_, rfl⟩
        obtain ⟨FI, hFI⟩ : ∃ FI, FI = cpy (16 * t) r Tt.2 G := ⟨_, rfl⟩
        obtain ⟨X, hX⟩ : ∃ X, X = padB r G := ⟨_, rfl⟩
        obtain ⟨SM, hSM⟩ : ∃ SM, SM = added sm X := ⟨_, rfl⟩
        have hK : (n + 15) / 16 = t + 1 := by omega
        have hrst : ∃ ct, thrTo D E st dl n of f (List.range (t + 1)) = ((OF, ct), FI) := by
          obtain ⟨ct, h⟩ := thr_rest D E st dl n of f t (by omega) (by omega)
          refine ⟨ct, h.trans ?_⟩
          rw [← hTt, ← hof, ← hOF, ← hPd, ← hG, show n - 16 * t = r by omega, ← hFI]
        have hfin : sumTo n PL (List.range ((n + 15) / 16)) = SM ∧ (thrTo D E st dl n of f (List.range ((n + 15) / 16))).1.1 = OF ∧ (thrTo D E st dl n of f (List.range ((n + 15) / 16))).2 = FI := by
          obtain ⟨ct, h⟩ := hrst
          refine ⟨?_, by rw [hK, h], by rw [hK, h]⟩
          rw [hK, List.range_succ, sumTo_snoc, ← hsm, hSM]
          congr 1
          rw [hX]
          show padB (plen n t) (fun j => PL (16 * t + j)) = _
          rw [show plen n t = r by unfold plen; omega]
          refine padB_congr fun j hj => ?_
          rw [HPL.out, hK, h, hFI]
          show (if 16 * t ≤ 16 * t + j ∧ 16 * t + j < 16 * t + r then G (16 * t + j - 16 * t) else Tt.2 (16 * t + j)) = G j
          rw [if_pos (by omega), Nat.add_sub_cancel_left]
        rw [← hof] at hs
        have HOF := Lib.hid hOF
        have HPd := Lib.hid hPd
        have HG := Lib.hid hG
        have HFI := Lib.hid hFI
        have HX := Lib.hid hX
        have HSM := Lib.hid hSM
        have HFIN := Lib.hid hfin
        have HM := Lib.hid hm
        have hnr : r < 16 := by omega
        have hr0' : 0 < r := by omega
        have htn : 16 * t + r = n := hm.symm
        have HTN := Lib.hid htn
        have htb : 16 * t + r ≤ 140737488355328 := by omega
        clear hof hOF hPd hG hFI hX hSM hrst hfin hK hTt hsm hm htn
        go_wp2
        refine region_seq (fun W' => R3 g gc gl gl1 k1 cap1 st dl w of1 (fun _ => 0) sm W' ∧ Own W' (w.heap.size + 3) u11 (16 * t) Tt.2) mixedOrders (by kernel_rfl) (by simp) ⟨hs.drew, hown⟩ ?_
        clear hs hown
        refine Seq.next (.agg (row 16 of1)) (Sure.load_Row rfl 44 _ rfl w.heap.size rfl 44 16 _ _ (fun w' hS => hS.1.2.2.1) undBk sizeBk) ?_
        simp only [Act.put, List.setIfInBounds_toArray, List.set_cons_zero, List.set_cons_succ]
        refine Seq.next ?_ (Sure.val rfl (fun w' hS => ?_)) ?_
        rotate_left 1
        · clear hS
          go_simp
          rfl
        simp only [Act.put, List.setIfInBounds_toArray, List.set_cons_zero, List.set_cons_succ]
        refine Seq.next ?_ (Sure.val rfl (fun w' hS => ?_)) ?_
        rotate_left 1
        · clear hS
          go_simp
          rfl
        simp only [Act.put, List.setIfInBounds_toArray, List.set_cons_zero, List.set_cons_succ]
        refine Seq.next ?_ (Sure.val rfl (fun w' hS => ?_)) ?_
        rotate_left 1
        · clear hS
          go_simp
          rfl
        simp only [Act.put, List.setIfInBounds_toArray, List.set_cons_zero, List.set_cons_succ]
        refine Seq.next (.agg (row 16 st)) (Sure.load_Part rfl 44 _ rfl g 1 rfl 16 st _ (fun w' hS => hS.1.1.1.1.range 1 16 st fun j hj => ob_st _ _ _ j hj) undBk sizeBk) ?_
        simp only [Act.put, List.setIfInBounds_toArray, List.set_cons_zero, List.set_cons_succ]
        refine Seq.next (.agg (row 16 OF)) (Sure.call (f := 19) (args := #[.agg (row 16 of1), .agg (row 16 st)]) rfl (fun w' => by go_simp) (fun w' hS => (rxor_c of1 st w').mono fun e w'' h => ⟨by rw [HOF.out]; exact h.1, hS.1.below h.2, hS.2.below h.2⟩)) ?_
        simp only [Act.put, List.setIfInBounds_toArray, List.set_cons_zero, List.set_cons_succ]
        refine Seq.store_Row rfl 44 _ _ rfl w.heap.size rfl 44 16 _ OF rfl (fun w' hS => hS.1.2.2.1) sizeBk fun w' hS => ?_
        have hown := hS.2.setBk hS.1.2.2.1 (row 16 OF)
        have hs := hS.1.put0 OF
        clear hS
        revert hown hs
        generalize w'.setRow w.heap.size (row 16 OF) = w2
        intro hown hs
        go_wp2_with (first | (refine wpList_load_Row rfl 44 _ rfl w.heap.size rfl 44 16 _ _ hs.2.2.1 undBk sizeBk ?_) | (go_at_fn 32))
        have hx := oaes_c g gc gl1 k1 cap1 E D st dl OF w2 hs.1.1 (HR.out w2 (hs.base h1 h2))
        rw [← HPd.out] at hx
        refine hx.mono ?_
        rintro e w3 ⟨rfl, hb3⟩
        have hown := hown.below hb3
        have hs := hs.below hb3
        clear hx hb3
        go_upto_region 19 with (first | (refine wpList_alloc_Row rfl 44 rfl 16 zeroBk ?_) | (refine wpList_store_Row rfl 44 _ _ rfl w3.heap.size rfl 44 16 (fun _ => 0) _ rfl (Row.new _ _ _ _) sizeBk ?_))
        have hgp := hs.lt
        have hg1 := hs.1.1.ltl
        have hr1 := (Row.new w3 44 16 (fun _ => 0)).setRow Pd
        have hown := (hown.below ((Below.refl _ _).alloc (Nat.le_refl _) (.cells (row 16 fun _ => 0) 44))).setBk (Row.new w3 44 16 (fun _ => 0)) (row 16 Pd)
        have hs := (hs.alloc (.cells (row 16 fun _ => 0) 44)).far hgp (by omega) (row 16 Pd)
        revert hr1 hown hs
        clear hown hs
        generalize (w3.alloc (.cells (row 16 fun _ => 0) 44)).setRow w3.heap.size (row 16 Pd) = w4
        generalize w3.heap.size = gp at *
        intro hr1 hown hs
        go_upto_region 20 with (fail)
        have hub : ∀ x, u11.ownBlock = some x → x < w4.heap.size := fun x hx => (World.ownsRow.lt hown x hx).2
        have hres := Own.new w4 w4.heap.size (Nat.le_refl _) G
        have hz5 : w4.heap.size ≤ (w4.alloc (.cells #[] 5)).heap.size := by simp
        have hgp4 := hr1.lt
        have hg14 := hs.1.1.ltl
        have hown := hown.below ((Below.refl _ _).alloc (Nat.le_refl _) (.cells #[] 5))
        have hr1 := hr1.alloc (.cells #[] 5)
        have hs := hs.alloc (.cells #[] 5)
        revert hz5 hub hres hown hr1 hs hgp4 hg14
        clear hown hr1 hs
        generalize w4.alloc (.cells #[] 5) = w5
        generalize w4.heap.size = b2 at *
        intro hub hres hz5 hgp4 hg14 hown hr1 hs
        go_wp2
        go_loopw [16, 76] (fun rv kv wr => ∃ m : Nat, m ≤ r ∧ kv = .int .i64 m ∧ Own wr b2 rv m G ∧ R3 g gc gl gl1 k1 cap1 st dl w OF (fun _ => 0) sm wr ∧ Own wr (w.heap.size + 3) u11 (16 * t) Tt.2 ∧ Row wr gp 44 16 Pd ∧ b2 ≤ wr.heap.size) (fun _ kv _ => r - (intOf kv).toNat)
        case atStart => exact ⟨0, by omega, rfl, hres, hs, hown, hr1, hz5⟩
        case round =>
          clear hres hs hown hr1
          obtain ⟨m, hmr, rfl, hres, hs, hown, hr1, hsz⟩ := hrel
          by_cases hlt2 : m < r
          · have i3 : (m : Int) < (r : Int) := by omega
            have hm16 : m < 16 := by omega
            have i4 : (m : Int) < 16 := by omega
            go_wp2
            refine region_chain (fun q π W' => R3 g gc gl gl1 k1 cap1 st dl w OF (fun _ => 0) sm W' ∧ Own W' (w.heap.size + 3) u11 (16 * t) Tt.2 ∧ Row W' gp 44 16 Pd ∧ b2 ≤ W'.heap.size ∧ (q < 2 → Own W' b2 u16 m G) ∧ (1 ≤ q → ∃ gt, π 0 = .slice (some ⟨gt, 0, none⟩) 1 1 ∧ Row W' gt 5 1 (fun _ => G m) ∧ b2 ≤ gt ∧ u16.ownBlock ≠ some gt) ∧ (2 ≤ q → Own W' b2 (π 1) (m + 1) G)) (fun i => i == 9 || i == 10) mixedOrders (by kernel_rfl) (by kernel_rfl) (by simp)
              ⟨hs.drew, hown, hr1.drew, hsz, fun _ => hres, fun h => by omega, fun h => by omega⟩ ?_
            clear hs hown hr1 hsz hres
            refine SeqP.next ?_ (fun π q => Sure.val rfl (fun w' hS => ?_)) ?_
            rotate_left 1
            · clear hS
              go_simp
              rfl
            simp only [Act.put, List.setIfInBounds_toArray, List.set_cons_zero, List.set_cons_succ]
            refine SeqP.next ?_ (fun π q => Sure.val rfl (fun w' hS => ?_)) ?_
            rotate_left 1
            · clear hS
              go_simp
              rfl
            simp only [Act.put, List.setIfInBounds_toArray, List.set_cons_zero, List.set_cons_succ]
            refine SeqP.next ?_ (fun π q => Sure.val rfl (fun w' hS => ?_)) ?_
            rotate_left 1
            · clear hS
              go_simp
              rfl
            simp only [Act.put, List.setIfInBounds_toArray, List.set_cons_zero, List.set_cons_succ]
            refine SeqP.next ?_ (fun π q => Sure.val rfl (fun w' hS => ?_)) ?_
            rotate_left 1
            · have e1 := bts_at (HB'.out w' (hS.1.base h1 h2)) m hlt2
              have e2 := hS.2.2.1.cell m hm16
              clear hS
              go_simp
              rfl
            simp only [Act.put, List.setIfInBounds_toArray, List.set_cons_zero, List.set_cons_succ]
            refine SeqP.next ?_ (fun π q => Sure.val rfl (fun w' hS => ?_)) ?_
            rotate_left 1
            · have e1 := bts_at (HB'.out w' (hS.1.base h1 h2)) m hlt2
              have e2 := hS.2.2.1.cell m hm16
              clear hS
              go_simp
              rfl
            simp only [Act.put, List.setIfInBounds_toArray, List.set_cons_zero, List.set_cons_succ]
            refine SeqP.next ?_ (fun π q => Sure.val rfl (fun w' hS => ?_)) ?_
            rotate_left 1
            · have e1 := bts_at (HB'.out w' (hS.1.base h1 h2)) m hlt2
              have e2 := hS.2.2.1.cell m hm16
              clear hS
              go_simp
              rfl
            simp only [Act.put, List.setIfInBounds_toArray, List.set_cons_zero, List.set_cons_succ]
            refine SeqP.next ?_ (fun π q => Sure.val rfl (fun w' hS => ?_)) ?_
            rotate_left 1
            · have e1 := bts_at (HB'.out w' (hS.1.base h1 h2)) m hlt2
              have e2 := hS.2.2.1.cell m hm16
              clear hS
              go_simp
              rfl
            simp only [Act.put, List.setIfInBounds_toArray, List.set_cons_zero, List.set_cons_succ]
            refine SeqP.next ?_ (fun π q => Sure.val rfl (fun w' hS => ?_)) ?_
            rotate_left 1
            · have e1 := bts_at (HB'.out w' (hS.1.base h1 h2)) m hlt2
              have e2 := hS.2.2.1.cell m hm16
              clear hS
              go_simp
              rfl
            simp only [Act.put, List.setIfInBounds_toArray, List.set_cons_zero, List.set_cons_succ]
            refine SeqP.next (.int .u8 ((G m).toNat : Int)) (fun π q => Sure.val rfl (fun w' hS => ?_)) ?_
            · clear hS
              go_simp
              rw [xor8, HG.out]
            simp only [Act.put, List.setIfInBounds_toArray, List.set_cons_zero, List.set_cons_succ]
            refine SeqP.make rfl (fun π => ⟨rfl, fun w' hS => ⟨.slice (some ⟨w'.heap.size, 0, none⟩) 1 1, w'.alloc (.cells (row 1 fun _ => G m) 5), exec_build8 _ rfl (G m) rfl, ?_⟩⟩) ?_
            · have hal : Below w'.heap.size w' (w'.alloc (.cells (row 1 fun _ => G m) 5)) := (Below.refl _ _).alloc (Nat.le_refl _) _
              exact ⟨hS.1.below hal, hS.2.1.below hal, hS.2.2.1.below hal hS.2.2.1.lt, Nat.le_trans hS.2.2.2.1 hal.size, fun _ => (hS.2.2.2.2.1 (by omega)).below hal, fun _ => ⟨w'.heap.size, upd_same _ _ _, Row.new _ _ _ _, hS.2.2.2.1, fun e => by have := (World.ownsRow.lt (hS.2.2.2.2.1 (by omega)) _ e).2; omega⟩, fun h => by omega⟩
            simp only [Act.put, List.setIfInBounds_toArray, List.set_cons_zero, List.set_cons_succ]
            refine SeqP.make rfl (fun π => ⟨rfl, fun w' hS => ?_⟩) ?_
            · obtain ⟨hs, hown, hr1, hsz, hres, hbt, hx⟩ := hS
              clear hx
              obtain ⟨gt, hpi, hgt, hgb, hgn⟩ := hbt (by omega)
              have hres := hres (by omega)
              clear hbt
              obtain ⟨v', w2, hrun, hnew, hgr⟩ := run_app2 22 b2 u16 m G hres ⟨gt, 0, none⟩ 1 1 (fun _ => G m) (fun j hj => by rw [Addr.add_mid, Nat.zero_add]; exact hgt.cell j hj) (by omega) hsz
              have hlt3 : ∀ x, u16.ownBlock = some x → b2 ≤ x := fun x hx => (World.ownsRow.lt hres x hx).1
              refine ⟨v', w2, exec_app2 (.tmp 79) (.tmp 88) rfl _ (.slice (some ⟨gt, 0, none⟩) 1 1) _ rfl (by exact hpi) hrun, hs.grown (hres.weaken (by omega)) hgr, hown.kept_ hgr (fun x hx e => by have := hub x hx; have := hlt3 x e; omega), (hgr.block gp hr1.lt fun e => by have := hlt3 gp e.symm; omega).trans hr1, Nat.le_trans hsz hgr.size, fun h => by omega, fun _ => ⟨gt, (upd_ne π _ (by omega)).trans hpi, (hgr.block gt hgt.lt (Ne.symm hgn)).trans hgt, hgb, hgn⟩, fun _ => ?_⟩
              rw [upd_same]
              exact hnew.congr fun j hj => by
                unfold both
                by_cases e : j < m
                · rw [if_pos e]
                · rw [if_neg e, show j = m by omega]
            simp only [Act.put, List.setIfInBounds_toArray, List.set_cons_zero, List.set_cons_succ]
            refine SeqP.last (fun π => rfl) fun π w' hS => ?_
            obtain ⟨hs, hown, hr1, hsz, hx1, hx2, hres⟩ := hS
            have hres := hres (by omega)
            clear hx1 hx2
            go_simp
            go_wp2
            go_roundw
            case rel => exact ⟨m + 1, by omega, by go_num, hres, hs, hown, hr1, hsz⟩
            case measure => simp [intOf]; omega
          · have i3 : ¬ (m : Int) < (r : Int) := by omega
            have e : m = r := by omega
            rw [e] at hres
            clear e
            obtain ⟨gR, cR, hRV, hgR, hpR, hcR1, hcR2⟩ := Own.prow hres hr0'
            subst hRV
            go_upto_region 26 with (first | (refine wpList_app2 rfl _ _ rfl (w.heap.size + 3) u11 (16 * t) Tt.2 rfl hown ⟨gR, 0, none⟩ r cR G rfl (fun j hj => by rw [Addr.add_mid, Nat.zero_add]; exact hpR.cell j hj) (by omega) hs.lt ?_; intro OV w7 hown7 hgr7))
            have hs := hs.grown hown hgr7
            have hpR : PRow w7 gR 5 r G := by
              have hl := hpR.lt
              obtain ⟨cs, c1, c2⟩ := hpR
              exact ⟨cs, (hgr7.block gR hl fun e => by have := hub gR e.symm; omega).trans c1, c2⟩
            have hown : Own w7 (w.heap.size + 3) OV n FI := by
              have htn := HTN.out
              rw [htn] at hown7
              exact hown7.congr fun j hj => by
                rw [HFI.out]
                unfold both cpy
                by_cases h : j < 16 * t
                · rw [if_pos h, if_neg (by omega)]
                · rw [if_neg h, if_pos (by omega)]
            clear hown7 hgr7 hres hr1 hub hsz
            go_wp2
            refine region_seq (fun W' => R3 g gc gl gl1 k1 cap1 st dl w OF (fun _ => 0) sm W' ∧ Own W' (w.heap.size + 3) OV n FI ∧ PRow W' gR 5 r G) mixedOrders (by kernel_rfl) (by simp) ⟨hs.drew, hown, hpR.drew⟩ ?_
            clear hs hown hpR
            refine Seq.next (.agg (row 16 sm)) (Sure.load_Row rfl 44 _ rfl (w.heap.size + 1 + 1) rfl 44 16 _ _ (fun w' hS => hS.1.2.2.2.2) undBk sizeBk) ?_
            simp only [Act.put, List.setIfInBounds_toArray, List.set_cons_zero, List.set_cons_succ]
            refine Seq.next ?_ (Sure.val rfl (fun w' hS => ?_)) ?_
            rotate_left 1
            · clear hS
              go_simp
              rfl
            simp only [Act.put, List.setIfInBounds_toArray, List.set_cons_zero, List.set_cons_succ]
            refine Seq.next (.agg (row 16 X)) (Sure.call (f := 36) (args := #[.slice (some ⟨gR, 0, none⟩) r cR]) rfl (fun w' => by go_simp) (fun w' hS => (rpadded_c gR 0 r cR G w' (by omega) (by omega) (fun j hj => by rw [Nat.zero_add]; exact hS.2.2.cell j hj)).mono fun e w'' h => ⟨by rw [HX.out]; exact h.1, hS.1.below h.2, hS.2.1.below h.2, hS.2.2.below h.2 hS.2.2.lt⟩)) ?_
            simp only [Act.put, List.setIfInBounds_toArray, List.set_cons_zero, List.set_cons_succ]
            refine Seq.next (.agg (row 16 SM)) (Sure.call (f := 19) (args := #[.agg (row 16 sm), .agg (row 16 X)]) rfl (fun w' => by go_simp) (fun w' hS => (rxor_c sm X w').mono fun e w'' h => ⟨by rw [HSM.out]; exact h.1, hS.1.below h.2, hS.2.1.below h.2, hS.2.2.below h.2 hS.2.2.lt⟩)) ?_
            simp only [Act.put, List.setIfInBounds_toArray, List.set_cons_zero, List.set_cons_succ]
            refine Seq.store_Row rfl 44 _ _ rfl (w.heap.size + 1 + 1) rfl 44 16 _ SM rfl (fun w' hS => hS.1.2.2.2.2) sizeBk fun w' hS => ?_
            have hown := hS.2.1.setBk hS.1.2.2.2.2 (row 16 SM)
            have hs := hS.1.put2 SM
            clear hS
            revert hown hs
            rw [show w.heap.size + 2 = w.heap.size + 1 + 1 from rfl]
            generalize w'.setRow (w.heap.size + 1 + 1) (row 16 SM) = w8
            intro hown hs
            go_wp2
            obtain ⟨P1, hP1⟩ : ∃ P1, P1 = added SM OF := ⟨_, rfl⟩
            obtain ⟨P2, hP2⟩ : ∃ P2, P2 = added P1 dl := ⟨_, rfl⟩
            obtain ⟨P3, hP3⟩ : ∃ P3, P3 = E P2 := ⟨_, rfl⟩
            have hfin3 : E (added (added SM OF) dl) = P3 := by rw [hP3, hP2, hP1]
            have HP1 := Lib.hid hP1
            have HP2 := Lib.hid hP2
            have HP3 := Lib.hid hP3
            have HF3 := Lib.hid hfin3
            clear hP1 hP2 hP3 hfin3
            have hk0 := hs.1.1.2.2.1
            have hk0' : (0 : Int) < (k1 : Int) := by omega
            refine region_seq (fun W' => R3 g gc gl gl1 k1 cap1 st dl w OF (fun _ => 0) SM W' ∧ Own W' (w.heap.size + 3) OV n FI) mixedOrders (by kernel_rfl) (by simp) ⟨hs.drew, hown⟩ ?_
            clear hs hown
            refine Seq.next ?_ (Sure.val rfl (fun w' hS => ?_)) ?_
            rotate_left 1
            · clear hS
              go_simp
              rfl
            simp only [Act.put, List.setIfInBounds_toArray, List.set_cons_zero, List.set_cons_succ]
            refine Seq.next ?_ (Sure.val rfl (fun w' hS => ?_)) ?_
            rotate_left 1
            · clear hS
              go_simp
              rfl
            simp only [Act.put, List.setIfInBounds_toArray, List.set_cons_zero, List.set_cons_succ]
            refine Seq.next (.agg (row 16 SM)) (Sure.load_Row rfl 44 _ rfl (w.heap.size + 1 + 1) rfl 44 16 _ _ (fun w' hS => hS.1.2.2.2.2) undBk sizeBk) ?_
            simp only [Act.put, List.setIfInBounds_toArray, List.set_cons_zero, List.set_cons_succ]
            refine Seq.next (.agg (row 16 OF)) (Sure.load_Row rfl 44 _ rfl w.heap.size rfl 44 16 _ _ (fun w' hS => hS.1.2.2.1) undBk sizeBk) ?_
            simp only [Act.put, List.setIfInBounds_toArray, List.set_cons_zero, List.set_cons_succ]
            refine Seq.next (.agg (row 16 P1)) (Sure.call (f := 19) (args := #[.agg (row 16 SM), .agg (row 16 OF)]) rfl (fun w' => by go_simp) (fun w' hS => (rxor_c SM OF w').mono fun e w'' h => ⟨by rw [HP1.out]; exact h.1, hS.1.below h.2, hS.2.below h.2⟩)) ?_
            simp only [Act.put, List.setIfInBounds_toArray, List.set_cons_zero, List.set_cons_succ]
            refine Seq.next ?_ (Sure.val rfl (fun w' hS => ?_)) ?_
            rotate_left 1
            · have e17 := hS.1.1.1.l
              clear hS
              go_simp
              rfl
            simp only [Act.put, List.setIfInBounds_toArray, List.set_cons_zero, List.set_cons_succ]
            refine Seq.next ?_ (Sure.val rfl (fun w' hS => ?_)) ?_
            rotate_left 1
            · have e17 := hS.1.1.1.l
              clear hS
              go_simp
              rfl
            simp only [Act.put, List.setIfInBounds_toArray, List.set_cons_zero, List.set_cons_succ]
            refine Seq.next ?_ (Sure.val rfl (fun w' hS => ?_)) ?_
            rotate_left 1
            · have e17 := hS.1.1.1.l
              clear hS
              go_simp
              rfl
            simp only [Act.put, List.setIfInBounds_toArray, List.set_cons_zero, List.set_cons_succ]
            refine Seq.next ?_ (Sure.val rfl (fun w' hS => ?_)) ?_
            rotate_left 1
            · have e17 := hS.1.1.1.l
              clear hS
              go_simp
              rfl
            simp only [Act.put, List.setIfInBounds_toArray, List.set_cons_zero, List.set_cons_succ]
            refine Seq.next ?_ (Sure.val rfl (fun w' hS => ?_)) ?_
            rotate_left 1
            · have e17 := hS.1.1.1.l
              clear hS
              go_simp
              rfl
            simp only [Act.put, List.setIfInBounds_toArray, List.set_cons_zero, List.set_cons_succ]
            refine Seq.next (.agg (row 16 dl)) (Sure.load_Part rfl 44 _ rfl gl1 0 rfl 16 dl _ (fun w' hS => hS.1.1.1.at_ 0 hk0) undBk sizeBk) ?_
            simp only [Act.put, List.setIfInBounds_toArray, List.set_cons_zero, List.set_cons_succ]
            refine Seq.next (.agg (row 16 P2)) (Sure.call (f := 19) (args := #[.agg (row 16 P1), .agg (row 16 dl)]) rfl (fun w' => by go_simp) (fun w' hS => (rxor_c P1 dl w').mono fun e w'' h => ⟨by rw [HP2.out]; exact h.1, hS.1.below h.2, hS.2.below h.2⟩)) ?_
            simp only [Act.put, List.setIfInBounds_toArray, List.set_cons_zero, List.set_cons_succ]
            refine Seq.next (.agg (row 16 P3)) (Sure.call (f := 32) (args := #[.pointer (some ⟨g, 0, none⟩), .agg (row 16 P2)]) rfl (fun w' => by go_simp) (fun w' hS => (oaes_c g gc gl1 k1 cap1 E D st dl P2 w' hS.1.1.1 (HR.out w' (hS.1.base h1 h2))).mono fun e w'' h => ⟨by rw [HP3.out]; exact h.1, hS.1.below h.2, hS.2.below h.2⟩)) ?_
            simp only [Act.put, List.setIfInBounds_toArray, List.set_cons_zero, List.set_cons_succ]
            refine Seq.next ?_ (Sure.val rfl (fun w' hS => ?_)) ?_
            rotate_left 1
            · clear hS
              go_simp
              rfl
            simp only [Act.put, List.setIfInBounds_toArray, List.set_cons_zero, List.set_cons_succ]
            refine Seq.store_Row rfl 44 _ _ rfl (w.heap.size + 1) rfl 44 16 _ P3 rfl (fun w' hS => hS.1.2.2.2.1) sizeBk fun w' hS => ?_
            have hown9 := hS.2.setBk hS.1.2.2.2.1 (row 16 P3)
            have hs9 := hS.1.put1 P3
            clear hS
            revert hown9 hs9
            generalize w'.setRow (w.heap.size + 1) (row 16 P3) = w9
            intro hown9 hs9
            go_wp2
            exact ret_tmp_Row rfl rfl _ _ 16 _ _ OV rfl rfl hs9.2.2.2.1 undBk sizeBk (⟨OV, by rw [HFIN.out.1, HFIN.out.2.1, HF3.out], by rw [HFIN.out.2.2]; exact hown9, hs9.done⟩)
end Go.Proofs.YtajifdnfibojfaaDoor

namespace Go.Proofs.YtajifdnfibojfaaDoor
open Go
set_option maxRecDepth 100000

section
variable {P : Program} {ops : Array Oper} {Q : Exit → Act → World → Prop} {md : Region.Mode} {SS : (Nat → Bool) → (Nat → Value) → World → Prop} {isM : Nat → Bool}

/-- What has been made, and one more. -/
def upb (D : Nat → Bool) (i : Nat) : Nat → Bool := fun k => if k = i then true else D k
def dn (isM : Nat → Bool) (L : Array Bool) : Nat → Bool := fun k => isM k && L.getD k false
/-- The value hangs on what the operation waits for. -/
def HangQ (md : Region.Mode) (ops : Array Oper) (isM : Nat → Bool) (i : Nat) (V : (Nat → Value) → Value) : Prop := ∀ π π', (∀ k, isM k = true → waitsFor md ops 6 i k = true → π k = π' k) → V π = V π'
def MetQ (md : Region.Mode) (ops : Array Oper) (isM : Nat → Bool) (i : Nat) (D : Nat → Bool) : Prop := ∀ k, isM k = true → waitsFor md ops 6 i k = true → D k = true
def SureQ (P : Program) (md : Region.Mode) (ops : Array Oper) (SS : (Nat → Bool) → (Nat → Value) → World → Prop) (isM : Nat → Bool) (i : Nat) (o : Oper) (π : Nat → Value) (v : Value) (a : Act) : Prop := ∀ D, MetQ md ops isM i D → Sure P ops (SS D π) o v a
def MadeR (P : Program) (SS : (Nat → Bool) → (Nat → Value) → World → Prop) (D : Nat → Bool) (i : Nat) (π : Nat → Value) : Result Next → Prop
  | .ok (.value v) w' => SS (upb D i) (upd π i v) w'
  | .ok .skip w' => SS (upb D i) (upd π i undef) w'
  | .ok (.enter f args) w' => Calls P f args w' fun e w'' => ∃ v, e = .returned v ∧ SS (upb D i) (upd π i v) w''
  | _ => False
def MakesQ (P : Program) (md : Region.Mode) (ops : Array Oper) (SS : (Nat → Bool) → (Nat → Value) → World → Prop) (isM : Nat → Bool) (i : Nat) (o : Oper) (π : Nat → Value) (a : Act) : Prop :=
  Region.wanted o (yielded ops a.tmps) = true ∧ ∀ D w, MetQ md ops isM i D → D i = false → SS D π w → MadeR P SS D i π ((execOp a.eval o).run P w)
theorem MakesQ.of_same {i : Nat} {π : Nat → Value} {o : Oper} {a a' : Act} (h : MakesQ P md ops SS isM i o π a) (he : execOp a'.eval o = execOp a.eval o)
    (hw : Region.wanted o (yielded ops a'.tmps) = Region.wanted o (yielded ops a.tmps)) : MakesQ P md ops SS isM i o π a' := by
  unfold MakesQ at *
  rw [he, hw]
  exact h
theorem SureQ.of_same {i : Nat} {π : Nat → Value} {v : Value} {o : Oper} {a a' : Act} (h : SureQ P md ops SS isM i o π v a) (he : execOp a'.eval o = execOp a.eval o)
    (hw : Region.wanted o (yielded ops a'.tmps) = Region.wanted o (yielded ops a.tmps)) : SureQ P md ops SS isM i o π v a' := fun D hD => (h D hD).of_same he hw

def DetQ (P : Program) (md : Region.Mode) (ops : Array Oper) (Q : Exit → Act → World → Prop) (SS : (Nat → Bool) → (Nat → Value) → World → Prop) (isM : Nat → Bool) : Nat → Array Bool → ((Nat → Value) → Act) → Prop
  | 0, L, A => Region.ready md ops L = [] ∧ ∀ π w, SS (dn isM L) π w → Q .normal (A π) w
  | n + 1, L, A => (Region.ready md ops L = [] → ∀ π w, SS (dn isM L) π w → Q .normal (A π) w) ∧ ∀ i ∈ Region.ready md ops L,
      (∃ o V, ops[i]? = some o ∧ isM i = false ∧ HangQ md ops isM i V ∧ (∀ π, SureQ P md ops SS isM i o π (V π) (A π)) ∧ DetQ P md ops Q SS isM n (L.setIfInBounds i true) (fun π => (A π).put o.dst (V π))) ∨
      (∃ o, ops[i]? = some o ∧ isM i = true ∧ (∀ π, MakesQ P md ops SS isM i o π (A π)) ∧ DetQ P md ops Q SS isM n (L.setIfInBounds i true) (fun π => (A π).put o.dst (π i))) ∨
      (i + 1 = ops.size ∧ ∃ o, ops[i]? = some o ∧ (∀ π, Region.wanted o (yielded ops (A π).tmps) = true) ∧ ∀ π w, SS (dn isM L) π w → o.wp P (A π) w (fun a' w' => Q .normal a' w') Q)

/-- The frame hangs on what has been made. -/
def UptoQ (isM : Nat → Bool) (L : Array Bool) (A : (Nat → Value) → Act) : Prop := ∀ π π', (∀ k, isM k = true → L.getD k false = true → π k = π' k) → A π = A π'
theorem set_up {L : Array Bool} {i k : Nat} (h : L.getD k false = true) : (L.setIfInBounds i true).getD k false = true := by
  by_cases e : i = k
  · subst e
    rcases Nat.lt_or_ge i L.size with h' | h'
    · simp [Array.getD, h']
    · simp [Array.getD, Nat.not_lt.2 h'] at h
  · rw [getD_set_ne false e]; exact h
theorem set_at {L : Array Bool} {i : Nat} (h : i < L.size) : (L.setIfInBounds i true).getD i false = true := by simp [Array.getD, h]
theorem dn_sure {L : Array Bool} {i : Nat} (h : isM i = false) : dn isM (L.setIfInBounds i true) = dn isM L := by
  funext k
  unfold dn
  by_cases e : i = k
  · subst e; rw [h]; rfl
  · rw [getD_set_ne false e]
theorem dn_made {L : Array Bool} {i : Nat} (h : isM i = true) (hi : i < L.size) : dn isM (L.setIfInBounds i true) = upb (dn isM L) i := by
  funext k
  unfold dn upb
  by_cases e : i = k
  · subst e; rw [set_at hi, h, if_pos rfl]; rfl
  · rw [getD_set_ne false e, if_neg (Ne.symm e)]
theorem ready_lt {L : Array Bool} {i : Nat} (hsz : L.size = ops.size) (hi : i ∈ Region.ready md ops L) : i < L.size := by
  obtain ⟨_, o, ho, _⟩ := mem_ready.1 hi
  rw [hsz]
  exact (Array.getElem?_eq_some_iff.1 ho).1
theorem ready_met {L : Array Bool} (hc : Closed md ops L) {i : Nat} (hi : i ∈ Region.ready md ops L) {k : Nat} (h : waitsFor md ops 6 i k = true) : L.getD k false = true := by
  obtain ⟨_, o, ho, hall⟩ := mem_ready.1 hi
  exact waitsFor_spec hc k 6 i h fun o' ho' => by rw [ho] at ho'; obtain rfl := Option.some.inj ho'; exact hall
theorem DetQ.sound (hl : lastWaits md ops = true) : ∀ (n : Nat) (L : Array Bool) (A : (Nat → Value) → Act), UptoQ isM L A → L.size = ops.size → Closed md ops L → DetQ P md ops Q SS isM n L A →
    ∀ π w, SS (dn isM L) π w → wpAny P md ops Q n L (A π) w := by
  intro n
  induction n with
  | zero => intro L A _ _ _ h π w hw; exact ⟨h.1, h.2 π w hw⟩
  | succ n ih =>
    intro L A hA hsz hc h π w hw
    refine ⟨fun h0 => h.1 h0 π w hw, fun i hi => ?_⟩
    have hmet : MetQ md ops isM i (dn isM L) := fun k hk hwk => by unfold dn; rw [hk, ready_met hc hi hwk]; rfl
    have hiL := ready_lt hsz hi
    have hiun : L.getD i false = false := getD_down (mem_ready.1 hi).1
    rcases h.2 i hi with ⟨o, V, ho, hMi, hV, hs, hd⟩ | ⟨o, ho, hMi, hm, hd⟩ | ⟨hi1, ol, hol, hwl, hlast⟩
    · refine (hs π _ hmet).wpOp ho hw fun w' hw' => ih _ (fun π => (A π).put o.dst (V π)) (fun π1 π2 h12 => ?_) (by simpa using hsz) (hc.set hi) hd π w' (by rw [dn_sure hMi]; exact hw')
      show (A π1).put o.dst (V π1) = (A π2).put o.dst (V π2)
      rw [hA π1 π2 fun k hk hL => h12 k hk (set_up hL), hV π1 π2 fun k hk hwk => h12 k hk (set_up (ready_met hc hi hwk))]
    · obtain ⟨hwant, hrun⟩ := hm π
      have h2 := hrun _ w hmet (by unfold dn; rw [hiun]; simp) hw
      have hU : UptoQ isM (L.setIfInBounds i true) (fun π => (A π).put o.dst (π i)) := fun π1 π2 h12 => by
        show (A π1).put o.dst (π1 i) = (A π2).put o.dst (π2 i)
        rw [hA π1 π2 fun k hk hL => h12 k hk (set_up hL), h12 i hMi (set_at hiL)]
      have hgo : ∀ v w', SS (upb (dn isM L) i) (upd π i v) w' → wpAny P md ops Q n (L.setIfInBounds i true) ((A π).put o.dst v) w' := fun v w' hS' => by
        have h3 := ih _ (fun π => (A π).put o.dst (π i)) hU (by simpa using hsz) (hc.set hi) hd (upd π i v) w' (by rw [dn_made hMi hiL]; exact hS')
        have e : (A (upd π i v)).put o.dst (upd π i v i) = (A π).put o.dst v := by
          rw [upd_same, hA (upd π i v) π fun k hk hL => upd_ne π v (fun e => by subst e; rw [hiun] at hL; cases hL)]
        rw [e] at h3
        exact h3
      unfold wpOp
      simp only [ho, hwant, if_true]
      left
      unfold Oper.wp
      revert h2
      generalize (execOp (A π).eval o).run P w = r
      intro h2
      cases r with
      | ok x w' =>
        cases x with
        | value u => exact hgo _ _ h2
        | skip => exact hgo _ _ h2
        | enter f args =>
          refine Calls.mono h2 ?_
          rintro e w'' ⟨v, rfl, hS'⟩
          exact hgo _ _ hS'
        | _ => exact h2.elim
      | halt x w' => exact h2.elim
    · refine wpOp_mono (K := fun a' w' => Q .normal a' w') (fun a' w' hQ => ?_) (by unfold wpOp; simp only [hol, hwl π, if_true]; exact .inl (hlast π w hw))
      have hready : Region.ready md ops (L.setIfInBounds i true) = [] := by
        refine ready_full (by simpa using hsz) fun k hk => ?_
        by_cases hki : i = k
        · subst hki
          have : i < L.size := by omega
          simp [Array.getD, this]
        · rw [getD_set_ne true hki]
          have hh : ¬ L.getD k true = false := fun hL => lastWaits_spec hl hc (k := k) (by omega) hL (by
            have : ops.size - 1 = i := by omega
            rw [this]; exact hi)
          simpa using hh
      cases n with
      | zero => exact ⟨hready, hQ⟩
      | succ n => exact ⟨fun _ => hQ, by rw [hready]; simp⟩

/-- What is taken first: a sure operation, or one that makes. -/
def StepQ (P : Program) (md : Region.Mode) (ops : Array Oper) (SS : (Nat → Bool) → (Nat → Value) → World → Prop) (isM : Nat → Bool) (i : Nat) (o : Oper) (V : (Nat → Value) → Value) (A : (Nat → Value) → Act) : Prop :=
  (isM i = false ∧ HangQ md ops isM i V ∧ ∀ π, SureQ P md ops SS isM i o π (V π) (A π)) ∨ (isM i = true ∧ (∀ π, V π = π i) ∧ ∀ π, MakesQ P md ops SS isM i o π (A π))
theorem DetQ.of_step {n : Nat} {L : Array Bool} {A : (Nat → Value) → Act} {i : Nat} {o : Oper} {V : (Nat → Value) → Value} (ho : ops[i]? = some o) (h : StepQ P md ops SS isM i o V A) (hd : DetQ P md ops Q SS isM n (L.setIfInBounds i true) (fun π => (A π).put o.dst (V π))) :
    (∃ o V, ops[i]? = some o ∧ isM i = false ∧ HangQ md ops isM i V ∧ (∀ π, SureQ P md ops SS isM i o π (V π) (A π)) ∧ DetQ P md ops Q SS isM n (L.setIfInBounds i true) (fun π => (A π).put o.dst (V π))) ∨
      (∃ o, ops[i]? = some o ∧ isM i = true ∧ (∀ π, MakesQ P md ops SS isM i o π (A π)) ∧ DetQ P md ops Q SS isM n (L.setIfInBounds i true) (fun π => (A π).put o.dst (π i))) ∨
      (i + 1 = ops.size ∧ ∃ o, ops[i]? = some o ∧ (∀ π, Region.wanted o (yielded ops (A π).tmps) = true) ∧ ∀ π w, SS (dn isM L) π w → o.wp P (A π) w (fun a' w' => Q .normal a' w') Q) := by
  rcases h with ⟨hM, h2, h3⟩ | ⟨hM, h3, h4⟩
  · exact .inl ⟨o, V, ho, hM, h2, h3, hd⟩
  · obtain rfl : V = fun π => π i := funext h3
    exact .inr (.inl ⟨o, ho, hM, h4, hd⟩)

theorem DetQ.take (hl : lastWaits md ops = true) {i : Nat} {oi : Oper} {V : (Nat → Value) → Value} (hi : ops[i]? = some oi) (hsel : ∀ (j : Nat) (o : Oper) cs b, ops[j]? = some o → o.op ≠ .select cs b) (hil : i + 1 < ops.size) :
    ∀ (n : Nat) (L : Array Bool) (A : (Nat → Value) → Act), L.size = ops.size → Closed md ops L →
      (∀ j oj, ops[j]? = some oj → j ≠ i → L.getD j true = false → (∀ e ∈ oj.after, Region.binds md e = true → e.on ≠ i) → oi.apart ops oj = true) →
      i ∈ Region.ready md ops L → StepQ P md ops SS isM i oi V A → DetQ P md ops Q SS isM n (L.setIfInBounds i true) (fun π => (A π).put oi.dst (V π)) → DetQ P md ops Q SS isM (n + 1) L A := by
  intro n
  induction n with
  | zero =>
    intro L A _ _ _ hr hs H
    refine ⟨fun h => (by rw [h] at hr; cases hr), fun j hj => ?_⟩
    by_cases hji : j = i
    · subst hji; exact DetQ.of_step hi hs H
    · have := ready_mono hj hji
      rw [H.1] at this
      cases this
  | succ n ih =>
    intro L A hsz hc hfree hr hs H
    refine ⟨fun h => (by rw [h] at hr; cases hr), fun j hj => ?_⟩
    by_cases hji : j = i
    · subst hji; exact DetQ.of_step hi hs H
    · obtain ⟨hjun, oj, hoj, hall⟩ := mem_ready.1 hj
      have hunl : ∀ {x : Nat}, L.getD x true = false → ¬ L.getD x false = true := fun {x} h0 h1 => by
        rcases Nat.lt_or_ge x L.size with h' | h'
        · simp [h'] at h0 h1; rw [h0] at h1; cases h1
        · simp [Array.getElem?_eq_none h'] at h1
      have hnot : ∀ e ∈ oj.after, Region.binds md e = true → e.on ≠ i := fun e he hb heq => by
        have h1 := hall e he hb
        rw [heq] at h1
        exact hunl (mem_ready.1 hr).1 h1
      have hap := hfree j oj hoj hji hjun hnot
      obtain ⟨h1, h2, h3⟩ := Oper.apart_spec hap
      have hfree' : ∀ k ok, ops[k]? = some ok → k ≠ i → (L.setIfInBounds j true).getD k true = false →
          (∀ e ∈ ok.after, Region.binds md e = true → e.on ≠ i) → oi.apart ops ok = true := fun k ok hk hki hun hno => by
        refine hfree k ok hk hki ?_ hno
        by_cases hjk : j = k
        · subst hjk; exact hjun
        · rw [getD_set_ne true hjk] at hun; exact hun
      have hsame : ∀ (a : Act) (v : Value), execOp (a.put oi.dst v).eval oj = execOp a.eval oj := fun a v => execOp_put oj (fun cs b => hsel j oj cs b hoj) a oi.dst v h1
      have hsameW : ∀ (a : Act) (v : Value), Region.wanted oj (yielded ops (a.put oi.dst v).tmps) = Region.wanted oj (yielded ops a.tmps) := fun a v => wanted_put oj a oi.dst v h1
      have he : ∀ (U : (Nat → Value) → Value) (π : Nat → Value), execOp ((A π).put oj.dst (U π)).eval oi = execOp (A π).eval oi := fun U π => execOp_put oi (fun cs b => hsel i oi cs b hi) (A π) oj.dst (U π) h3
      have hw : ∀ (U : (Nat → Value) → Value) (π : Nat → Value), Region.wanted oi (yielded ops ((A π).put oj.dst (U π)).tmps) = Region.wanted oi (yielded ops (A π).tmps) := fun U π => wanted_put oi (A π) oj.dst (U π) h3
      have hcomm : ∀ (U : (Nat → Value) → Value), DetQ P md ops Q SS isM n ((L.setIfInBounds i true).setIfInBounds j true) (fun π => ((A π).put oi.dst (V π)).put oj.dst (U π)) → DetQ P md ops Q SS isM n ((L.setIfInBounds j true).setIfInBounds i true) (fun π => ((A π).put oj.dst (U π)).put oi.dst (V π)) := fun U hd => by
        rw [Array.setIfInBounds_comm _ _ hji]
        have e : (fun π => ((A π).put oj.dst (U π)).put oi.dst (V π)) = fun π => ((A π).put oi.dst (V π)).put oj.dst (U π) := funext fun π => (Act.put_comm (A π) (V π) (U π) h2).symm
        rw [e]
        exact hd
      have hs' : ∀ (U : (Nat → Value) → Value), StepQ P md ops SS isM i oi V (fun π => (A π).put oj.dst (U π)) := fun U => by
        rcases hs with ⟨a1, a2, a3⟩ | ⟨a1, a2, a3⟩
        · exact .inl ⟨a1, a2, fun π => (a3 π).of_same (he U π) (hw U π)⟩
        · exact .inr ⟨a1, a2, fun π => (a3 π).of_same (he U π) (hw U π)⟩
      rcases H.2 j (ready_mono hj hji) with ⟨o, U, ho, hMj, hU, hsu, hd⟩ | ⟨o, ho, hMj, hm, hd⟩ | ⟨hj1, _⟩
      · rw [hoj] at ho
        obtain rfl := Option.some.inj ho
        exact .inl ⟨oj, U, hoj, hMj, hU, fun π => (hsu π).of_same (hsame _ _).symm (hsameW _ _).symm,
          ih (L.setIfInBounds j true) _ (by simpa using hsz) (hc.set hj) hfree' (ready_mono hr (Ne.symm hji)) (hs' U) (hcomm U hd)⟩
      · rw [hoj] at ho
        obtain rfl := Option.some.inj ho
        exact .inr (.inl ⟨oj, hoj, hMj, fun π => (hm π).of_same (hsame _ _).symm (hsameW _ _).symm,
          ih (L.setIfInBounds j true) _ (by simpa using hsz) (hc.set hj) hfree' (ready_mono hr (Ne.symm hji)) (hs' fun π => π j) (hcomm (fun π => π j) hd)⟩)
      · exfalso
        have hL : L.getD i true = false := (mem_ready.1 hr).1
        exact lastWaits_spec hl hc hil hL (by
          have : ops.size - 1 = j := by omega
          rw [this]; exact hj)

def SeqQ (P : Program) (md : Region.Mode) (ops : Array Oper) (Q : Exit → Act → World → Prop) (SS : (Nat → Bool) → (Nat → Value) → World → Prop) (isM : Nat → Bool) : Nat → List Oper → ((Nat → Value) → Act) → Prop
  | _, [], _ => False
  | k, [o], A => (∀ π, Region.wanted o (yielded ops (A π).tmps) = true) ∧ ∀ D π w, (∀ j, isM j = true → j < k → D j = true) → SS D π w → o.wp P (A π) w (fun a' w' => Q .normal a' w') Q
  | k, o :: rest, A => ∃ V, StepQ P md ops SS isM k o V A ∧ SeqQ P md ops Q SS isM (k + 1) rest (fun π => (A π).put o.dst (V π))

theorem DetQ.of_seq (hok : textOk md ops = true) : ∀ (n k : Nat) (A : (Nat → Value) → Act), k + n = ops.size → 0 < n → Closed md ops (pre ops.size k) → SeqQ P md ops Q SS isM k (ops.toList.drop k) A → DetQ P md ops Q SS isM n (pre ops.size k) A := by
  simp only [textOk, Bool.and_eq_true, List.all_eq_true, List.mem_range, beq_iff_eq] at hok
  obtain ⟨⟨⟨hsel, hl⟩, hall⟩, hlast⟩ := hok
  intro n
  induction n with
  | zero => intro k A _ h; omega
  | succ n ih =>
    intro k A hk _ hc hs
    have hkl : k < ops.size := by omega
    have hko : ops[k]? = some ops[k] := Array.getElem?_eq_getElem hkl
    rw [List.drop_eq_getElem_cons (by simpa using hkl)] at hs
    cases n with
    | zero =>
      have e : ops.toList.drop (k + 1) = [] := List.drop_eq_nil_of_le (by simp; omega)
      rw [e] at hs
      have hk1 : ops.size - 1 = k := by omega
      rw [hk1] at hlast
      refine ⟨fun h => (by rw [hlast] at h; cases h), fun i hi => ?_⟩
      rw [hlast] at hi
      obtain rfl : i = k := by simpa using hi
      obtain ⟨hwant, hrun⟩ := hs
      simp only [Array.getElem_toList] at hwant hrun
      refine .inr (.inr ⟨by omega, _, hko, hwant, fun π w hw => hrun _ π w (fun j hj hji => ?_) hw⟩)
      unfold dn
      rw [hj]
      have hjs : j < ops.size := by omega
      simp [pre, hjs, hji]
    | succ n =>
      have hne : ∃ o rest, ops.toList.drop (k + 1) = o :: rest := by
        rw [List.drop_eq_getElem_cons (by simp; omega)]
        exact ⟨_, _, rfl⟩
      obtain ⟨o', rest', e⟩ := hne
      rw [e] at hs
      obtain ⟨V, hstep, hrest⟩ := hs
      rw [← e] at hrest
      simp only [Array.getElem_toList] at hstep hrest
      obtain ⟨hr, hf⟩ := hall k (by omega)
      refine DetQ.take hl hko (Region.noSelect_spec hsel) (by omega) (n + 1) _ A (pre_size _ _) hc (Region.free_spec hko hf) (by simpa using hr) hstep ?_
      have hc' := hc.set (i := k) (by simpa using hr)
      rw [pre_succ] at hc' ⊢
      exact ih (k + 1) _ (by omega) (by omega) hc' hrest

/-- A region in which the operations isM make, in whatever order. -/
theorem region_any (SS : (Nat → Bool) → (Nat → Value) → World → Prop) (isM : Nat → Bool) {id : Nat} {ls : List Oper} {a : Act} {w : World} (hm : P.follows .mixedOrders = true) (hok : textOk .any ls.toArray = true) (hn : ls ≠ [])
    (hS : SS (fun _ => false) (fun _ => undef) w.drew) (h : SeqQ P .any ls.toArray Q SS isM 0 ls (fun _ => a)) : (Code.region id ls.toArray true).wp P Q a w := by
  refine wp_region_any hm ?_
  have hlen : 0 < ls.toArray.size := by
    cases ls with
    | nil => exact absurd rfl hn
    | cons x xs => simp
  have hd := DetQ.of_seq (md := .any) hok ls.toArray.size 0 (fun _ => a) (by omega) hlen (by rw [pre_zero]; exact Closed.none _ _) (by simpa using h)
  rw [pre_zero] at hd
  have hl : lastWaits .any ls.toArray = true := by
    simp only [textOk, Bool.and_eq_true] at hok
    exact hok.1.1.2
  have h0 : dn isM (Array.replicate ls.toArray.size false) = fun _ => false := by
    funext k
    unfold dn
    simp [Array.getD]
  exact DetQ.sound hl _ _ (fun _ => a) (fun _ _ _ => rfl) (by simp) (Closed.none _ _) hd _ _ (by rw [h0]; exact hS)

theorem SeqQ.last {k : Nat} {o : Oper} {A : (Nat → Value) → Act} (hwant : ∀ π, Region.wanted o (yielded ops (A π).tmps) = true) (h : ∀ D π w, (∀ j, isM j = true → j < k → D j = true) → SS D π w → o.wp P (A π) w (fun a' w' => Q .normal a' w') Q) : SeqQ P md ops Q SS isM k [o] A := ⟨hwant, h⟩
/-- A value that hangs on nothing made. -/
theorem SeqQ.next {k : Nat} {o o' : Oper} {rest : List Oper} {A : (Nat → Value) → Act} (v : Value) (hM : isM k = false) (hs : ∀ π D, MetQ md ops isM k D → Sure P ops (SS D π) o v (A π)) (h : SeqQ P md ops Q SS isM (k + 1) (o' :: rest) (fun π => (A π).put o.dst v)) : SeqQ P md ops Q SS isM k (o :: o' :: rest) A :=
  ⟨fun _ => v, .inl ⟨hM, fun _ _ _ => rfl, fun π D hD => hs π D hD⟩, h⟩
/-- A value that hangs on what has been made. -/
theorem SeqQ.hang {k : Nat} {o o' : Oper} {rest : List Oper} {A : (Nat → Value) → Act} (V : (Nat → Value) → Value) (hM : isM k = false) (hV : HangQ md ops isM k V) (hs : ∀ π D, MetQ md ops isM k D → Sure P ops (SS D π) o (V π) (A π)) (h : SeqQ P md ops Q SS isM (k + 1) (o' :: rest) (fun π => (A π).put o.dst (V π))) : SeqQ P md ops Q SS isM k (o :: o' :: rest) A :=
  ⟨V, .inl ⟨hM, hV, fun π D hD => hs π D hD⟩, h⟩
theorem SeqQ.make {k : Nat} {o o' : Oper} {rest : List Oper} {A : (Nat → Value) → Act} (hM : isM k = true) (hs : ∀ π, MakesQ P md ops SS isM k o π (A π)) (h : SeqQ P md ops Q SS isM (k + 1) (o' :: rest) (fun π => (A π).put o.dst (π k))) : SeqQ P md ops Q SS isM k (o :: o' :: rest) A :=
  ⟨fun π => π k, .inr ⟨hM, fun _ => rfl, hs⟩, h⟩
theorem MakesQ.call {i : Nat} {o : Oper} {π : Nat → Value} {a : Act} {f : FuncId} {args : Array Value} (hwant : Region.wanted o (yielded ops a.tmps) = true) (hr : ∀ w, (execOp a.eval o).run P w = .ok (.enter f args) w)
    (h : ∀ D w, MetQ md ops isM i D → D i = false → SS D π w → Calls P f args w fun e w'' => ∃ v, e = .returned v ∧ SS (upb D i) (upd π i v) w'') : MakesQ P md ops SS isM i o π a := ⟨hwant, fun D w hm hD hS => by rw [hr w]; exact h D w hm hD hS⟩
theorem MakesQ.value {i : Nat} {o : Oper} {π : Nat → Value} {a : Act} (hwant : Region.wanted o (yielded ops a.tmps) = true)
    (h : ∀ D w, MetQ md ops isM i D → D i = false → SS D π w → ∃ v w', (execOp a.eval o).run P w = .ok (.value v) w' ∧ SS (upb D i) (upd π i v) w') : MakesQ P md ops SS isM i o π a := ⟨hwant, fun D w hm hD hS => by obtain ⟨v, w', hr, hS'⟩ := h D w hm hD hS; rw [hr]; exact hS'⟩
theorem upb_ne {D : Nat → Bool} {i k : Nat} (h : k ≠ i) : upb D i k = D k := if_neg h
end
end Go.Proofs.YtajifdnfibojfaaDoor

namespace Go.Proofs.YtajifdnfibojfaaDoor
open Go Go.RowKit
set_option maxRecDepth 100000

/-- What stands in the region that calls through and makes the tag's block, in whatever order. -/
def OpI (n0 gv g gc b0 : Nat) (st dl V : Nat → UInt8) (w1 : World) (q : Nat) (PL T : Nat → UInt8) (dd : Nat → Bool) (π : Nat → Value) (W : World) : Prop :=
  (∃ gl k cap, Ob g gc gl k cap st dl W ∧ n0 ≤ gl ∧ gl ≠ gv ∧ (dd 9 = true → π 9 ≠ .pointer (some ⟨gl, 0, none⟩))) ∧ Below n0 w1 W ∧ Row W gv 44 16 V ∧ (n0 ≤ g ∧ n0 ≤ gv) ∧
    (dd 5 = true → ∃ v, π 5 = .tuple #[v, .agg (row 16 T)] ∧ Own W b0 v q PL) ∧ (dd 9 = true → ∃ gt, π 9 = .pointer (some ⟨gt, 0, none⟩) ∧ Row W gt 44 16 (fun _ => 0) ∧ n0 ≤ gt)
def fstV : Value → Value
  | .tuple vs => vs.getD 0 undef
  | _ => undef

set_option maxHeartbeats 4000000 in
theorem ropen_c (Ak An Aa : Option Addr) (b2 o2 kn kc n c m c1 q c2 : Nat) (E D : (Nat → UInt8) → Nat → UInt8) (st dl V fa fs : Nat → UInt8) (w : World)
    (hbeg : Calls Tryd.prog 17 #[.slice Ak kn kc, .slice An n c] w fun e w' => ∃ g gc gl cap n0, e = .returned (.tuple #[.pointer (some ⟨g, 0, none⟩), .agg (row 16 V), .bool true]) ∧ Begun g gc gl cap n0 E D st dl w w')
    (ha : Bts w Aa m c1 fa) (hp : Bts w (some ⟨b2, o2, none⟩) (q + 16) c2 fs) (hc1 : m ≤ 140737488355328) (hc2 : q + 16 ≤ 140737488355328) (TT PL : Nat → UInt8) (hPL : PL = (thrTo D E st dl q V fs (List.range ((q + 15) / 16))).2)
    (hTT : TT = added (E (added (added (sumTo q PL (List.range ((q + 15) / 16))) (thrTo D E st dl q V fs (List.range ((q + 15) / 16))).1.1) dl)) (hashTo E st dl m fa (List.range ((m + 15) / 16))).2) :
    Calls Tryd.prog 11 #[.slice Ak kn kc, .slice An n c, .slice Aa m c1, .slice (some ⟨b2, o2, none⟩) (q + 16) c2] w fun e w' => Below w.heap.size w w' ∧
      ((eqb 16 TT (fun j => fs (q + j)) = true ∧ ∃ v, e = .returned (.tuple #[v, .int .i64 0]) ∧ Own w' w.heap.size v q PL) ∨ (eqb 16 TT (fun j => fs (q + j)) = false ∧ e = .returned (.tuple #[.slice none 0 0, .int .i64 5]))) := by
  have HA := Lib.hid ha
  have HP := Lib.hid hp
  have HTT := Lib.hid hTT
  have HPL := Lib.hid hPL
  have hqc := hp.2.2
  clear ha hp hTT hPL
  go_enter Tryd.func11, Tryd.ntmps11
  go_upto_region 1 with (fail)
  go_upto_region 2 with (first | (go_at_fn 17))
  refine hbeg.mono ?_
  rintro e w1 ⟨g, gc, gl, cap, n0, rfl, ho, h0, h1, h2, hcap, hb⟩
  have HR := Lib.hid hcap
  clear hcap hbeg
  go_upto_region 2 with (first | (refine wpList_alloc_Row rfl 44 rfl 16 zeroBk ?_) | (refine wpList_store_Row rfl 44 _ _ rfl w1.heap.size rfl 44 16 (fun _ => 0) _ rfl (Row.new _ _ _ _) sizeBk ?_))
  have hgl0 := ho.ltl
  have hg0 := ho.1.lt
  have hv := (Row.new w1 44 16 (fun _ => 0)).setRow V
  have ho := (ho.alloc (.cells (row 16 fun _ => 0) 44)).setRow_far (x := w1.heap.size) (by omega) (by omega) (row 16 V)
  have hbn := below_setRow8 (((Below.refl n0 w1)).alloc (by omega) (.cells (row 16 fun _ => 0) 44)) (k := w1.heap.size) (by omega) (row 16 V)
  revert hv ho hbn
  clear ho
  generalize (w1.alloc (.cells (row 16 fun _ => 0) 44)).setRow w1.heap.size (row 16 V) = w2
  generalize hw1 : w1.heap.size = gv at *
  intro hv ho hbn
  have HBL := Lib.hid (p := ∀ W', Below n0 w1 W' → Below w.heap.size w W') fun W' hW => hb.trans (hW.mono h0)
  have hwb : w.heap.size ≤ gv := by rw [← hw1]; exact hb.size
  obtain ⟨T, hT⟩ : ∃ T, T = E (added (added (sumTo q PL (List.range ((q + 15) / 16))) (thrTo D E st dl q V fs (List.range ((q + 15) / 16))).1.1) dl) := ⟨_, rfl⟩
  have HT := Lib.hid hT
  clear hT hw1
  have e16 : (q : Int) + 16 - 16 = (q : Int) := by omega
  have eq0 : ¬ (q : Int) < 0 := by omega
  have i1 : (0 : Int) ≤ (q : Int) := by omega
  have i2 : (q : Int) ≤ (c2 : Int) := by omega
  go_wp2
  refine region_any (OpI n0 gv g gc w.heap.size st dl V w1 q PL T) (fun i => i == 5 || i == 9) mixedOrders (by kernel_rfl) (by simp) ⟨⟨gl, 1, cap, ho.drew, h2, by have := ho.ltl; omega, fun h => by cases h⟩, hbn.drew, hv.drew, ⟨h1, by omega⟩, (fun h => by cases h), fun h => by cases h⟩ ?_
  clear ho hbn hv
  refine SeqQ.next ?_ rfl (fun π dd hm => Sure.val rfl (fun w' hS => ?_)) ?_
  rotate_left 1
  · clear hS
    go_simp
    rfl
  simp only [Act.put, List.setIfInBounds_toArray, List.set_cons_zero, List.set_cons_succ]
  refine SeqQ.next (.agg (row 16 V)) rfl (fun π dd hm => Sure.load_Row rfl 44 _ rfl gv rfl 44 16 _ _ (fun w' hS => hS.2.2.1) undBk sizeBk) ?_
  simp only [Act.put, List.setIfInBounds_toArray, List.set_cons_zero, List.set_cons_succ]
  refine SeqQ.next ?_ rfl (fun π dd hm => Sure.val rfl (fun w' hS => ?_)) ?_
  rotate_left 1
  · clear hS
    go_simp
    rfl
  simp only [Act.put, List.setIfInBounds_toArray, List.set_cons_zero, List.set_cons_succ]
  refine SeqQ.next ?_ rfl (fun π dd hm => Sure.val rfl (fun w' hS => ?_)) ?_
  rotate_left 1
  · clear hS
    go_simp
    rfl
  simp only [Act.put, List.setIfInBounds_toArray, List.set_cons_zero, List.set_cons_succ]
  refine SeqQ.next ?_ rfl (fun π dd hm => Sure.val rfl (fun w' hS => ?_)) ?_
  rotate_left 1
  · clear hS
    go_simp
    rfl
  simp only [Act.put, List.setIfInBounds_toArray, List.set_cons_zero, List.set_cons_succ]
  refine SeqQ.make rfl (fun π => MakesQ.call (f := 18) (args := #[.pointer (some ⟨g, 0, none⟩), .agg (row 16 V), .slice (some ⟨b2, o2, none⟩) q c2, .bool true]) rfl (fun w' => by go_simp) fun dd w' hm hd hS => ?_) ?_
  · obtain ⟨⟨gl, k, cap, a, a2, a3, a9⟩, b, c, ⟨d1, d2⟩, hd5, hd9⟩ := hS
    have hx := rthrO_c g gc gl k cap n0 q c2 (some ⟨b2, o2, none⟩) E D st dl V fs w' a d1 a2 (fun W' hW => HR.out W' (b.trans hW)) (fun W' hW => by
      have hB := HP.out.below (HBL.out W' (b.trans hW))
      refine ⟨fun hq => ?_, (fun e => by cases e), by omega⟩
      obtain ⟨x, y, e, hc⟩ := hB.1 (by omega)
      exact ⟨x, y, e, fun j hj => hc j (by omega)⟩) (by omega) PL HPL.out
    rw [← HT.out, ← HPL.out] at hx
    refine hx.mono ?_
    rintro e w'' ⟨v, rfl, hown, gl', k', cap', ho', hor, hfr⟩
    have hgs := a.1.lt
    have hcs := c.lt
    have hgl := a.ltl
    have hbw := HBL.out _ b
    have hbs := hbw.size
    refine ⟨_, rfl, ⟨gl', k', cap', ho', by omega, by omega, fun h9 => ?_⟩, b.trans (hfr.1.mono (by omega)), (hfr.2 gv hcs (Ne.symm (cells_ne a.1 c (Ne.symm (by decide)))) (Ne.symm a3)).trans c, ⟨d1, d2⟩, fun _ => ⟨v, upd_same _ _ _, hown.weaken (by omega)⟩, fun h9 => ?_⟩
    · rw [upb_ne (by omega)] at h9
      obtain ⟨gt, hp, hrt, _⟩ := hd9 h9
      have h99 := a9 h9
      have hgt := hrt.lt
      rw [upd_ne _ _ (by omega), hp]
      rw [hp] at h99
      rcases hor with rfl | hor
      · exact h99
      · intro e
        injection e with e
        injection e with e
        injection e with e
        omega
    · rw [upb_ne (by omega)] at h9
      obtain ⟨gt, hp, hrt, hng⟩ := hd9 h9
      have h99 := a9 h9
      rw [hp] at h99
      exact ⟨gt, (upd_ne _ _ (by omega)).trans hp, (hfr.2 gt hrt.lt (Ne.symm (cells_ne a.1 hrt (Ne.symm (by decide)))) (fun e => h99 (by rw [e]))).trans hrt, hng⟩
  simp only [Act.put, List.setIfInBounds_toArray, List.set_cons_zero, List.set_cons_succ]
  refine SeqQ.hang (fun π => π 5) rfl (fun π π' h => h 5 rfl (by kernel_rfl)) (fun π dd hm => Sure.val rfl (fun w' hS => by rfl)) ?_
  simp only [Act.put, List.setIfInBounds_toArray, List.set_cons_zero, List.set_cons_succ]
  refine SeqQ.hang (fun π => fstV (π 5)) rfl (fun π π' h => congrArg fstV (h 5 rfl (by kernel_rfl))) (fun π dd hm => Sure.val rfl (fun w' hS => ?_)) ?_
  · obtain ⟨v, hv5, _⟩ := hS.2.2.2.2.1 (hm 5 rfl (by kernel_rfl))
    clear hS
    rw [hv5]
    go_simp
    rfl
  simp only [Act.put, List.setIfInBounds_toArray, List.set_cons_zero, List.set_cons_succ]
  refine SeqQ.next (.agg (row 16 T)) rfl (fun π dd hm => Sure.val rfl (fun w' hS => ?_)) ?_
  · obtain ⟨v, hv5, _⟩ := hS.2.2.2.2.1 (hm 5 rfl (by kernel_rfl))
    clear hS
    rw [hv5]
    go_simp
  simp only [Act.put, List.setIfInBounds_toArray, List.set_cons_zero, List.set_cons_succ]
  refine SeqQ.make rfl (fun π => MakesQ.value rfl fun dd w' hm hd hS => ⟨.pointer (some ⟨w'.heap.size, 0, none⟩), w'.alloc (.cells (row 16 fun _ => 0) 44), by unfold execOp; simp only [Sem.run_bind, Sem.run_pure, Result.andThen_ok, run_alloc_Blk 44 _ zeroBk], ?_⟩) ?_
  · obtain ⟨⟨gl, k, cap, a, a2, a3, a9⟩, b, c, ⟨d1, d2⟩, hd5, hd9⟩ := hS
    have hgs := a.1.lt
    have hgl := a.ltl
    refine ⟨⟨gl, k, cap, a.alloc _, a2, a3, fun _ => ?_⟩, b.alloc (by omega) _, c.alloc _, ⟨d1, d2⟩, fun h5 => ?_, fun _ => ⟨w'.heap.size, upd_same _ _ _, Row.new _ _ _ _, by omega⟩⟩
    · rw [upd_same]
      intro e
      injection e with e
      injection e with e
      injection e with e
      omega
    · rw [upb_ne (by omega)] at h5
      obtain ⟨v, hp, hown⟩ := hd5 h5
      exact ⟨v, (upd_ne _ _ (by omega)).trans hp, hown.below ((Below.refl _ _).alloc (Nat.le_refl _) _)⟩
  simp only [Act.put, List.setIfInBounds_toArray, List.set_cons_zero, List.set_cons_succ]
  refine SeqQ.hang (fun π => fstV (π 5)) rfl (fun π π' h => congrArg fstV (h 5 rfl (by kernel_rfl))) (fun π dd hm => Sure.val rfl (fun w' hS => by rfl)) ?_
  simp only [Act.put, List.setIfInBounds_toArray, List.set_cons_zero, List.set_cons_succ]
  refine SeqQ.last (fun π => rfl) fun dd π w' hD hS => ?_
  obtain ⟨⟨gl, k, cap, a, a2, a3, a9⟩, b, c, ⟨d1, d2⟩, hd5, hd9⟩ := hS
  have h9 := hD 9 rfl (by omega)
  obtain ⟨v, hp5, hown⟩ := hd5 (hD 5 rfl (by omega))
  obtain ⟨gt, hp9, hrt, hng⟩ := hd9 h9
  have h99 := a9 h9
  clear hd5 hd9 a9 hD
  rw [hp9] at h99
  have hI : TgI n0 gt g gc w.heap.size st dl w1 v q PL (fun _ => 0) w' := ⟨⟨gl, k, cap, a, a2, fun e => h99 (by rw [e])⟩, b, hrt, hown, d1, hng⟩
  have hI := hI.set_ T
  refine wp_store_Row 44 _ _ rfl gt (by exact hp9) 44 16 _ T rfl hrt sizeBk ?_
  rw [hp9, show fstV (π 5) = v by rw [hp5]; rfl, hp5]
  clear a b c hown hrt h99
  revert hI
  generalize w'.setRow gt (row 16 T) = w4
  intro hI
  go_wp2
  obtain ⟨Hs, hH⟩ : ∃ Hs, Hs = (hashTo E st dl m fa (List.range ((m + 15) / 16))).2 := ⟨_, rfl⟩
  have hT2 : TT = added T Hs := by rw [HTT.out, HT.out, hH]
  have HH := Lib.hid hH
  have HT2 := Lib.hid hT2
  clear hH hT2
  refine region_seq (fun W' => TgI n0 gt g gc w.heap.size st dl w1 v q PL T W') mixedOrders (by kernel_rfl) (by simp) hI.drew ?_
  clear hI
  refine Seq.next (.agg (row 16 T)) (Sure.load_Row rfl 44 _ rfl gt rfl 44 16 _ _ (fun w' hS => hS.2.2.1) undBk sizeBk) ?_
  simp only [Act.put, List.setIfInBounds_toArray, List.set_cons_zero, List.set_cons_succ]
  refine Seq.next ?_ (Sure.val rfl (fun w' hS => ?_)) ?_
  rotate_left 1
  · clear hS
    go_simp
    rfl
  simp only [Act.put, List.setIfInBounds_toArray, List.set_cons_zero, List.set_cons_succ]
  refine Seq.next ?_ (Sure.val rfl (fun w' hS => ?_)) ?_
  rotate_left 1
  · clear hS
    go_simp
    rfl
  simp only [Act.put, List.setIfInBounds_toArray, List.set_cons_zero, List.set_cons_succ]
  refine Seq.next (.agg (row 16 Hs)) (Sure.call (f := 20) (args := #[.pointer (some ⟨g, 0, none⟩), .slice Aa m c1]) rfl (fun w' => by go_simp) (fun w' hS => by
    obtain ⟨⟨gl2, k2, cap2, a, a2, a3⟩, b, c, d, e1, e2⟩ := hS
    refine (rhash_c g gc gl2 k2 cap2 n0 m c1 Aa E D st dl fa w' a e1 a2 (fun W' hW => HR.out W' (b.trans hW)) (fun W' hW => HA.out.below (HBL.out W' (b.trans hW))) (by omega)).mono ?_
    rintro e w'' ⟨rfl, hat⟩
    refine ⟨by rw [HH.out], ?_⟩
    have d2 := d.at_ a hat
    obtain ⟨gl3, k3, cap3, ho3, hor3, hfr3⟩ := hat
    exact ⟨⟨gl3, k3, cap3, ho3, by have := a.1.lt; omega, by have := c.lt; omega⟩, b.trans (hfr3.1.mono (by omega)), (hfr3.2 gt c.lt (Ne.symm (cells_ne a.1 c (Ne.symm (by decide)))) (Ne.symm a3)).trans c, d2, e1, e2⟩)) ?_
  simp only [Act.put, List.setIfInBounds_toArray, List.set_cons_zero, List.set_cons_succ]
  refine Seq.next (.agg (row 16 TT)) (Sure.call (f := 19) (args := #[.agg (row 16 T), .agg (row 16 Hs)]) rfl (fun w' => by go_simp) (fun w' hS => (rxor_c T Hs w').mono fun e w'' h => ⟨by rw [HT2.out]; exact h.1, hS.below h.2⟩)) ?_
  simp only [Act.put, List.setIfInBounds_toArray, List.set_cons_zero, List.set_cons_succ]
  refine Seq.store_Row rfl 44 _ _ rfl gt rfl 44 16 _ TT rfl (fun w' hS => hS.2.2.1) sizeBk fun w' hS => ?_
  have hI := hS.set_ TT
  clear hS
  revert hI
  generalize w'.setRow gt (row 16 TT) = w5
  intro hI
  go_wp2
  have hsea : ∀ W', Below n0 w1 W' → (convert 22 9 (.slice (some ⟨b2, o2 + q, none⟩) 16 (c2 - q))).run Tryd.prog W' = .ok (.string (bytesOf 16 fun j => fs (q + j))) W' := fun W' hW => by
    have h := (HP.out.below (HBL.out W' hW)).cut q (by omega)
    rw [Nat.add_sub_cancel_left] at h
    exact run_str h
  have HSEA := Lib.hid hsea
  clear hsea
  have k1 : ¬ c2 = q := by omega
  have k2 : q + 16 - q = 16 := by omega
  have k3 : q ≤ q + 16 := by omega
  have k4 : (q : Int) ≤ (q : Int) + 16 := by omega
  refine region_seq (fun W' => TgI n0 gt g gc w.heap.size st dl w1 v q PL TT W') mixedOrders (by kernel_rfl) (by simp) hI.drew ?_
  clear hI
  refine Seq.next ?_ (Sure.val rfl (fun w' hS => ?_)) ?_
  rotate_left 1
  · have s1 := run_str (Bts.of_cells (c := 16) (fun j hj => by rw [Nat.zero_add]; exact hS.2.2.1.cell j hj) (Nat.le_refl 16) : Bts w' (some ⟨gt, 0, none⟩) 16 16 TT)
    have s2 := HSEA.out w' hS.2.1
    clear hS
    go_simp
    rfl
  simp only [Act.put, List.setIfInBounds_toArray, List.set_cons_zero, List.set_cons_succ]
  refine Seq.next ?_ (Sure.val rfl (fun w' hS => ?_)) ?_
  rotate_left 1
  · have s1 := run_str (Bts.of_cells (c := 16) (fun j hj => by rw [Nat.zero_add]; exact hS.2.2.1.cell j hj) (Nat.le_refl 16) : Bts w' (some ⟨gt, 0, none⟩) 16 16 TT)
    have s2 := HSEA.out w' hS.2.1
    clear hS
    go_simp
    rfl
  simp only [Act.put, List.setIfInBounds_toArray, List.set_cons_zero, List.set_cons_succ]
  refine Seq.next ?_ (Sure.val rfl (fun w' hS => ?_)) ?_
  rotate_left 1
  · have s1 := run_str (Bts.of_cells (c := 16) (fun j hj => by rw [Nat.zero_add]; exact hS.2.2.1.cell j hj) (Nat.le_refl 16) : Bts w' (some ⟨gt, 0, none⟩) 16 16 TT)
    have s2 := HSEA.out w' hS.2.1
    clear hS
    go_simp
    rfl
  simp only [Act.put, List.setIfInBounds_toArray, List.set_cons_zero, List.set_cons_succ]
  refine Seq.next ?_ (Sure.val rfl (fun w' hS => ?_)) ?_
  rotate_left 1
  · have s1 := run_str (Bts.of_cells (c := 16) (fun j hj => by rw [Nat.zero_add]; exact hS.2.2.1.cell j hj) (Nat.le_refl 16) : Bts w' (some ⟨gt, 0, none⟩) 16 16 TT)
    have s2 := HSEA.out w' hS.2.1
    clear hS
    go_simp
    rfl
  simp only [Act.put, List.setIfInBounds_toArray, List.set_cons_zero, List.set_cons_succ]
  refine Seq.next ?_ (Sure.val rfl (fun w' hS => ?_)) ?_
  rotate_left 1
  · have s1 := run_str (Bts.of_cells (c := 16) (fun j hj => by rw [Nat.zero_add]; exact hS.2.2.1.cell j hj) (Nat.le_refl 16) : Bts w' (some ⟨gt, 0, none⟩) 16 16 TT)
    have s2 := HSEA.out w' hS.2.1
    clear hS
    go_simp
    rfl
  simp only [Act.put, List.setIfInBounds_toArray, List.set_cons_zero, List.set_cons_succ]
  refine Seq.next ?_ (Sure.val rfl (fun w' hS => ?_)) ?_
  rotate_left 1
  · have s1 := run_str (Bts.of_cells (c := 16) (fun j hj => by rw [Nat.zero_add]; exact hS.2.2.1.cell j hj) (Nat.le_refl 16) : Bts w' (some ⟨gt, 0, none⟩) 16 16 TT)
    have s2 := HSEA.out w' hS.2.1
    clear hS
    go_simp
    rfl
  simp only [Act.put, List.setIfInBounds_toArray, List.set_cons_zero, List.set_cons_succ]
  refine Seq.last rfl fun w' hS => ?_
  obtain ⟨_, hbn, _, hown, _, _⟩ := hS
  have hbw := HBL.out _ hbn
  cases hE : eqb 16 TT (fun j => fs (q + j)) with
  | true =>
    have hq : ((bytesOf 16 TT).toList == (bytesOf 16 fun j => fs (q + j)).toList) = true := by
      rw [bytesOf_congr (eqb_true.1 hE)]
      exact beq_self_eq_true _
    go_simp
    clear hq
    go_wp2
    exact bodyPost_ret (results_tmp2 rfl _ _ _) rfl ⟨hbw, .inl ⟨hE, v, rfl, hown⟩⟩
  | false =>
    have hq : ((bytesOf 16 TT).toList == (bytesOf 16 fun j => fs (q + j)).toList) = false := by
      rw [beq_eq_false_iff_ne]
      intro h
      unfold bytesOf at h
      rw [ByteArray.toList_mk, ByteArray.toList_mk] at h
      have h2 := bytesOf_inj (n := 16) (m := 16) (f := TT) (g := fun j => fs (q + j)) (by unfold bytesOf; rw [h])
      rw [eqb_true.2 h2.2] at hE
      cases hE
    go_simp
    clear hq
    go_wp2
    exact bodyPost_ret (results_tmp2 rfl _ _ _) rfl ⟨hbw, .inr ⟨hE, rfl⟩⟩
end Go.Proofs.YtajifdnfibojfaaDoor

namespace Go.Proofs.YtajifdnfibojfaaDoor
open Go Go.RowKit
set_option maxRecDepth 100000

set_option maxHeartbeats 4000000 in
theorem ropen_few (Ak An Aa Ap : Option Addr) (kn kc n c m c1 q c2 : Nat) (E D : (Nat → UInt8) → Nat → UInt8) (st dl V : Nat → UInt8) (w : World) (hq : q < 16)
    (hbeg : Calls Tryd.prog 17 #[.slice Ak kn kc, .slice An n c] w fun e w' => ∃ g gc gl cap n0, e = .returned (.tuple #[.pointer (some ⟨g, 0, none⟩), .agg (row 16 V), .bool true]) ∧ Begun g gc gl cap n0 E D st dl w w') :
    Calls Tryd.prog 11 #[.slice Ak kn kc, .slice An n c, .slice Aa m c1, .slice Ap q c2] w fun e w' => e = .returned (.tuple #[.slice none 0 0, .int .i64 5]) ∧ Below w.heap.size w w' := by
  have i1 : (q : Int) - 16 < 0 := by omega
  go_enter Tryd.func11, Tryd.ntmps11
  go_upto_region 1 with (fail)
  go_upto_region 2 with (first | (go_at_fn 17))
  refine hbeg.mono ?_
  rintro e w1 ⟨g, gc, gl, cap, n0, rfl, ho, h0, h1, h2, hcap, hb⟩
  clear hbeg hcap ho
  go_wp2_with (first | (refine wpList_alloc_Row rfl 44 rfl 16 zeroBk ?_) | (refine wpList_store_Row rfl 44 _ _ rfl w1.heap.size rfl 44 16 (fun _ => 0) _ rfl (Row.new _ _ _ _) sizeBk ?_))
  exact bodyPost_ret (results_tmp2 rfl _ _ _) rfl ⟨rfl, below_setRow8 (k := w1.heap.size) (hb.alloc hb.size _) hb.size _⟩

section
variable (A N A1 A2 : Option Addr) (kn kc k kc2 m c1 n c2 : Nat) (key fn fa fs : Nat → UInt8) (W : World)
theorem open_out (hs : Row W 0 76 256 boxF) (hT : DeB W) (hg : 2 < W.heap.size) (hk : Bts W A kn kc key) (hN : Bts W N k kc2 fn) (ha : Bts W A1 m c1 fa) (hp : Bts W A2 n c2 fs) (hc1 : m ≤ 140737488355328) (hc2 : n ≤ 140737488355328) :
    ∃ (er : Int) (q : Nat) (f : Nat → UInt8), q ≤ n ∧ (∀ w, Below W.heap.size W w → Calls Tryd.prog 10 #[.slice A kn kc, .slice N k kc2, .slice A1 m c1, .slice A2 n c2] w (OutS er q f w)) ∧
      (∀ w, Below W.heap.size W w → Calls Tryd.prog 11 #[.slice A kn kc, .slice N k kc2, .slice A1 m c1, .slice A2 n c2] w (OutS er q f w)) := by
  rcases begins A N kn kc k kc2 key fn W hs hk hN with ⟨h1, h15, E, D, hP, hC, hB⟩ | ⟨hbad, rbad⟩
  · by_cases hn : n < 16
    · exact ⟨5, 0, fun _ => 0, by omega, fun w hb => OutS.none (Open_few A N A1 A2 kn kc k kc2 m c1 n c2 E D w (hC.below hb) (by omega) (by omega) hn), fun w hb => OutS.none (ropen_few A N A1 A2 kn kc k kc2 m c1 n c2 E D _ _ _ w hn (hB w hb))⟩
    · obtain ⟨q, rfl⟩ : ∃ q, n = q + 16 := ⟨n - 16, by omega⟩
      obtain ⟨b2, o2, rfl, _⟩ := hp.1 (by omega)
      have hpr := fun w (hb : Below W.heap.size W w) => Open_c A N A1 (some ⟨b2, o2, none⟩) kn kc k kc2 m c1 q c2 E D fn fa fs w (hC.below hb) (hT.below hb hg) (Nat.lt_of_lt_of_le hg hb.size) (by omega) (by omega) (hN.below hb) (ha.below hb) (hp.below hb) hc1 hc2
      have hrf := fun w (hb : Below W.heap.size W w) => ropen_c A N A1 b2 o2 kn kc k kc2 m c1 q c2 E D _ _ _ fa fs w (hB w hb) (ha.below hb) (hp.below hb) hc1 hc2 _ _ rfl rfl
      have hf : ∀ i, i < q → cpy 0 q (fun _ => 0) fs i = fs i := fun i hi => by
        unfold cpy
        rw [if_pos (by omega), Nat.sub_zero]
      have hpl : ∀ j, j < q → (opnR E D (E fun _ => 0) (dblB (E fun _ => 0)) (offB E k fn) q fs).2 j = (thrTo D E (E fun _ => 0) (dblB (E fun _ => 0)) q (offB E k fn) fs (List.range ((q + 15) / 16))).2 j := fun j hj => thr_congr hP.2.1 hf _ j hj
      have htg : opnT E D (E fun _ => 0) (dblB (E fun _ => 0)) (offB E k fn) m fa q fs = added (E (added (added (sumTo q (thrTo D E (E fun _ => 0) (dblB (E fun _ => 0)) q (offB E k fn) fs (List.range ((q + 15) / 16))).2 (List.range ((q + 15) / 16))) (thrTo D E (E fun _ => 0) (dblB (E fun _ => 0)) q (offB E k fn) fs (List.range ((q + 15) / 16))).1.1) (dblB (E fun _ => 0)))) (hashTo E (E fun _ => 0) (dblB (E fun _ => 0)) m fa (List.range ((m + 15) / 16))).2 := by
        unfold opnT tagB
        rw [sum_congr hpl, ← added_assoc]
        unfold opnR
        rw [thr_off D D E (E fun _ => 0) (dblB (E fun _ => 0)) q (offB E k fn) (cpy 0 q (fun _ => 0) fs) fs ((q + 15) / 16)]
      cases hE : eqb 16 (opnT E D (E fun _ => 0) (dblB (E fun _ => 0)) (offB E k fn) m fa q fs) (fun j => fs (q + j)) with
      | true =>
        refine ⟨0, q, (opnR E D (E fun _ => 0) (dblB (E fun _ => 0)) (offB E k fn) q fs).2, by omega, fun w hb => (hpr w hb).mono ?_, fun w hb => (hrf w hb).mono ?_⟩
        · rintro e w' ⟨hb', ⟨_, g, rfl, hg', hr⟩ | ⟨h, _⟩⟩
          · exact OutS.row hg' hr (by have := hp.2.2; omega) hb'
          · rw [hE] at h; cases h
        · rintro e w' ⟨hb', ⟨_, v, rfl, ho⟩ | ⟨h, _⟩⟩
          · exact OutS.own (ho.congr fun j hj => (hpl j hj).symm) hb'
          · rw [← htg, hE] at h; cases h
      | false =>
        refine ⟨5, 0, fun _ => 0, by omega, fun w hb => OutS.none ((hpr w hb).mono ?_), fun w hb => OutS.none ((hrf w hb).mono ?_)⟩
        · rintro e w' ⟨hb', ⟨h, _⟩ | ⟨_, rfl⟩⟩
          · rw [hE] at h; cases h
          · exact ⟨rfl, hb'⟩
        · rintro e w' ⟨hb', ⟨h, _⟩ | ⟨_, rfl⟩⟩
          · rw [← htg, hE] at h; cases h
          · exact ⟨rfl, hb'⟩
  · exact ⟨1, 0, fun _ => 0, by omega, fun w hb => OutS.none (Open_bad A N A1 A2 kn kc k kc2 m c1 n c2 w (hbad w)), fun w hb => OutS.none (rOpen_bad A N A1 A2 kn kc k kc2 m c1 n c2 w (rbad w hb))⟩
end
set_option maxHeartbeats 4000000 in
theorem opens_walk (A N A1 A2 : Option Addr) (kn kc k kc2 m c1 n c2 : Nat) (er : Int) (q : Nat) (f : Nat → UInt8) (W : World) (hs : Row W 0 76 256 boxF) (hT : DeB W) (hg : 2 < W.heap.size)
    (p1 : ∀ w, Below W.heap.size W w → Calls Tryd.prog 10 #[.slice A kn kc, .slice N k kc2, .slice A1 m c1, .slice A2 n c2] w (OutS er q f w))
    (r1 : ∀ w, Below W.heap.size W w → Calls Tryd.prog 11 #[.slice A kn kc, .slice N k kc2, .slice A1 m c1, .slice A2 n c2] w (OutS er q f w)) :
    Calls Tryd.prog 4 #[.slice A kn kc, .slice N k kc2, .slice A1 m c1, .slice A2 n c2] W fun e w' => e = .returned (.bool true) ∧ Below W.heap.size W w' := by
  have P1 := Lib.hid p1
  have R1 := Lib.hid r1
  clear p1 r1
  go_enter Tryd.func4, Tryd.ntmps4
  go_wp2_with (fail)
  refine (oawake_c W hs hT hg).mono ?_
  rintro e w1 ⟨rfl, hb⟩
  clear hs hT
  go_wp2_with (fail)
  refine (P1.out w1 hb).mono ?_
  rintro e w2 ⟨⟨B1, d1, rfl, t1, _⟩, hb1⟩
  have hb := hb.trans (hb1.mono hb.size)
  clear hb1
  go_wp2_with (fail)
  refine (R1.out w2 hb).mono ?_
  rintro e w3 ⟨⟨B2, d2, rfl, t2, _⟩, hb1⟩
  have s1 := run_str (t1.below hb1)
  have s2 := run_str t2
  have hb := hb.trans (hb1.mono hb.size)
  clear hb1 t1 t2 P1 R1
  go_wp2_with (fail)
  go_ret
  exact ⟨rfl, hb⟩
theorem opens_all (A N A1 A2 : Option Addr) (kn kc k kc2 m c1 n c2 : Nat) (key fn fa fs : Nat → UInt8) (W : World) (hs : Row W 0 76 256 boxF) (hT : DeB W) (hg : 2 < W.heap.size)
    (hk : Bts W A kn kc key) (hN : Bts W N k kc2 fn) (ha : Bts W A1 m c1 fa) (hp : Bts W A2 n c2 fs) (hc1 : c1 ≤ 140737488355328) (hc2 : c2 ≤ 140737488355328) :
    Calls Tryd.prog 4 #[.slice A kn kc, .slice N k kc2, .slice A1 m c1, .slice A2 n c2] W fun e w' => e = .returned (.bool true) ∧ Below W.heap.size W w' := by
  obtain ⟨er, q, f, _, p1, r1⟩ := open_out A N A1 A2 kn kc k kc2 m c1 n c2 key fn fa fs W hs hT hg hk hN ha hp (by have := ha.2.2; omega) (by have := hp.2.2; omega)
  exact opens_walk A N A1 A2 kn kc k kc2 m c1 n c2 er q f W hs hT hg p1 r1
end Go.Proofs.YtajifdnfibojfaaDoor

namespace Go.Proofs.YtajifdnfibojfaaDoor

section
variable {E D : (Nat → UInt8) → Nat → UInt8} {st dl V fa fp fs : Nat → UInt8} {m n : Nat}
theorem back_plain (hP : Pair E D) (hfs : ∀ j, j < n + 16 → fs j = outB E st dl V m fa n fp j) : ∀ j, j < n → (opnR E D st dl V n fs).2 j = fp j := by
  intro j hj
  have h := thr_back (st := st) (dl := dl) (of := V) (f := cpy 0 n (fun _ => 0) fp) (n := n) hP.2.1 hP.2.2.1 (c := cpy 0 n (fun _ => 0) fs) (fun i hi => by
    have h1 := hfs i (by omega)
    unfold outB at h1
    unfold cpy at h1 ⊢
    rw [if_neg (by omega)] at h1
    rw [if_pos (by omega), Nat.sub_zero]
    exact h1) ((n + 15) / 16) (Nat.le_refl _) j hj (by omega)
  refine Eq.trans h ?_
  unfold cpy
  rw [if_pos (by omega), Nat.sub_zero]
theorem back_tag (hP : Pair E D) (hfs : ∀ j, j < n + 16 → fs j = outB E st dl V m fa n fp j) : eqb 16 (opnT E D st dl V m fa n fs) (fun j => fs (n + j)) = true := by
  refine eqb_true.2 fun j hj => ?_
  have h1 := hfs (n + j) (by omega)
  unfold outB at h1
  unfold cpy at h1
  rw [if_pos (by omega), Nat.add_sub_cancel_left] at h1
  rw [h1]
  unfold opnT tagB
  rw [sum_congr (back_plain hP hfs)]
  unfold opnR
  rw [thr_off D E E st dl n V (cpy 0 n (fun _ => 0) fs) (cpy 0 n (fun _ => 0) fp) ((n + 15) / 16)]
  rfl
end
end Go.Proofs.YtajifdnfibojfaaDoor

namespace Go.Proofs.YtajifdnfibojfaaDoor
open Go Go.RowKit
set_option maxRecDepth 100000

section
variable (A N A1 A2 : Option Addr) (kn kc k kc2 m c1 n c2 : Nat) (key fn fa fp : Nat → UInt8) (W : World)
theorem back_out (hs : Row W 0 76 256 boxF) (hT : DeB W) (hg : 2 < W.heap.size) (hk : Bts W A kn kc key) (hN : Bts W N k kc2 fn) (ha : Bts W A1 m c1 fa) (hp : Bts W A2 n c2 fp) (hc1 : c1 ≤ 140737488351232) (hc2 : c2 ≤ 140737488351232) :
    ∃ (er : Int) (q : Nat) (f : Nat → UInt8), (∀ w, Below W.heap.size W w → Calls Tryd.prog 8 #[.slice A kn kc, .slice N k kc2, .slice A1 m c1, .slice A2 n c2] w (OutS er q f w)) ∧
      ((er = 1 ∧ q = 0) ∨ (er = 0 ∧ 0 < k ∧ k < 16 ∧ q = n + 16 ∧ ∀ (B : Option Addr) (cb : Nat) (w : World), Below W.heap.size W w → Bts w B (n + 16) cb f →
        Calls Tryd.prog 10 #[.slice A kn kc, .slice N k kc2, .slice A1 m c1, .slice B (n + 16) cb] w (OutS 0 n fp w))) := by
  rcases begins A N kn kc k kc2 key fn W hs hk hN with ⟨h1, h15, E, D, hP, hC, hB⟩ | ⟨hbad, rbad⟩
  · refine ⟨0, n + 16, outB E (E fun _ => 0) (dblB (E fun _ => 0)) (offB E k fn) m fa n fp, fun w hb => ?_, .inr ⟨rfl, by omega, by omega, rfl, fun B cb w hb hB2 => ?_⟩⟩
    · refine (Seal_c A N A1 A2 kn kc k kc2 m c1 n c2 E D fn fa fp w (hC.below hb) (hT.below hb hg) (Nat.lt_of_lt_of_le hg hb.size) (by omega) (by omega) (hN.below hb) (ha.below hb) (hp.below hb) hc1 hc2).mono ?_
      rintro e w' ⟨g, rfl, hgw, hr, hb'⟩
      exact OutS.row hgw hr (by have := hp.2.2; omega) hb'
    · refine (Open_c A N A1 B kn kc k kc2 m c1 n cb E D fn fa _ w (hC.below hb) (hT.below hb hg) (Nat.lt_of_lt_of_le hg hb.size) (by omega) (by omega) (hN.below hb) (ha.below hb) hB2 (by have := ha.2.2; omega) (by have := hp.2.2; omega)).mono ?_
      rintro e w' ⟨hb', ⟨_, g, rfl, hg', hr⟩ | ⟨h, _⟩⟩
      · exact OutS.row hg' (hr.congr (back_plain hP fun _ _ => rfl)) (by have := hp.2.2; omega) hb'
      · rw [back_tag hP fun _ _ => rfl] at h
        cases h
  · exact ⟨1, 0, fun _ => 0, fun w hb => OutS.none (Seal_bad A N A1 A2 kn kc k kc2 m c1 n c2 w (hbad w)), .inl ⟨rfl, rfl⟩⟩
end
end Go.Proofs.YtajifdnfibojfaaDoor

namespace Go.Proofs.YtajifdnfibojfaaDoor
open Go Go.RowKit
set_option maxRecDepth 100000

theorem undU : Tryd.prog.underlying 28 = some (.int .u64) := by kernel_rfl
theorem PRow.set_ {w : World} {g : Nat} {t : TypeId} {n : Nat} {f : Nat → UInt8} (h : PRow w g t n f) (i : Nat) (x : UInt8) : PRow (w.setCell ⟨g, i, none⟩ (.int .u8 (x.toNat : Int))) g t n fun j => if j = i then x else f j := by
  obtain ⟨cur, h, hc⟩ := h
  refine ⟨cur.setIfInBounds i (.int .u8 (x.toNat : Int)), ?_, fun j hj => ?_⟩
  · show (w.setCell ⟨g, i, none⟩ (.int .u8 (x.toNat : Int))).heap[g]? = _
    simp [World.setCell, h, Array.getElem?_modify]
  · have h1 := hc j hj
    have hsz : j < cur.size := (Array.getElem?_eq_some_iff.1 h1).1
    by_cases e : j = i
    · subst e
      show _ = some (by8 (if j = j then x else f j))
      rw [if_pos rfl, Array.getElem?_setIfInBounds_self_of_lt hsz]; rfl
    · show _ = some (by8 (if j = i then x else f j))
      rw [if_neg e, Array.getElem?_setIfInBounds_ne (Ne.symm e)]
      exact h1
theorem PRow.bts {w : World} {g n c : Nat} {f : Nat → UInt8} (h : PRow w g 5 n f) (hc : n ≤ c) : Bts w (some ⟨g, 0, none⟩) n c f :=
  Bts.of_cells (fun j hj => by rw [Nat.zero_add]; exact h.cell j hj) hc
theorem Bts.setCell {w : World} {A : Option Addr} {n c k : Nat} {f : Nat → UInt8} (h : Bts w A n c f) (hA : ∀ a, A = some a → k ≠ a.block) (o : Nat) (u : Value) : Bts (w.setCell ⟨k, o, none⟩ u) A n c f := by
  refine ⟨fun hn => ?_, h.2⟩
  obtain ⟨b, off, hA', hc⟩ := h.1 hn
  have hne := hA _ hA'
  refine ⟨b, off, hA', fun j hj => ?_⟩
  rw [World.cell?_of_block (w := w) (Below.heap_setCell w ⟨k, o, none⟩ u b (by simp; exact fun e => hne e.symm))]
  exact hc j hj
theorem Bts.alloc {w : World} {A : Option Addr} {n c : Nat} {f : Nat → UInt8} (h : Bts w A n c f) (o : Obj) : Bts (w.alloc o) A n c f := h.below ((Below.refl _ _).alloc (Nat.le_refl _) _)
theorem Bts.upto {w : World} {A : Option Addr} {n k c : Nat} {f : Nat → UInt8} (h : Bts w A n c f) (hk : k ≤ n) (hA : A ≠ none) : Bts w A k c f := by
  refine ⟨fun hn => ?_, fun h => absurd h hA, by have := h.2.2; omega⟩
  obtain ⟨b, off, hA, hc⟩ := h.1 (by omega)
  exact ⟨b, off, hA, fun j hj => hc j (by omega)⟩
theorem both_zero (f g : Nat → UInt8) : both 0 f g = g := by
  funext j
  unfold both
  rw [if_neg (by omega), Nat.sub_zero]

set_option maxHeartbeats 8000000 in
theorem back_bad (A N A1 A2 : Option Addr) (kn kc k kc2 m c1 n c2 : Nat) (z t y : Int) (f : Nat → UInt8) (W : World) (hs : Row W 0 76 256 boxF) (hT : DeB W) (hg : 2 < W.heap.size)
    (p1 : ∀ w, Below W.heap.size W w → Calls Tryd.prog 8 #[.slice A kn kc, .slice N k kc2, .slice A1 m c1, .slice A2 n c2] w (OutS 1 0 f w)) :
    Calls Tryd.prog 5 #[.slice A kn kc, .slice N k kc2, .slice A1 m c1, .slice A2 n c2, .int .u64 z, .int .u64 t, .int .u8 y] W fun e w' => e = .returned (.bool true) ∧ Below W.heap.size W w' := by
  have P1 := Lib.hid p1
  clear p1
  go_enter Tryd.func5, Tryd.ntmps5
  go_wp2_with (fail)
  refine (oawake_c W hs hT hg).mono ?_
  rintro e w1 ⟨rfl, hb⟩
  clear hs hT
  go_wp2_with (fail)
  refine (P1.out w1 hb).mono ?_
  rintro e w2 ⟨⟨B1, d1, rfl, t1, _⟩, hb1⟩
  have hb := hb.trans (hb1.mono hb.size)
  clear hb1 t1 P1
  go_wp2_with (fail)
  go_ret
  exact ⟨rfl, hb⟩

set_option maxHeartbeats 16000000 in
theorem back_walk (A N A1 A2 : Option Addr) (kn kc k kc2 m c1 n c2 : Nat) (z0 t0 : Nat) (y : UInt8) (key fn fa fp X : Nat → UInt8) (W : World) (hs : Row W 0 76 256 boxF) (hT : DeB W) (hg : 2 < W.heap.size)
    (hk : Bts W A kn kc key) (hN : Bts W N k kc2 fn) (ha : Bts W A1 m c1 fa) (hp : Bts W A2 n c2 fp) (hc1 : c1 ≤ 140737488351232) (hc2 : c2 ≤ 140737488351232) (hk0 : 0 < k) (hk16 : k < 16)
    (p1 : ∀ w, Below W.heap.size W w → Calls Tryd.prog 8 #[.slice A kn kc, .slice N k kc2, .slice A1 m c1, .slice A2 n c2] w (OutS 0 (n + 16) X w))
    (p2 : ∀ (B : Option Addr) (cb : Nat) (w : World), Below W.heap.size W w → Bts w B (n + 16) cb X → Calls Tryd.prog 10 #[.slice A kn kc, .slice N k kc2, .slice A1 m c1, .slice B (n + 16) cb] w (OutS 0 n fp w)) :
    Calls Tryd.prog 5 #[.slice A kn kc, .slice N k kc2, .slice A1 m c1, .slice A2 n c2, .int .u64 (z0 : Int), .int .u64 (t0 : Int), .int .u8 (y.toNat : Int)] W fun e w' => e = .returned (.bool true) ∧ Below W.heap.size W w' := by
  have P1 := Lib.hid p1
  have P2 := Lib.hid p2
  clear p1 p2
  have hmc := ha.2.2
  have hnc := hp.2.2
  go_enter Tryd.func5, Tryd.ntmps5
  go_wp2_with (fail)
  refine (oawake_c W hs hT hg).mono ?_
  rintro e w1 ⟨rfl, hb⟩
  go_wp2_with (fail)
  refine (P1.out w1 hb).mono ?_
  rintro e w2 ⟨⟨B1, d1, rfl, t1, hB1, hd1⟩, hb1⟩
  have hb := hb.trans (hb1.mono hb.size)
  clear hb1 P1 hB1
  go_wp2_with (fail)
  refine (P2.out B1 d1 w2 hb t1).mono ?_
  rintro e w3 ⟨⟨B2, d2, rfl, t2, _⟩, hb1⟩
  have t1 := t1.below hb1
  have hb := hb.trans (hb1.mono hb.size)
  clear hb1 P2
  have s1 := run_str t2
  have s2 := run_str (hp.below hb)
  have hz3 := hb.size
  go_upto_region 9 with (fail)
  clear s1 s2 t2 hp
  iterate 7 go_step
  refine wpList_app rfl (.tmp 70) (.tmp 71) rfl w3.heap.size _ 0 (fun _ => 0) rfl (Own.new w3 _ (Nat.le_refl _) _) N k kc2 fn rfl ((hN.below hb).alloc _) (by omega) (by simp) fun v1 w4 ho1 hb2 => ?_
  rw [both_zero, Nat.zero_add] at ho1
  have hb4 := hb2 W.heap.size hz3 W (hb.alloc hz3 _)
  have hb34 := hb2 w3.heap.size (Nat.le_refl _) w3 ((Below.refl _ _).alloc (Nat.le_refl _) _)
  have hz34 := hb34.size
  clear hb2
  have hz4 := hb4.size
  obtain ⟨gn, cN, rfl, hgn, hPN, hkN, hcN⟩ := ho1.prow (by omega)
  have hgn4 := hPN.lt
  clear ho1
  simp only [Act.put, List.setIfInBounds_toArray, List.set_cons_zero, List.set_cons_succ]
  iterate 6 go_step
  refine wpList_app rfl (.tmp 73) (.tmp 74) rfl w4.heap.size _ 0 (fun _ => 0) rfl (Own.new w4 _ (Nat.le_refl _) _) A1 m c1 fa rfl ((ha.below hb4).alloc _) (by omega) (by simp) fun v2 w5 ho2 hb2 => ?_
  rw [both_zero, Nat.zero_add] at ho2
  have hb5 := hb2 W.heap.size hz4 W (hb4.alloc hz4 _)
  have hb35 := hb2 w3.heap.size hz34 w3 (hb34.alloc hz34 _)
  have hb45 := hb2 w4.heap.size (Nat.le_refl _) w4 ((Below.refl _ _).alloc (Nat.le_refl _) _)
  clear hb2
  have hz5 := hb45.size
  have hPN5 := hPN.below hb45 hgn4
  clear hPN
  simp only [Act.put, List.setIfInBounds_toArray, List.set_cons_zero, List.set_cons_succ]
  iterate 6 go_step
  refine wpList_app rfl (.tmp 76) (.tmp 77) rfl w5.heap.size _ 0 (fun _ => 0) rfl (Own.new w5 _ (Nat.le_refl _) _) B1 (n + 16) d1 X rfl ((t1.below hb35).alloc _) (by omega) (by simp) fun v3 w6 ho3 hb2 => ?_
  rw [both_zero, Nat.zero_add] at ho3
  have hb6 := hb2 W.heap.size (hb5.size) W (hb5.alloc hb5.size _)
  have hb46 := hb2 w4.heap.size hz5 w4 (hb45.alloc hz5 _)
  have hb56 := hb2 w5.heap.size (Nat.le_refl _) w5 ((Below.refl _ _).alloc (Nat.le_refl _) _)
  clear hb2 hb35 hb34 hb4 hb5 t1
  obtain ⟨AD, cD, rfl, hBD, hcD, hAD⟩ := ho2.bts
  have hBD6 := hBD.below hb56
  have hAD5 : ∀ a, AD = some a → a.block < w5.heap.size := fun a ha => by
    rcases ho2.2 with ⟨hv, _⟩ | ⟨g, cap, cur, hv, _, hh, _⟩
    · injection hv with hv; rw [hv] at ha; cases ha
    · injection hv with hv; rw [hv] at ha; obtain rfl := Option.some.inj ha
      exact (Array.getElem?_eq_some_iff.1 hh).1
  have hPN6 := hPN5.below hb56 (by omega)
  obtain ⟨gs, cS, rfl, hgs, hPS, hsS, hcS⟩ := ho3.prow (by omega)
  clear ho3 hBD hPN5 hb45 hb46
  have hgn5 : gn < w5.heap.size := by omega
  have hADn : ∀ a, AD = some a → gn ≠ a.block := fun a ha => by
    obtain ⟨g, rfl, hg⟩ := hAD a ha
    show gn ≠ g
    omega
  have hADs : ∀ a, AD = some a → gs ≠ a.block := fun a ha => by have := hAD5 a ha; omega
  have hgns : gn ≠ gs := by omega
  have hWgn : W.heap.size ≤ gn := by omega
  have hWgs : W.heap.size ≤ gs := by omega
  have hWgd : ∀ a, AD = some a → W.heap.size ≤ a.block := fun a ha => by
    obtain ⟨g, rfl, hg⟩ := hAD a ha
    show W.heap.size ≤ g
    omega
  simp only [Act.put, List.setIfInBounds_toArray, List.set_cons_zero, List.set_cons_succ]
  have hz4 : z0 % 4 = 0 ∨ z0 % 4 = 1 ∨ z0 % 4 = 2 ∨ z0 % 4 = 3 := by omega
  have ho26 := ho2.below hb56
  clear ho2 hb56 ha hN
  rcases hz4 with hz | hz | hz | hz
  · have e4 : (z0 : Int) % 4 = 0 := by omega
    clear hz
    obtain ⟨i, hi⟩ : ∃ i, i = t0 % k := ⟨_, rfl⟩
    have hil : i < k := by rw [hi]; exact Nat.mod_lt _ (by omega)
    have hii : (t0 : Int) % (k : Int) = (i : Int) := by rw [hi]; simp
    have hcell := hPN6.cell i hil
    have hfr := hPN6.frozen i
    have hy := lt8 y
    have hx := lt8 (fn i)
    clear hi
    go_upto_region 17 with (fail)
    have hv : ((((fn i).toNat : Int) + (y.toNat : Int)) % 256) = (((fn i + y).toNat : Nat) : Int) := by
      rw [UInt8.toNat_add]; omega
    rw [hv]
    clear hv
    have hWt := hWgn
    have hN5 := (hPN6.set_ i (fn i + y)).bts hkN
    have hD5 := hBD6.setCell hADn i (.int .u8 ((fn i + y).toNat : Int))
    have hS5 := (hPS.far (p := ⟨gn, i, none⟩) hgns.symm (.int .u8 ((fn i + y).toNat : Int))).bts hsS
    have hbt := hb6.setCell (p := ⟨gn, i, none⟩) hWt (.int .u8 ((fn i + y).toNat : Int))
    clear hPN6 hBD6 hPS hb6 hcell hfr ho26 hADn hADs hAD hAD5 hWgd
    revert hN5 hD5 hS5 hbt
    generalize w6.setCell ⟨gn, i, none⟩ (.int .u8 ((fn i + y).toNat : Int)) = wt
    intro hN5 hD5 hS5 hbt
    obtain ⟨er2, q2, f2, _, p3, r3⟩ := open_out A (some ⟨gn, 0, none⟩) AD (some ⟨gs, 0, none⟩) kn kc k cN m cD (n + 16) cS key _ _ _ wt (hs.below hbt hs.lt) (hT.below hbt hg) (Nat.lt_of_lt_of_le hg hbt.size) (hk.below hbt) hN5 hD5 hS5 (by omega) (by omega)
    have P3 := Lib.hid p3
    have R3 := Lib.hid r3
    clear p3 r3 hs hT hk hN5 hD5 hS5
    go_wp2_with (fail)
    refine (P3.out wt (Below.refl _ _)).mono ?_
    rintro e w7 ⟨⟨B4, d4, rfl, t4, _⟩, hb1⟩
    have hb67 := hb1
    have hb := hbt.trans (hb1.mono hbt.size)
    clear hb1
    go_wp2_with (fail)
    refine (R3.out w7 hb67).mono ?_
    rintro e w8 ⟨⟨B5, d5, rfl, t5, _⟩, hb1⟩
    have hb := hb.trans (hb1.mono hb.size)
    have s4 := run_str (t4.below hb1)
    have s5 := run_str t5
    clear hb1 hb67 t4 t5 P3 R3
    go_wp2_with (fail)
    go_ret
    exact ⟨rfl, hb⟩
  · have e4 : (z0 : Int) % 4 = 1 := by omega
    clear hz
    by_cases hm0 : 0 < m
    · have g1 : (0 : Int) < (m : Int) := by omega
      obtain ⟨gd, cd', hv, hgd, hPD, _, _⟩ := ho26.prow hm0
      injection hv with hv1 hv2 hv3
      subst hv1
      subst hv3
      clear hv2
      have hgdn : gn ≠ gd := hADn _ rfl
      have hgds : gs ≠ gd := hADs _ rfl
      have hmD := hBD6.2.2
      obtain ⟨i, hi⟩ : ∃ i, i = t0 % m := ⟨_, rfl⟩
      have hil : i < m := by rw [hi]; exact Nat.mod_lt _ (by omega)
      have hii : (t0 : Int) % (m : Int) = (i : Int) := by rw [hi]; simp
      have hcell := hPD.cell i hil
      have hfr := hPD.frozen i
      have hy := lt8 y
      have hx := lt8 (fa i)
      clear hi
      go_upto_region 17 with (fail)
      have hv : ((((fa i).toNat : Int) + (y.toNat : Int)) % 256) = (((fa i + y).toNat : Nat) : Int) := by
        rw [UInt8.toNat_add]; omega
      rw [hv]
      clear hv
      have hWt := hWgd _ rfl
      have hN5 := (hPN6.far (p := ⟨gd, i, none⟩) hgdn (.int .u8 ((fa i + y).toNat : Int))).bts hkN
      have hD5 := (hPD.set_ i (fa i + y)).bts hmD
      have hS5 := (hPS.far (p := ⟨gd, i, none⟩) hgds (.int .u8 ((fa i + y).toNat : Int))).bts hsS
      have hbt := hb6.setCell (p := ⟨gd, i, none⟩) hWt (.int .u8 ((fa i + y).toNat : Int))
      clear hPN6 hBD6 hPS hb6 hcell hfr ho26 hADn hADs hAD hAD5 hWgd
      revert hN5 hD5 hS5 hbt
      generalize w6.setCell ⟨gd, i, none⟩ (.int .u8 ((fa i + y).toNat : Int)) = wt
      intro hN5 hD5 hS5 hbt
      obtain ⟨er2, q2, f2, _, p3, r3⟩ := open_out A (some ⟨gn, 0, none⟩) (some ⟨gd, 0, none⟩) (some ⟨gs, 0, none⟩) kn kc k cN m cD (n + 16) cS key _ _ _ wt (hs.below hbt hs.lt) (hT.below hbt hg) (Nat.lt_of_lt_of_le hg hbt.size) (hk.below hbt) hN5 hD5 hS5 (by omega) (by omega)
      have P3 := Lib.hid p3
      have R3 := Lib.hid r3
      clear p3 r3 hs hT hk hN5 hD5 hS5
      go_wp2_with (fail)
      refine (P3.out wt (Below.refl _ _)).mono ?_
      rintro e w7 ⟨⟨B4, d4, rfl, t4, _⟩, hb1⟩
      have hb67 := hb1
      have hb := hbt.trans (hb1.mono hbt.size)
      clear hb1
      go_wp2_with (fail)
      refine (R3.out w7 hb67).mono ?_
      rintro e w8 ⟨⟨B5, d5, rfl, t5, _⟩, hb1⟩
      have hb := hb.trans (hb1.mono hb.size)
      have s4 := run_str (t4.below hb1)
      have s5 := run_str t5
      clear hb1 hb67 t4 t5 P3 R3
      go_wp2_with (fail)
      go_ret
      exact ⟨rfl, hb⟩
    · have g1 : ¬ (0 : Int) < (m : Int) := by omega
      obtain ⟨i, hi⟩ : ∃ i, i = t0 % (n + 17) := ⟨_, rfl⟩
      have hil : i < n + 17 := by rw [hi]; exact Nat.mod_lt _ (by omega)
      have hii : (t0 : Int) % ((n : Int) + 16 + 1) = (i : Int) := by rw [hi]; simp [Int.add_assoc]
      have b1 : (i : Int) ≤ (cS : Int) := by omega
      clear hi
      have hN5 := hPN6.bts hkN
      have hD5 := hBD6
      have hS5 := (hPS.bts hsS).upto (k := i) (by omega) (by simp)
      have hbt := hb6
      clear hPN6 hBD6 hPS hb6 ho26 hADn hADs hAD hAD5 hWgd
      go_upto_region 17 with (fail)
      obtain ⟨er2, q2, f2, _, p3, r3⟩ := open_out A (some ⟨gn, 0, none⟩) AD (some ⟨gs, 0, none⟩) kn kc k cN m cD i cS key _ _ _ w6 (hs.below hbt hs.lt) (hT.below hbt hg) (Nat.lt_of_lt_of_le hg hbt.size) (hk.below hbt) hN5 hD5 hS5 (by omega) (by omega)
      have P3 := Lib.hid p3
      have R3 := Lib.hid r3
      clear p3 r3 hs hT hk hN5 hD5 hS5
      go_wp2_with (fail)
      refine (P3.out w6 (Below.refl _ _)).mono ?_
      rintro e w7 ⟨⟨B4, d4, rfl, t4, _⟩, hb1⟩
      have hb67 := hb1
      have hb := hbt.trans (hb1.mono hbt.size)
      clear hb1
      go_wp2_with (fail)
      refine (R3.out w7 hb67).mono ?_
      rintro e w8 ⟨⟨B5, d5, rfl, t5, _⟩, hb1⟩
      have hb := hb.trans (hb1.mono hb.size)
      have s4 := run_str (t4.below hb1)
      have s5 := run_str t5
      clear hb1 hb67 t4 t5 P3 R3
      go_wp2_with (fail)
      go_ret
      exact ⟨rfl, hb⟩
  · have e4 : (z0 : Int) % 4 = 2 := by omega
    clear hz
    obtain ⟨i, hi⟩ : ∃ i, i = t0 % (n + 16) := ⟨_, rfl⟩
    have hil : i < (n + 16) := by rw [hi]; exact Nat.mod_lt _ (by omega)
    have hii : (t0 : Int) % ((n : Int) + 16) = (i : Int) := by rw [hi]; simp
    have hcell := hPS.cell i hil
    have hfr := hPS.frozen i
    have hy := lt8 y
    have hx := lt8 (X i)
    clear hi
    go_upto_region 17 with (fail)
    have hv : ((((X i).toNat : Int) + (y.toNat : Int)) % 256) = (((X i + y).toNat : Nat) : Int) := by
      rw [UInt8.toNat_add]; omega
    rw [hv]
    clear hv
    have hWt := hWgs
    have hN5 := (hPN6.far (p := ⟨gs, i, none⟩) hgns (.int .u8 ((X i + y).toNat : Int))).bts hkN
    have hD5 := hBD6.setCell hADs i (.int .u8 ((X i + y).toNat : Int))
    have hS5 := (hPS.set_ i (X i + y)).bts hsS
    have hbt := hb6.setCell (p := ⟨gs, i, none⟩) hWt (.int .u8 ((X i + y).toNat : Int))
    clear hPN6 hBD6 hPS hb6 hcell hfr ho26 hADn hADs hAD hAD5 hWgd
    revert hN5 hD5 hS5 hbt
    generalize w6.setCell ⟨gs, i, none⟩ (.int .u8 ((X i + y).toNat : Int)) = wt
    intro hN5 hD5 hS5 hbt
    obtain ⟨er2, q2, f2, _, p3, r3⟩ := open_out A (some ⟨gn, 0, none⟩) AD (some ⟨gs, 0, none⟩) kn kc k cN m cD (n + 16) cS key _ _ _ wt (hs.below hbt hs.lt) (hT.below hbt hg) (Nat.lt_of_lt_of_le hg hbt.size) (hk.below hbt) hN5 hD5 hS5 (by omega) (by omega)
    have P3 := Lib.hid p3
    have R3 := Lib.hid r3
    clear p3 r3 hs hT hk hN5 hD5 hS5
    go_wp2_with (fail)
    refine (P3.out wt (Below.refl _ _)).mono ?_
    rintro e w7 ⟨⟨B4, d4, rfl, t4, _⟩, hb1⟩
    have hb67 := hb1
    have hb := hbt.trans (hb1.mono hbt.size)
    clear hb1
    go_wp2_with (fail)
    refine (R3.out w7 hb67).mono ?_
    rintro e w8 ⟨⟨B5, d5, rfl, t5, _⟩, hb1⟩
    have hb := hb.trans (hb1.mono hb.size)
    have s4 := run_str (t4.below hb1)
    have s5 := run_str t5
    clear hb1 hb67 t4 t5 P3 R3
    go_wp2_with (fail)
    go_ret
    exact ⟨rfl, hb⟩
  · have e4 : (z0 : Int) % 4 = 3 := by omega
    clear hz
    obtain ⟨i, hi⟩ : ∃ i, i = t0 % (n + 17) := ⟨_, rfl⟩
    have hil : i < n + 17 := by rw [hi]; exact Nat.mod_lt _ (by omega)
    have hii : (t0 : Int) % ((n : Int) + 16 + 1) = (i : Int) := by rw [hi]; simp [Int.add_assoc]
    have b1 : (i : Int) ≤ (cS : Int) := by omega
    clear hi
    have hN5 := hPN6.bts hkN
    have hD5 := hBD6
    have hS5 := (hPS.bts hsS).upto (k := i) (by omega) (by simp)
    have hbt := hb6
    clear hPN6 hBD6 hPS hb6 ho26 hADn hADs hAD hAD5 hWgd
    go_upto_region 17 with (fail)
    obtain ⟨er2, q2, f2, _, p3, r3⟩ := open_out A (some ⟨gn, 0, none⟩) AD (some ⟨gs, 0, none⟩) kn kc k cN m cD i cS key _ _ _ w6 (hs.below hbt hs.lt) (hT.below hbt hg) (Nat.lt_of_lt_of_le hg hbt.size) (hk.below hbt) hN5 hD5 hS5 (by omega) (by omega)
    have P3 := Lib.hid p3
    have R3 := Lib.hid r3
    clear p3 r3 hs hT hk hN5 hD5 hS5
    go_wp2_with (fail)
    refine (P3.out w6 (Below.refl _ _)).mono ?_
    rintro e w7 ⟨⟨B4, d4, rfl, t4, _⟩, hb1⟩
    have hb67 := hb1
    have hb := hbt.trans (hb1.mono hbt.size)
    clear hb1
    go_wp2_with (fail)
    refine (R3.out w7 hb67).mono ?_
    rintro e w8 ⟨⟨B5, d5, rfl, t5, _⟩, hb1⟩
    have hb := hb.trans (hb1.mono hb.size)
    have s4 := run_str (t4.below hb1)
    have s5 := run_str t5
    clear hb1 hb67 t4 t5 P3 R3
    go_wp2_with (fail)
    go_ret
    exact ⟨rfl, hb⟩
theorem back_all (A N A1 A2 : Option Addr) (kn kc k kc2 m c1 n c2 : Nat) (z t y : Int) (hz : 0 ≤ z) (ht : 0 ≤ t) (hy : 0 ≤ y) (hy2 : y < 256) (key fn fa fp : Nat → UInt8) (W : World) (hs : Row W 0 76 256 boxF) (hT : DeB W) (hg : 2 < W.heap.size)
    (hk : Bts W A kn kc key) (hN : Bts W N k kc2 fn) (ha : Bts W A1 m c1 fa) (hp : Bts W A2 n c2 fp) (hc1 : c1 ≤ 140737488351232) (hc2 : c2 ≤ 140737488351232) :
    Calls Tryd.prog 5 #[.slice A kn kc, .slice N k kc2, .slice A1 m c1, .slice A2 n c2, .int .u64 z, .int .u64 t, .int .u8 y] W fun e w' => e = .returned (.bool true) ∧ Below W.heap.size W w' := by
  obtain ⟨er, q, f, p1, ⟨rfl, rfl⟩ | ⟨rfl, hk0, hk16, rfl, p2⟩⟩ := back_out A N A1 A2 kn kc k kc2 m c1 n c2 key fn fa fp W hs hT hg hk hN ha hp hc1 hc2
  · exact back_bad A N A1 A2 kn kc k kc2 m c1 n c2 z t y f W hs hT hg p1
  · have h := back_walk A N A1 A2 kn kc k kc2 m c1 n c2 z.toNat t.toNat (UInt8.ofNat y.toNat) key fn fa fp f W hs hT hg hk hN ha hp hc1 hc2 hk0 hk16 p1 p2
    rw [Int.toNat_of_nonneg hz, Int.toNat_of_nonneg ht, show (((UInt8.ofNat y.toNat).toNat : Nat) : Int) = y by rw [UInt8.toNat_ofNat']; omega] at h
    exact h
end Go.Proofs.YtajifdnfibojfaaDoor

namespace Go.Proofs.YtajifdnfibojfaaDoor
open Go Go.RowKit Go.ChangeShapes Go.WideShapes Go.ChangeAt
set_option maxRecDepth 100000

theorem both_none (n : Nat) (f g : Nat → UInt8) : row (n + 0) (both n f g) = row n f := (row_congr fun j hj => by unfold both; rw [if_pos (by omega)])
theorem run_app4 {w : World} (ty : TypeId) (base : Nat) (v : Value) (n : Nat) (f : Nat → UInt8) (hown : Own w base v n f) (A : Option Addr) (m c : Nat) (g : Nat → UInt8) (hA : Bts w A m c g) (hb : n + m ≤ 140737488355328) (hbase : base ≤ w.heap.size) :
    ∃ v' w', (Builtin.append_ #[22, 22] ty #[v, .slice A m c]).run Tryd.prog w = .ok v' w' ∧ Own w' base v' (n + m) (both n f g) ∧ w.grownBy w' v.ownBlock ∧ (v'.ownBlock = v.ownBlock ∨ v'.ownBlock = some w.heap.size) := by
  obtain ⟨i0, hi, hz0, hz1, hz2⟩ := info_parts info8'
  cases A with
  | none =>
    obtain ⟨rfl, rfl⟩ := hA.2.1 rfl
    refine ⟨v, w, run_append_owned_none (P := Tryd.prog) (w := w) base 22 ty 5 i0 1 undB hi v n _ hown, ?_, ⟨rfl, rfl, rfl, Nat.le_refl _, fun _ _ _ => rfl⟩, .inl rfl⟩
    unfold Own
    rw [both_none]
    exact hown
  | some ad =>
    have hcell : ∀ j, j < m → w.cell? (ad.add j) = some (.int .u8 ((g j).toNat : Int)) := fun j hj => by
      obtain ⟨b, off, hA', hc⟩ := hA.1 (by omega)
      obtain rfl := Option.some.inj hA'
      rw [Addr.add_mid]
      exact hc j hj
    obtain ⟨v', w', hr, h1, h2⟩ := run_app2 ty base v n f hown ad m c g hcell hb hbase
    refine ⟨v', w', hr, h1, h2, ?_⟩
    have hnews : ∀ j u, (row m g).toList[j]? = some u → w.cell? (ad.add j) = some u := fun j u hu => by
      rw [Array.getElem?_toList] at hu
      have hj : j < m := by
        have := (Array.getElem?_eq_some_iff.1 hu).1
        simpa [row_size] using this
      rw [row_get m g j hj] at hu
      obtain rfl := Option.some.inj hu
      exact hcell j hj
    have hl : (row m g).toList.length = m * i0.size := by rw [Array.length_toList, row_size, hz1, Nat.mul_one]
    rcases hown.2 with ⟨rfl, rfl⟩ | ⟨gk, cap, cur, rfl, hbg, hg, hnc, hcm, hcs, htake⟩
    · rcases Nat.eq_zero_or_pos m with rfl | hm
      · rcases h1.2 with ⟨rfl, _⟩ | ⟨gk, cap, cur, rfl, hbg, hg, hnc, hcm, hcs, _⟩
        · exact .inl rfl
        · exfalso
          simp [Builtin.append_, run_underlying undB, sizeOf, typeInfo, hi, Builtin.lenOf, Builtin.firstCells, loadCells, loadCellsFrom] at hr
      · have hr2 := run_append_nil (P := Tryd.prog) w 22 ty 5 i0 (.int .u8 0) undB hi hz0 ad m c _ hl hnews hm (by omega) (by rw [hz2]; omega)
        rw [hr2] at hr
        injection hr with e1 e2
        right
        rw [← e1]; rfl
    · by_cases hroom : n + m ≤ cap
      · have hr2 := run_append_room (P := Tryd.prog) w 22 ty 5 i0 undB hi gk n cap cur hg ad m c _ hl hnews (fun u hu => Array.all_eq_true_iff_forall_mem.1 (row_one m g) u (by simpa using hu)) hroom (by rw [hz1, Array.length_toList, row_size, hcs]; omega)
        rw [hr2] at hr
        injection hr with e1 e2
        left
        rw [← e1]; rfl
      · have hr2 := run_append_grow (P := Tryd.prog) w 22 ty 5 i0 (.int .u8 0) undB hi hz0 ⟨gk, 0, none⟩ n cap (row n f).toList (by rw [Array.length_toList, row_size, hz1, Nat.mul_one]) (World.ownsRow.cells hown (g := gk) rfl) ad m c _ hl hnews (by omega) (by omega) (growslice_fits (by omega) (by rw [hz2]; omega))
        rw [hr2] at hr
        injection hr with e1 e2
        right
        rw [← e1]; rfl
end Go.Proofs.YtajifdnfibojfaaDoor

namespace Go.Proofs.YtajifdnfibojfaaDoor
open Go Go.RowKit
set_option maxRecDepth 100000

/-- One of four. -/
def of4 {α : Type} (a b c d : α) : Nat → α
  | 0 => a
  | 1 => b
  | 2 => c
  | _ => d


/-- A call that returns, and leaves what was there as it was. -/
def Quiet (w : World) (e : Ending) (w' : World) : Prop := (∃ v, e = .returned v) ∧ Below w.heap.size w w'
section
variable (A N A1 A2 : Option Addr) (kn kc k kc2 m c1 n c2 : Nat) (key fn fa fp : Nat → UInt8) (W : World)
theorem seal_any (hs : Row W 0 76 256 boxF) (hT : DeB W) (hg : 2 < W.heap.size) (hk : Bts W A kn kc key) (hN : Bts W N k kc2 fn) (ha : Bts W A1 m c1 fa) (hp : Bts W A2 n c2 fp) (hm : m ≤ 140737488355328) (hn : n ≤ 140737488351232) :
    Calls Tryd.prog 8 #[.slice A kn kc, .slice N k kc2, .slice A1 m c1, .slice A2 n c2] W (Quiet W) := by
  rcases begins A N kn kc k kc2 key fn W hs hk hN with ⟨h1, h15, E, D, hP, hC, hB⟩ | ⟨hbad, rbad⟩
  · refine (Seal_w A N A1 A2 kn kc k kc2 m c1 n c2 E D fn fa fp W hC hT hg (by omega) (by omega) hN ha hp hm hn).mono ?_
    rintro e w' ⟨g, rfl, _, _, hb'⟩
    exact ⟨⟨_, rfl⟩, hb'⟩
  · exact (Seal_bad A N A1 A2 kn kc k kc2 m c1 n c2 W (hbad W)).mono fun e w' h => ⟨⟨_, h.1⟩, h.2⟩
theorem open_any (hs : Row W 0 76 256 boxF) (hT : DeB W) (hg : 2 < W.heap.size) (hk : Bts W A kn kc key) (hN : Bts W N k kc2 fn) (ha : Bts W A1 m c1 fa) (hp : Bts W A2 n c2 fp) (hm : m ≤ 140737488355328) (hn : n ≤ 140737488355328) :
    Calls Tryd.prog 10 #[.slice A kn kc, .slice N k kc2, .slice A1 m c1, .slice A2 n c2] W (Quiet W) := by
  obtain ⟨er, q, f, _, p1, _⟩ := open_out A N A1 A2 kn kc k kc2 m c1 n c2 key fn fa fp W hs hT hg hk hN ha hp hm hn
  refine (p1 W (Below.refl _ _)).mono ?_
  rintro e w' ⟨⟨B1, d1, rfl, _⟩, hb⟩
  exact ⟨⟨_, rfl⟩, hb⟩
end
def t123 : Nat → UInt8 := fun j => UInt8.ofNat (j + 1)
theorem lit123 : (#[Value.int IntKind.u8 1, Value.int IntKind.u8 2, Value.int IntKind.u8 3] : Array Value) = row 3 t123 := by rfl
theorem str123 : (⟨#[1, 2, 3]⟩ : ByteArray) = bytesOf 3 t123 := by rfl
/-- What lies in place j when i are copied. -/
def slotV (n gs cs : Nat → Nat) (i j : Nat) : Value := if j < i then .slice (some ⟨gs j, 0, none⟩) (n j) (cs j) else .slice none 0 0
/-- While the copies are made: i of them are. -/
def KF (A : Nat → Option Addr) (n c : Nat → Nat) (f : Nat → Nat → UInt8) (gs cs : Nat → Nat) (gi i : Nat) (w : World) : Prop :=
  w.heap[gi]? = some (.cells #[.slice (A 0) (n 0) (c 0), .slice (A 1) (n 1) (c 1), .slice (A 2) (n 2) (c 2), .slice (A 3) (n 3) (c 3)] 22 (0, 0)) ∧
  w.heap[gi + 1]? = some (.cells #[slotV n gs cs i 0, slotV n gs cs i 1, slotV n gs cs i 2, slotV n gs cs i 3] 31 (0, 0)) ∧
    ∀ j, j < i → Bts w (some ⟨gs j, 0, none⟩) (n j + 3) (cs j) (both (n j) (f j) t123) ∧ gi + 1 < gs j
section
variable {A : Nat → Option Addr} {n c gs cs : Nat → Nat} {f : Nat → Nat → UInt8} {gi i : Nat} {w w' : World}
theorem KF.lt (h : KF A n c f gs cs gi i w) : gi + 1 < w.heap.size := (Array.getElem?_eq_some_iff.1 h.2.1).1
theorem KF.drew (h : KF A n c f gs cs gi i w) : KF A n c f gs cs gi i w.drew := h
theorem KF.below (h : KF A n c f gs cs gi i w) (hb : Below w.heap.size w w') : KF A n c f gs cs gi i w' := by
  have hl := h.lt
  obtain ⟨h1, h2, h3⟩ := h
  exact ⟨(hb.block gi (by omega)).trans h1, (hb.block (gi + 1) hl).trans h2, fun j hj => ⟨(h3 j hj).1.below hb, (h3 j hj).2⟩⟩
theorem KF.inCell (h : KF A n c f gs cs gi i w) (j : Nat) (hj : j < 4) : w.cell? ⟨gi, j, none⟩ = some (.slice (A j) (n j) (c j)) := by
  rw [cell_of_row w gi j _ _ (0, 0) h.1]
  obtain rfl | rfl | rfl | rfl : j = 0 ∨ j = 1 ∨ j = 2 ∨ j = 3 := by omega
  all_goals rfl
theorem KF.slot (h : KF A n c f gs cs gi i w) (j : Nat) (hj : j < 4) : w.cell? ⟨gi + 1, j, none⟩ = some (slotV n gs cs i j) := by
  rw [cell_of_row w (gi + 1) j _ _ (0, 0) h.2.1]
  obtain rfl | rfl | rfl | rfl : j = 0 ∨ j = 1 ∨ j = 2 ∨ j = 3 := by omega
  all_goals rfl
theorem KF.done (h : KF A n c f gs cs gi 4 w) (j : Nat) (hj : j < 4) : w.cell? ⟨gi + 1, j, none⟩ = some (.slice (some ⟨gs j, 0, none⟩) (n j) (cs j)) := by
  rw [h.slot j hj]
  unfold slotV
  rw [if_pos hj]
theorem KF.frozen (h : KF A n c f gs cs gi i w) (j : Nat) : w.frozen? ⟨gi + 1, j, none⟩ = false := by
  simp [World.frozen?, h.2.1]
theorem KF.put (h : KF A n c f gs cs gi i w) (hi : i < 4) (g k : Nat) (hg : gi + 1 < g) (hB : Bts w (some ⟨g, 0, none⟩) (n i + 3) k (both (n i) (f i) t123)) :
    KF A n c f (fun j => if j = i then g else gs j) (fun j => if j = i then k else cs j) gi (i + 1) (w.setCell ⟨gi + 1, i, none⟩ (.slice (some ⟨g, 0, none⟩) (n i) k)) := by
  obtain ⟨h1, h2, h3⟩ := h
  refine ⟨(Below.heap_setCell w ⟨gi + 1, i, none⟩ _ gi (by simp)).trans h1, ?_, fun j hj => ?_⟩
  · rw [heap_setCell_same w (gi + 1) i _ _ _ h2]
    congr 2
    obtain rfl | rfl | rfl | rfl : i = 0 ∨ i = 1 ∨ i = 2 ∨ i = 3 := by omega
    all_goals (unfold slotV; simp)
  · by_cases e : j = i
    · subst e
      simp only
      exact ⟨hB.setCell (fun a ha => by obtain rfl := Option.some.inj ha; show gi + 1 ≠ g; omega) _ _, hg⟩
    · simp only [if_neg e]
      have h4 := h3 j (by omega)
      exact ⟨h4.1.setCell (fun a ha => by obtain rfl := Option.some.inj ha; show gi + 1 ≠ gs j; omega) _ _, h4.2⟩
end
theorem run_build0 (w : World) : (Instr.buildSlice 22 0 #[]).run Tryd.prog w = .ok (.slice (some ⟨w.heap.size, 0, none⟩) 0 0) (w.alloc (.cells #[] 5)) := by
  obtain ⟨i0, hi, hz0, hz1, hz2⟩ := info_parts info8'
  simp [Instr.buildSlice, run_underlying undB, sizeOf, typeInfo, hi, Instr.fill, newRow]
  congr 2
  first | (simp [Array.range]; done) | kernel_rfl
theorem run_build123 (w : World) : (Instr.buildSlice 22 3 #[(0, .int .u8 1), (1, .int .u8 2), (2, .int .u8 3)]).run Tryd.prog w = .ok (.slice (some ⟨w.heap.size, 0, none⟩) 3 3) (w.alloc (.cells (row 3 t123) 5)) := by
  obtain ⟨i0, hi, hz0, hz1, hz2⟩ := info_parts info8'
  refine run_buildSlice w 22 5 3 _ (row 3 t123) i0 (.int .u8 0) undB hi hz0 (by rw [hz1]; omega) (by rw [hz1]; omega) ?_
  rw [hz1]
  kernel_rfl
/-- While one copy is made: what has been made so far (1: the empty slice; 6: the bytes; 7: the three; 8: both). -/
def KM (w0 : World) (n : Nat) (f : Nat → UInt8) (D : Nat → Bool) (π : Nat → Value) (w : World) : Prop :=
  Below w0.heap.size w0 w ∧ (D 8 = true → D 6 = true) ∧ (D 1 = true → D 6 = false → Own w w0.heap.size (π 1) 0 fun _ => 0) ∧ (D 6 = true → D 8 = false → Own w w0.heap.size (π 6) n f) ∧
  (D 7 = true → D 8 = false → ∃ g, π 7 = .slice (some ⟨g, 0, none⟩) 3 3 ∧ Row w g 5 3 t123 ∧ (D 1 = true → D 6 = false → (π 1).ownBlock ≠ some g) ∧ (D 6 = true → (π 6).ownBlock ≠ some g)) ∧
  (D 8 = true → Own w w0.heap.size (π 8) (n + 3) (both n f t123))
def cutV (n : Nat) : Value → Value
  | .slice A _ c => .slice A n c
  | v => v

theorem exec_build0 {o : Oper} {a : Act} {w : World} (ho : o.op = .buildSlice 22 0 #[]) : (execOp a.eval o).run Tryd.prog w = .ok (.value (.slice (some ⟨w.heap.size, 0, none⟩) 0 0)) (w.alloc (.cells #[] 5)) := by
  unfold execOp
  simp only [ho, Sem.run_bind, List.map_toArray, List.map_nil, run_build0 w, Result.andThen_ok, Sem.run_pure]
theorem exec_build123 {o : Oper} {a : Act} {w : World} (ho : o.op = .buildSlice 22 3 #[(0, .const (.int .u8 1)), (1, .const (.int .u8 2)), (2, .const (.int .u8 3))]) : (execOp a.eval o).run Tryd.prog w = .ok (.value (.slice (some ⟨w.heap.size, 0, none⟩) 3 3)) (w.alloc (.cells (row 3 t123) 5)) := by
  unfold execOp
  simp only [ho, Sem.run_bind, List.map_toArray, List.map_cons, List.map_nil, show ∀ v, a.eval (.const v) = v from fun _ => rfl, run_build123 w, Result.andThen_ok, Sem.run_pure]
theorem Own.some_ {w : World} {base n : Nat} {v : Value} {f : Nat → UInt8} (h : Own w base v n f) (hn : 0 < n) : ∃ g k, v = .slice (some ⟨g, 0, none⟩) n k ∧ base ≤ g ∧ n ≤ k ∧ Bts w (some ⟨g, 0, none⟩) n k f := by
  obtain ⟨g, k, hv, hg, hp, hk, _⟩ := h.prow hn
  exact ⟨g, k, hv, hg, hk, hp.bts hk⟩
theorem grown_below {w0 w w' : World} {base n : Nat} {v : Value} {f : Nat → UInt8} (hb : Below base w0 w) (hs : base ≤ w.heap.size) (ho : Own w base v n f) (hg : w.grownBy w' v.ownBlock) : Below base w0 w' := hb.grown hg hs fun k hk => (World.ownsRow.lt ho k hk).1
set_option maxHeartbeats 16000000 in
theorem keeps_walk (A : Nat → Option Addr) (n c : Nat → Nat) (f : Nat → Nat → UInt8) (W : World) (hs : Row W 0 76 256 boxF) (hT : DeB W) (hg : 2 < W.heap.size) (hin : ∀ j, Bts W (A j) (n j) (c j) (f j)) (hc : ∀ j, c j ≤ 140737488351232) :
    Calls Tryd.prog 6 #[.slice (A 0) (n 0) (c 0), .slice (A 1) (n 1) (c 1), .slice (A 2) (n 2) (c 2), .slice (A 3) (n 3) (c 3)] W fun e w' => e = .returned (.bool true) ∧ Below W.heap.size W w' := by
  go_enter Tryd.func6, Tryd.ntmps6
  go_wp2_with (fail)
  refine (oawake_c W hs hT hg).mono ?_
  rintro e w1 ⟨rfl, hb⟩
  go_upto_region 6 with (fail)
  obtain ⟨gi, hgi⟩ : ∃ gi, gi = w1.heap.size := ⟨_, rfl⟩
  have hK : ∃ gs cs, KF A n c f gs cs gi 0 ((w1.alloc (.cells #[.slice (A 0) (n 0) (c 0), .slice (A 1) (n 1) (c 1), .slice (A 2) (n 2) (c 2), .slice (A 3) (n 3) (c 3)] 22)).alloc (.cells #[.slice none 0 0, .slice none 0 0, .slice none 0 0, .slice none 0 0] 31)) := by
    refine ⟨fun _ => 0, fun _ => 0, ?_, ?_, fun j hj => by omega⟩
    · rw [hgi]
      exact (Below.heap_alloc _ _ _ (by simp)).trans (heap_alloc_new w1 _)
    · rw [hgi]
      have h := heap_alloc_new (w1.alloc (.cells #[.slice (A 0) (n 0) (c 0), .slice (A 1) (n 1) (c 1), .slice (A 2) (n 2) (c 2), .slice (A 3) (n 3) (c 3)] 22)) (.cells #[.slice none 0 0, .slice none 0 0, .slice none 0 0, .slice none 0 0] 31)
      simp only [World.size_alloc] at h
      exact h
  have hb2 := (hb.alloc hb.size (.cells #[.slice (A 0) (n 0) (c 0), .slice (A 1) (n 1) (c 1), .slice (A 2) (n 2) (c 2), .slice (A 3) (n 3) (c 3)] 22)).alloc (by have := hb.size; simp; omega) (.cells #[.slice none 0 0, .slice none 0 0, .slice none 0 0, .slice none 0 0] 31)
  have hWgi : W.heap.size ≤ gi := by rw [hgi]; exact hb.size
  rw [← hgi]
  clear hb
  revert hK hb2
  generalize (w1.alloc (.cells #[.slice (A 0) (n 0) (c 0), .slice (A 1) (n 1) (c 1), .slice (A 2) (n 2) (c 2), .slice (A 3) (n 3) (c 3)] 22)).alloc (.cells #[.slice none 0 0, .slice none 0 0, .slice none 0 0, .slice none 0 0] 31) = w2
  intro hK hb
  clear hgi
  go_wp2
  go_loopw [11, 20] (fun _ iv wr => ∃ i : Nat, i ≤ 4 ∧ iv = .int .i64 i ∧ (∃ gs cs, KF A n c f gs cs gi i wr) ∧ Below W.heap.size W wr) (fun _ iv _ => 4 - (intOf iv).toNat)
  case atStart => exact ⟨0, by omega, rfl, hK, hb⟩
  case round =>
    clear hK hb
    obtain ⟨i, hi4, rfl, ⟨gs, cs, hK⟩, hb⟩ := hrel
    by_cases hlt : i < 4
    · have i1 : (i : Int) < 4 := by omega
      have hnc := (hin i).2.2
      have hci := hc i
      have hst := hK.lt
      go_wp2
      refine region_any (KM wr (n i) (f i)) (fun j => j == 1 || j == 6 || j == 7 || j == 8) mixedOrders (by kernel_rfl) (by simp) ⟨(Below.refl _ _).drew, (fun h => by cases h), (fun h => by cases h), (fun h => by cases h), (fun h => by cases h), fun h => by cases h⟩ ?_
      refine SeqQ.next ?_ rfl (fun π dd hm => Sure.val rfl (fun w' hM => ?_)) ?_
      rotate_left 1
      · have e1 := (hK.below hM.1).inCell i hlt
        clear hM
        go_simp
        rfl
      simp only [Act.put, List.setIfInBounds_toArray, List.set_cons_zero, List.set_cons_succ]
      refine SeqQ.make rfl (fun π => MakesQ.value rfl fun D w' hm hd hM => ⟨_, _, exec_build0 rfl, ?_⟩) ?_
      · obtain ⟨m0, m1, m2, m3, m4, m5⟩ := hM
        have hal : Below w'.heap.size w' (w'.alloc (.cells #[] 5)) := (Below.refl _ _).alloc (Nat.le_refl _) _
        refine ⟨m0.trans (hal.mono m0.size), fun h => ?_, fun _ _ => ?_, fun h h8 => ?_, fun h h8 => ?_, fun h => ?_⟩
        · rw [upb_ne (by omega)] at h ⊢
          exact m1 h
        · rw [upd_same]
          exact Own.new w' _ m0.size _
        · rw [upb_ne (by omega)] at h h8
          rw [upd_ne _ _ (by omega)]
          exact (m3 h h8).below hal
        · rw [upb_ne (by omega)] at h h8
          obtain ⟨g, a1, a2, a3, a4⟩ := m4 h h8
          refine ⟨g, (upd_ne _ _ (by omega)).trans a1, a2.below hal a2.lt, fun _ _ => ?_, fun h6 => ?_⟩
          · rw [upd_same]
            have := a2.lt
            intro e
            have e : w'.heap.size = g := Option.some.inj e
            omega
          · rw [upb_ne (by omega)] at h6
            rw [upd_ne _ _ (by omega)]
            exact a4 h6
        · rw [upb_ne (by omega)] at h
          rw [upd_ne _ _ (by omega)]
          exact (m5 h).below hal
      simp only [Act.put, List.setIfInBounds_toArray, List.set_cons_zero, List.set_cons_succ]
      refine SeqQ.next ?_ rfl (fun π dd hm => Sure.val rfl (fun w' hM => ?_)) ?_
      rotate_left 1
      · have e1 := (hK.below hM.1).inCell i hlt
        clear hM
        go_simp
        rfl
      simp only [Act.put, List.setIfInBounds_toArray, List.set_cons_zero, List.set_cons_succ]
      refine SeqQ.next ?_ rfl (fun π dd hm => Sure.val rfl (fun w' hM => ?_)) ?_
      rotate_left 1
      · have e1 := (hK.below hM.1).inCell i hlt
        clear hM
        go_simp
        rfl
      simp only [Act.put, List.setIfInBounds_toArray, List.set_cons_zero, List.set_cons_succ]
      refine SeqQ.next ?_ rfl (fun π dd hm => Sure.val rfl (fun w' hM => ?_)) ?_
      rotate_left 1
      · have e1 := (hK.below hM.1).inCell i hlt
        clear hM
        go_simp
        rfl
      simp only [Act.put, List.setIfInBounds_toArray, List.set_cons_zero, List.set_cons_succ]
      refine SeqQ.next ?_ rfl (fun π dd hm => Sure.val rfl (fun w' hM => ?_)) ?_
      rotate_left 1
      · have e1 := (hK.below hM.1).inCell i hlt
        clear hM
        go_simp
        rfl
      simp only [Act.put, List.setIfInBounds_toArray, List.set_cons_zero, List.set_cons_succ]
      refine SeqQ.make rfl (fun π => MakesQ.value rfl fun D w' hm hd hM => ?_) ?_
      · have h1 := hm 1 rfl (by kernel_rfl)
        obtain ⟨m0, m1, m2, m3, m4, m5⟩ := hM
        have h8 : D 8 = false := by
          cases h : D 8 with
          | false => rfl
          | true => rw [m1 h] at hd; cases hd
        have hown := m2 h1 hd
        obtain ⟨v', w3, hrun, o1, o2, o3⟩ := run_app4 22 wr.heap.size (π 1) 0 (fun _ => 0) hown (A i) (n i) (c i) (f i) (((hin i).below hb).below m0) (by omega) m0.size
        rw [both_zero, Nat.zero_add] at o1
        refine ⟨v', w3, exec_app2 (.tmp 24) (.tmp 28) rfl _ _ _ rfl (by rfl) hrun, grown_below m0 m0.size hown o2, fun h => rfl, fun _ h6 => ?_, fun _ _ => ?_, fun h h8 => ?_, fun h => ?_⟩
        · simp [upb] at h6
        · rw [upd_same]
          exact o1
        · rw [upb_ne (by omega)] at h
          obtain ⟨g, a1, a2, a3, a4⟩ := m4 h h8
          have hne := a3 h1 hd
          have hlt := a2.lt
          refine ⟨g, (upd_ne _ _ (by omega)).trans a1, (o2.block g hlt (Ne.symm hne)).trans a2, fun _ h6 => ?_, fun _ => ?_⟩
          · simp [upb] at h6
          · rw [upd_same]
            rcases o3 with o3 | o3
            · rw [o3]; exact hne
            · rw [o3]; intro e; have e : w'.heap.size = g := Option.some.inj e; omega
        · rw [upb_ne (by omega), h8] at h
          cases h
      simp only [Act.put, List.setIfInBounds_toArray, List.set_cons_zero, List.set_cons_succ]
      refine SeqQ.make rfl (fun π => MakesQ.value rfl fun D w' hm hd hM => ⟨_, _, exec_build123 rfl, ?_⟩) ?_
      · obtain ⟨m0, m1, m2, m3, m4, m5⟩ := hM
        have hal : Below w'.heap.size w' (w'.alloc (.cells (row 3 t123) 5)) := (Below.refl _ _).alloc (Nat.le_refl _) _
        refine ⟨m0.trans (hal.mono m0.size), fun h => ?_, fun h h6 => ?_, fun h h8 => ?_, fun h h8 => ?_, fun h => ?_⟩
        · rw [upb_ne (by omega)] at h ⊢
          exact m1 h
        · rw [upb_ne (by omega)] at h h6
          rw [upd_ne _ _ (by omega)]
          exact (m2 h h6).below hal
        · rw [upb_ne (by omega)] at h h8
          rw [upd_ne _ _ (by omega)]
          exact (m3 h h8).below hal
        · rw [upb_ne (by omega)] at h8
          refine ⟨w'.heap.size, upd_same _ _ _, Row.new _ _ _ _, fun h1 h6 => ?_, fun h6 => ?_⟩
          · rw [upb_ne (by omega)] at h1 h6
            rw [upd_ne _ _ (by omega)]
            intro e
            have := (World.ownsRow.lt (m2 h1 h6) _ e).2
            omega
          · rw [upb_ne (by omega)] at h6
            rw [upd_ne _ _ (by omega)]
            intro e
            have := (World.ownsRow.lt (m3 h6 h8) _ e).2
            omega
        · rw [upb_ne (by omega)] at h
          rw [upd_ne _ _ (by omega)]
          exact (m5 h).below hal
      simp only [Act.put, List.setIfInBounds_toArray, List.set_cons_zero, List.set_cons_succ]
      refine SeqQ.make rfl (fun π => MakesQ.value rfl fun D w' hm hd hM => ?_) ?_
      · have h6 := hm 6 rfl (by kernel_rfl)
        have h7 := hm 7 rfl (by kernel_rfl)
        obtain ⟨m0, m1, m2, m3, m4, m5⟩ := hM
        have hown := m3 h6 hd
        obtain ⟨g, a1, a2, a3, a4⟩ := m4 h7 hd
        obtain ⟨v', w3, hrun, o1, o2, o3⟩ := run_app4 22 wr.heap.size (π 6) (n i) (f i) hown (some ⟨g, 0, none⟩) 3 3 t123 (Bts.of_cells (fun j hj => by rw [Nat.zero_add]; exact a2.cell j hj) (Nat.le_refl _)) (by omega) m0.size
        refine ⟨v', w3, exec_app2 (.tmp 29) (.tmp 30) rfl _ _ _ rfl (by exact a1) hrun, grown_below m0 m0.size hown o2, fun _ => ?_, fun _ h => ?_, fun _ h => ?_, fun _ h => ?_, fun _ => ?_⟩
        · rw [upb_ne (by omega)]; exact h6
        · rw [upb_ne (by omega), h6] at h; cases h
        · simp [upb] at h
        · simp [upb] at h
        · rw [upd_same]
          exact o1
      simp only [Act.put, List.setIfInBounds_toArray, List.set_cons_zero, List.set_cons_succ]
      refine SeqQ.next ?_ rfl (fun π dd hm => Sure.val rfl (fun w' hM => ?_)) ?_
      rotate_left 1
      · have e1 := (hK.below hM.1).inCell i hlt
        clear hM
        go_simp
        rfl
      simp only [Act.put, List.setIfInBounds_toArray, List.set_cons_zero, List.set_cons_succ]
      refine SeqQ.next ?_ rfl (fun π dd hm => Sure.val rfl (fun w' hM => ?_)) ?_
      rotate_left 1
      · have e1 := (hK.below hM.1).inCell i hlt
        clear hM
        go_simp
        rfl
      simp only [Act.put, List.setIfInBounds_toArray, List.set_cons_zero, List.set_cons_succ]
      refine SeqQ.next ?_ rfl (fun π dd hm => Sure.val rfl (fun w' hM => ?_)) ?_
      rotate_left 1
      · have e1 := (hK.below hM.1).inCell i hlt
        clear hM
        go_simp
        rfl
      simp only [Act.put, List.setIfInBounds_toArray, List.set_cons_zero, List.set_cons_succ]
      refine SeqQ.next ?_ rfl (fun π dd hm => Sure.val rfl (fun w' hM => ?_)) ?_
      rotate_left 1
      · have e1 := (hK.below hM.1).inCell i hlt
        clear hM
        go_simp
        rfl
      simp only [Act.put, List.setIfInBounds_toArray, List.set_cons_zero, List.set_cons_succ]
      refine SeqQ.next ?_ rfl (fun π dd hm => Sure.val rfl (fun w' hM => ?_)) ?_
      rotate_left 1
      · have e1 := (hK.below hM.1).inCell i hlt
        clear hM
        go_simp
        rfl
      simp only [Act.put, List.setIfInBounds_toArray, List.set_cons_zero, List.set_cons_succ]
      refine SeqQ.hang (fun π => cutV (n i) (π 8)) rfl (fun π π' h => congrArg (cutV (n i)) (h 8 rfl (by kernel_rfl))) (fun π D hm => Sure.val rfl (fun w' hM => ?_)) ?_
      · obtain ⟨g, k, hv, hg, hk, _⟩ := (hM.2.2.2.2.2 (hm 8 rfl (by kernel_rfl))).some_ (by omega)
        clear hM
        have b1 : (n i : Int) ≤ (k : Int) := by omega
        rw [hv]
        go_simp
        rfl
      simp only [Act.put, List.setIfInBounds_toArray, List.set_cons_zero, List.set_cons_succ]
      refine SeqQ.next ?_ rfl (fun π dd hm => Sure.val rfl (fun w' hM => ?_)) ?_
      rotate_left 1
      · have e1 := (hK.below hM.1).inCell i hlt
        clear hM
        go_simp
        rfl
      simp only [Act.put, List.setIfInBounds_toArray, List.set_cons_zero, List.set_cons_succ]
      refine SeqQ.last (fun π => rfl) fun D π w' hD hM => ?_
      obtain ⟨g, k, hv, hg, hk, hBn⟩ := (hM.2.2.2.2.2 (hD 8 rfl (by omega))).some_ (by omega)
      have hK2 := hK.below hM.1
      have hb2 := hb.trans (hM.1.mono hb.size)
      have c1 := hK2.slot i hlt
      have c3 := hK2.frozen i
      rw [hv, show cutV (n i) (.slice (some ⟨g, 0, none⟩) (n i + 3) k) = .slice (some ⟨g, 0, none⟩) (n i) k from rfl]
      clear hM hD
      go_simp
      clear c1 c3
      have hK3 := hK2.put hlt g k (by omega) hBn
      have hb3 := hb2.setCell (p := ⟨gi + 1, i, none⟩) (by show W.heap.size ≤ gi + 1; omega) (.slice (some ⟨g, 0, none⟩) (n i) k)
      clear hK hK2 hb hb2 hBn
      go_wp2
      go_roundw
      case rel => exact ⟨i + 1, by omega, by go_num, ⟨_, _, hK3⟩, hb3⟩
      case measure => simp [intOf]; omega
    · obtain rfl : i = 4 := by omega
      have i1 : ¬ ((4 : Nat) : Int) < 4 := by omega
      have q0 := hK.done 0 (by omega)
      have q1 := hK.done 1 (by omega)
      have q2 := hK.done 2 (by omega)
      have q3 := hK.done 3 (by omega)
      have hcp : ∀ j, j < 4 → ∀ w', Below wr.heap.size wr w' → Bts w' (some ⟨gs j, 0, none⟩) (n j) (cs j) (f j) := fun j hj w' hb' => by
        have h := ((hK.2.2 j hj).1.below hb')
        refine ⟨fun h0 => ?_, (fun h => by cases h), by have := h.2.2; omega⟩
        obtain ⟨b, o, e, hcl⟩ := h.1 (by omega)
        refine ⟨b, o, e, fun x hx => ?_⟩
        rw [hcl x (by omega)]
        unfold both
        rw [if_pos hx]
      have hn1 : n 1 ≤ 140737488351232 := Nat.le_trans (hin 1).2.2 (hc 1)
      have hn2 : n 2 ≤ 140737488351232 := Nat.le_trans (hin 2).2.2 (hc 2)
      have hn3 : n 3 ≤ 140737488351232 := Nat.le_trans (hin 3).2.2 (hc 3)
      go_wp2_with (fail)
      refine (seal_any _ _ _ _ (n 0) (cs 0) (n 1) (cs 1) (n 2) (cs 2) (n 3) (cs 3) (f 0) (f 1) (f 2) (f 3) wr (hs.below hb hs.lt) (hT.below hb hg) (Nat.lt_of_lt_of_le hg hb.size) (hcp 0 (by omega) _ (Below.refl _ _)) (hcp 1 (by omega) _ (Below.refl _ _)) (hcp 2 (by omega) _ (Below.refl _ _)) (hcp 3 (by omega) _ (Below.refl _ _)) (by omega) hn3).mono ?_
      rintro e w3 ⟨⟨v3, rfl⟩, hb3⟩
      have hK3 := hK.below hb3
      have hbb := hb.trans (hb3.mono hb.size)
      have q0 := hK3.done 0 (by omega)
      have q1 := hK3.done 1 (by omega)
      have q2 := hK3.done 2 (by omega)
      have q3 := hK3.done 3 (by omega)
      go_wp2_with (fail)
      refine (open_any _ _ _ _ (n 0) (cs 0) (n 1) (cs 1) (n 2) (cs 2) (n 3) (cs 3) (f 0) (f 1) (f 2) (f 3) w3 (hs.below hbb hs.lt) (hT.below hbb hg) (Nat.lt_of_lt_of_le hg hbb.size) (hcp 0 (by omega) _ hb3) (hcp 1 (by omega) _ hb3) (hcp 2 (by omega) _ hb3) (hcp 3 (by omega) _ hb3) (by omega) (by omega)).mono ?_
      rintro e w4 ⟨⟨v4, rfl⟩, hb4⟩
      have hK4 := hK3.below hb4
      have hb4 := hbb.trans (hb4.mono hbb.size)
      clear q0 q1 q2 q3 hK hK3 hb hbb hb3 hcp hs hT hg i1 hi4 hn1 hn2 hn3
      go_wp2_with (fail)
      go_loopw [12, 58] (fun _ iv wx => ∃ q : Nat, q ≤ 4 ∧ iv = .int .i64 q ∧ KF A n c f gs cs gi 4 wx ∧ Below W.heap.size W wx) (fun _ iv _ => 4 - (intOf iv).toNat)
      case atStart => exact ⟨0, by omega, rfl, hK4, hb4⟩
      case round =>
        clear hK4 hb4
        obtain ⟨q, hq4, rfl, hK, hb⟩ := hrel
        by_cases hlt : q < 4
        · have i1 : (q : Int) < 4 := by omega
          have hnc := (hin q).2.2
          have hci := hc q
          have hcs : n q + 3 ≤ cs q := (hK.2.2 q hlt).1.2.2
          have a1 : ∀ w : World, (Op.stringOp .add (bytesOf (n q) (f q)) ⟨#[1, 2, 3]⟩).run Tryd.prog w = .ok (.string (bytesOf (n q + 3) (both (n q) (f q) t123))) w := fun w => by
            rw [str123, run_string_add_sum w _ _ (by rw [bytesOf_size, bytesOf_size]; omega), bytesOf_append]
          obtain ⟨m3, hm3⟩ : ∃ m3, m3 = n q + 3 := ⟨_, rfl⟩
          rw [← hm3] at a1
          have HM3 := Lib.hid hm3
          clear hm3
          go_wp2
          refine region_seq (fun w' => KF A n c f gs cs gi 4 w' ∧ Below W.heap.size W w') mixedOrders (by kernel_rfl) (by simp) ⟨hK.drew, hb.drew⟩ ?_
          clear hK hb
          refine Seq.next ?_ (Sure.val rfl (fun w' hM => ?_)) ?_
          rotate_left 1
          · have e1 := hM.1.inCell q hlt
            have e2 := hM.1.done q hlt
            have s1 := run_str (hM.1.2.2 q hlt).1
            rw [← HM3.out] at s1
            have s2 := run_str ((hin q).below hM.2)
            have b1 : (m3 : Int) ≤ (cs q : Int) := by have := HM3.out; omega
            have hw3 : IntKind.i64.wrap ((n q : Int) + 3) = (m3 : Int) := by rw [IntWalk.i64_in _ (by omega)]; have := HM3.out; omega
            clear hM
            go_simp
            rfl
          simp only [Act.put, List.setIfInBounds_toArray, List.set_cons_zero, List.set_cons_succ]
          refine Seq.next ?_ (Sure.val rfl (fun w' hM => ?_)) ?_
          rotate_left 1
          · have e1 := hM.1.inCell q hlt
            have e2 := hM.1.done q hlt
            have s1 := run_str (hM.1.2.2 q hlt).1
            rw [← HM3.out] at s1
            have s2 := run_str ((hin q).below hM.2)
            have b1 : (m3 : Int) ≤ (cs q : Int) := by have := HM3.out; omega
            have hw3 : IntKind.i64.wrap ((n q : Int) + 3) = (m3 : Int) := by rw [IntWalk.i64_in _ (by omega)]; have := HM3.out; omega
            clear hM
            go_simp
            rfl
          simp only [Act.put, List.setIfInBounds_toArray, List.set_cons_zero, List.set_cons_succ]
          refine Seq.next ?_ (Sure.val rfl (fun w' hM => ?_)) ?_
          rotate_left 1
          · have e1 := hM.1.inCell q hlt
            have e2 := hM.1.done q hlt
            have s1 := run_str (hM.1.2.2 q hlt).1
            rw [← HM3.out] at s1
            have s2 := run_str ((hin q).below hM.2)
            have b1 : (m3 : Int) ≤ (cs q : Int) := by have := HM3.out; omega
            have hw3 : IntKind.i64.wrap ((n q : Int) + 3) = (m3 : Int) := by rw [IntWalk.i64_in _ (by omega)]; have := HM3.out; omega
            clear hM
            go_simp
            rfl
          simp only [Act.put, List.setIfInBounds_toArray, List.set_cons_zero, List.set_cons_succ]
          refine Seq.next ?_ (Sure.val rfl (fun w' hM => ?_)) ?_
          rotate_left 1
          · have e1 := hM.1.inCell q hlt
            have e2 := hM.1.done q hlt
            have s1 := run_str (hM.1.2.2 q hlt).1
            rw [← HM3.out] at s1
            have s2 := run_str ((hin q).below hM.2)
            have b1 : (m3 : Int) ≤ (cs q : Int) := by have := HM3.out; omega
            have hw3 : IntKind.i64.wrap ((n q : Int) + 3) = (m3 : Int) := by rw [IntWalk.i64_in _ (by omega)]; have := HM3.out; omega
            clear hM
            go_simp
            rfl
          simp only [Act.put, List.setIfInBounds_toArray, List.set_cons_zero, List.set_cons_succ]
          refine Seq.next ?_ (Sure.val rfl (fun w' hM => ?_)) ?_
          rotate_left 1
          · have e1 := hM.1.inCell q hlt
            have e2 := hM.1.done q hlt
            have s1 := run_str (hM.1.2.2 q hlt).1
            rw [← HM3.out] at s1
            have s2 := run_str ((hin q).below hM.2)
            have b1 : (m3 : Int) ≤ (cs q : Int) := by have := HM3.out; omega
            have hw3 : IntKind.i64.wrap ((n q : Int) + 3) = (m3 : Int) := by rw [IntWalk.i64_in _ (by omega)]; have := HM3.out; omega
            clear hM
            go_simp
            rfl
          simp only [Act.put, List.setIfInBounds_toArray, List.set_cons_zero, List.set_cons_succ]
          refine Seq.next ?_ (Sure.val rfl (fun w' hM => ?_)) ?_
          rotate_left 1
          · have e1 := hM.1.inCell q hlt
            have e2 := hM.1.done q hlt
            have s1 := run_str (hM.1.2.2 q hlt).1
            rw [← HM3.out] at s1
            have s2 := run_str ((hin q).below hM.2)
            have b1 : (m3 : Int) ≤ (cs q : Int) := by have := HM3.out; omega
            have hw3 : IntKind.i64.wrap ((n q : Int) + 3) = (m3 : Int) := by rw [IntWalk.i64_in _ (by omega)]; have := HM3.out; omega
            clear hM
            go_simp
            rfl
          simp only [Act.put, List.setIfInBounds_toArray, List.set_cons_zero, List.set_cons_succ]
          refine Seq.next ?_ (Sure.val rfl (fun w' hM => ?_)) ?_
          rotate_left 1
          · have e1 := hM.1.inCell q hlt
            have e2 := hM.1.done q hlt
            have s1 := run_str (hM.1.2.2 q hlt).1
            rw [← HM3.out] at s1
            have s2 := run_str ((hin q).below hM.2)
            have b1 : (m3 : Int) ≤ (cs q : Int) := by have := HM3.out; omega
            have hw3 : IntKind.i64.wrap ((n q : Int) + 3) = (m3 : Int) := by rw [IntWalk.i64_in _ (by omega)]; have := HM3.out; omega
            clear hM
            go_simp
            rfl
          simp only [Act.put, List.setIfInBounds_toArray, List.set_cons_zero, List.set_cons_succ]
          refine Seq.next ?_ (Sure.val rfl (fun w' hM => ?_)) ?_
          rotate_left 1
          · have e1 := hM.1.inCell q hlt
            have e2 := hM.1.done q hlt
            have s1 := run_str (hM.1.2.2 q hlt).1
            rw [← HM3.out] at s1
            have s2 := run_str ((hin q).below hM.2)
            have b1 : (m3 : Int) ≤ (cs q : Int) := by have := HM3.out; omega
            have hw3 : IntKind.i64.wrap ((n q : Int) + 3) = (m3 : Int) := by rw [IntWalk.i64_in _ (by omega)]; have := HM3.out; omega
            clear hM
            go_simp
            rfl
          simp only [Act.put, List.setIfInBounds_toArray, List.set_cons_zero, List.set_cons_succ]
          refine Seq.next ?_ (Sure.val rfl (fun w' hM => ?_)) ?_
          rotate_left 1
          · have e1 := hM.1.inCell q hlt
            have e2 := hM.1.done q hlt
            have s1 := run_str (hM.1.2.2 q hlt).1
            rw [← HM3.out] at s1
            have s2 := run_str ((hin q).below hM.2)
            have b1 : (m3 : Int) ≤ (cs q : Int) := by have := HM3.out; omega
            have hw3 : IntKind.i64.wrap ((n q : Int) + 3) = (m3 : Int) := by rw [IntWalk.i64_in _ (by omega)]; have := HM3.out; omega
            clear hM
            go_simp
            rfl
          simp only [Act.put, List.setIfInBounds_toArray, List.set_cons_zero, List.set_cons_succ]
          refine Seq.next ?_ (Sure.val rfl (fun w' hM => ?_)) ?_
          rotate_left 1
          · have e1 := hM.1.inCell q hlt
            have e2 := hM.1.done q hlt
            have s1 := run_str (hM.1.2.2 q hlt).1
            rw [← HM3.out] at s1
            have s2 := run_str ((hin q).below hM.2)
            have b1 : (m3 : Int) ≤ (cs q : Int) := by have := HM3.out; omega
            have hw3 : IntKind.i64.wrap ((n q : Int) + 3) = (m3 : Int) := by rw [IntWalk.i64_in _ (by omega)]; have := HM3.out; omega
            clear hM
            go_simp
            rfl
          simp only [Act.put, List.setIfInBounds_toArray, List.set_cons_zero, List.set_cons_succ]
          refine Seq.next ?_ (Sure.val rfl (fun w' hM => ?_)) ?_
          rotate_left 1
          · have e1 := hM.1.inCell q hlt
            have e2 := hM.1.done q hlt
            have s1 := run_str (hM.1.2.2 q hlt).1
            rw [← HM3.out] at s1
            have s2 := run_str ((hin q).below hM.2)
            have b1 : (m3 : Int) ≤ (cs q : Int) := by have := HM3.out; omega
            have hw3 : IntKind.i64.wrap ((n q : Int) + 3) = (m3 : Int) := by rw [IntWalk.i64_in _ (by omega)]; have := HM3.out; omega
            clear hM
            go_simp
            rfl
          simp only [Act.put, List.setIfInBounds_toArray, List.set_cons_zero, List.set_cons_succ]
          refine Seq.next ?_ (Sure.val rfl (fun w' hM => ?_)) ?_
          rotate_left 1
          · have e1 := hM.1.inCell q hlt
            have e2 := hM.1.done q hlt
            have s1 := run_str (hM.1.2.2 q hlt).1
            rw [← HM3.out] at s1
            have s2 := run_str ((hin q).below hM.2)
            have b1 : (m3 : Int) ≤ (cs q : Int) := by have := HM3.out; omega
            have hw3 : IntKind.i64.wrap ((n q : Int) + 3) = (m3 : Int) := by rw [IntWalk.i64_in _ (by omega)]; have := HM3.out; omega
            clear hM
            go_simp
            rfl
          simp only [Act.put, List.setIfInBounds_toArray, List.set_cons_zero, List.set_cons_succ]
          refine Seq.next ?_ (Sure.val rfl (fun w' hM => ?_)) ?_
          rotate_left 1
          · have e1 := hM.1.inCell q hlt
            have e2 := hM.1.done q hlt
            have s1 := run_str (hM.1.2.2 q hlt).1
            rw [← HM3.out] at s1
            have s2 := run_str ((hin q).below hM.2)
            have b1 : (m3 : Int) ≤ (cs q : Int) := by have := HM3.out; omega
            have hw3 : IntKind.i64.wrap ((n q : Int) + 3) = (m3 : Int) := by rw [IntWalk.i64_in _ (by omega)]; have := HM3.out; omega
            clear hM
            go_simp
            rfl
          simp only [Act.put, List.setIfInBounds_toArray, List.set_cons_zero, List.set_cons_succ]
          refine Seq.next ?_ (Sure.val rfl (fun w' hM => ?_)) ?_
          rotate_left 1
          · have e1 := hM.1.inCell q hlt
            have e2 := hM.1.done q hlt
            have s1 := run_str (hM.1.2.2 q hlt).1
            rw [← HM3.out] at s1
            have s2 := run_str ((hin q).below hM.2)
            have b1 : (m3 : Int) ≤ (cs q : Int) := by have := HM3.out; omega
            have hw3 : IntKind.i64.wrap ((n q : Int) + 3) = (m3 : Int) := by rw [IntWalk.i64_in _ (by omega)]; have := HM3.out; omega
            clear hM
            go_simp
            rfl
          simp only [Act.put, List.setIfInBounds_toArray, List.set_cons_zero, List.set_cons_succ]
          refine Seq.next ?_ (Sure.val rfl (fun w' hM => ?_)) ?_
          rotate_left 1
          · have e1 := hM.1.inCell q hlt
            have e2 := hM.1.done q hlt
            have s1 := run_str (hM.1.2.2 q hlt).1
            rw [← HM3.out] at s1
            have s2 := run_str ((hin q).below hM.2)
            have b1 : (m3 : Int) ≤ (cs q : Int) := by have := HM3.out; omega
            have hw3 : IntKind.i64.wrap ((n q : Int) + 3) = (m3 : Int) := by rw [IntWalk.i64_in _ (by omega)]; have := HM3.out; omega
            clear hM
            go_simp
            rfl
          simp only [Act.put, List.setIfInBounds_toArray, List.set_cons_zero, List.set_cons_succ]
          refine Seq.next ?_ (Sure.val rfl (fun w' hM => ?_)) ?_
          rotate_left 1
          · have e1 := hM.1.inCell q hlt
            have e2 := hM.1.done q hlt
            have s1 := run_str (hM.1.2.2 q hlt).1
            rw [← HM3.out] at s1
            have s2 := run_str ((hin q).below hM.2)
            have b1 : (m3 : Int) ≤ (cs q : Int) := by have := HM3.out; omega
            have hw3 : IntKind.i64.wrap ((n q : Int) + 3) = (m3 : Int) := by rw [IntWalk.i64_in _ (by omega)]; have := HM3.out; omega
            clear hM
            go_simp
            rfl
          simp only [Act.put, List.setIfInBounds_toArray, List.set_cons_zero, List.set_cons_succ]
          refine Seq.next ?_ (Sure.val rfl (fun w' hM => ?_)) ?_
          rotate_left 1
          · have e1 := hM.1.inCell q hlt
            have e2 := hM.1.done q hlt
            have s1 := run_str (hM.1.2.2 q hlt).1
            rw [← HM3.out] at s1
            have s2 := run_str ((hin q).below hM.2)
            have b1 : (m3 : Int) ≤ (cs q : Int) := by have := HM3.out; omega
            have hw3 : IntKind.i64.wrap ((n q : Int) + 3) = (m3 : Int) := by rw [IntWalk.i64_in _ (by omega)]; have := HM3.out; omega
            clear hM
            go_simp
            rfl
          simp only [Act.put, List.setIfInBounds_toArray, List.set_cons_zero, List.set_cons_succ]
          refine Seq.last rfl fun w' hM => ?_
          obtain ⟨hK, hb⟩ := hM
          go_simp
          go_wp2
          go_roundw
          case rel => exact ⟨q + 1, by omega, by go_num, hK, hb⟩
          case measure => simp [intOf]; omega
        · have i1 : ¬ (q : Int) < 4 := by omega
          go_wp2
          go_ret
          exact ⟨rfl, hb⟩
theorem keeps_all (A0 A1 A2 A3 : Option Addr) (n0 c0 n1 c1 n2 c2 n3 c3 : Nat) (f0 f1 f2 f3 : Nat → UInt8) (W : World) (hs : Row W 0 76 256 boxF) (hT : DeB W) (hg : 2 < W.heap.size) (h0 : Bts W A0 n0 c0 f0) (h1 : Bts W A1 n1 c1 f1) (h2 : Bts W A2 n2 c2 f2) (h3 : Bts W A3 n3 c3 f3)
    (r0 : c0 ≤ 140737488351232) (r1 : c1 ≤ 140737488351232) (r2 : c2 ≤ 140737488351232) (r3 : c3 ≤ 140737488351232) :
    Calls Tryd.prog 6 #[.slice A0 n0 c0, .slice A1 n1 c1, .slice A2 n2 c2, .slice A3 n3 c3] W fun e w' => e = .returned (.bool true) ∧ Below W.heap.size W w' :=
  keeps_walk (of4 A0 A1 A2 A3) (of4 n0 n1 n2 n3) (of4 c0 c1 c2 c3) (of4 f0 f1 f2 f3) W hs hT hg (fun j => match j with | 0 => h0 | 1 => h1 | 2 => h2 | _ + 3 => h3) (fun j => match j with | 0 => r0 | 1 => r1 | 2 => r2 | _ + 3 => r3)
end Go.Proofs.YtajifdnfibojfaaDoor
