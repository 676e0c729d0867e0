/- The document's HASH of associated bytes. The document's through: what its loops lean on: the object, three blocks of the call's own, the bytes that come out. Keys wrapped: the mathematics. No program. A block whose first n cells are the bytes f, whatever stands behind them (what append leaves): read, written by copy. The first offset, a bit at a time. No program. -/
import Derived.Test.YtajifdnfibojfaaDoorOKeepsMQD
import Derived.Test.YtajifdnfibojfaaDoorOKeepsMQB
import Derived.Test.YtajifdnfibojfaaDoorOKeepsMQC
import Derived.Test.YtajifdnfibojfaaDoorMath
import Derived.Test.YtajifdnfibojfaaDoorBytes
import Derived.Test.YtajifdnfibojfaaDoorGuard
import Derived.Test.YtajifdnfibojfaaDoorOKeepsMQA
namespace Go.Proofs.YtajifdnfibojfaaDoor
open Go Go.RowKit
set_option maxRecDepth 100000

theorem Fr.trans {g gl gl1 : Nat} {w w1 w2 : World} (h : Fr g gl w w1) (hg : gl1 = gl ∨ w.heap.size ≤ gl1) (h2 : Fr g gl1 w1 w2) (hl : gl < w.heap.size) : Fr g gl w w2 := by
  refine ⟨h.1.trans (h2.1.mono (by omega)), fun x hx a b => ?_⟩
  have hs := h.1.size
  exact (h2.2 x (by omega) a (by omega)).trans (h.2 x hx a b)
theorem Fr.setRow {g gl x : Nat} {w w1 : World} (h : Fr g gl w w1) (hx : w.heap.size ≤ x) (hl : gl < w.heap.size) (cs : Array Value) : Fr g gl w (w1.setRow x cs) :=
  ⟨below_setRow8 h.1 (by omega) _, fun y hy a b => (setRow_other _ _ _ _ (by omega)).trans (h.2 y hy a b)⟩

/-- The object, and three blocks of the call's own. -/
def RHS (g gc gl : Nat) (st dl : Nat → UInt8) (w : World) (sm of : Nat → UInt8) (W : World) : Prop :=
  (∃ gl' k' cap', Ob g gc gl' k' cap' st dl W ∧ (gl' = gl ∨ w.heap.size + 3 ≤ gl')) ∧ (Fr g gl w W ∧ g < w.heap.size ∧ gl < w.heap.size) ∧ Row W w.heap.size 44 16 (fun _ => 0) ∧ Row W (w.heap.size + 1) 44 16 sm ∧ Row W (w.heap.size + 2) 44 16 of
section
variable {g gc gl B0 : Nat} {st dl sm of : Nat → UInt8} {w W W' : World}
theorem RHS.base (h : RHS g gc gl st dl w sm of W) (h1 : B0 ≤ g) (h2 : B0 ≤ gl) : Below B0 w W := h.2.1.1.1.mono (by omega)
theorem RHS.drew (h : RHS g gc gl st dl w sm of W) : RHS g gc gl st dl w sm of W.drew := by
  obtain ⟨⟨gl', k', cap', ho, hor⟩, ⟨hf, h5⟩, h2, h3, h4⟩ := h
  exact ⟨⟨gl', k', cap', ho.drew, hor⟩, ⟨⟨hf.1.drew, hf.2⟩, h5⟩, h2.drew, h3.drew, h4.drew⟩
theorem RHS.below (h : RHS g gc gl st dl w sm of W) (hb : Below W.heap.size W W') : RHS g gc gl st dl w sm of W' := by
  obtain ⟨⟨gl', k', cap', ho, hor⟩, ⟨hf, h5⟩, h2, h3, h4⟩ := h
  exact ⟨⟨gl', k', cap', ho.below hb, hor⟩, ⟨hf.below hb (.inl ho.1.lt), h5⟩, h2.below hb h2.lt, h3.below hb h3.lt, h4.below hb h4.lt⟩
theorem RHS.at_ (h : RHS g gc gl st dl w sm of W) {gl1 : Nat} (hor1 : gl1 = gl ∨ w.heap.size + 3 ≤ gl1) (ha : AtP g gc gl1 st dl W W') : RHS g gc gl st dl w sm of W' := by
  obtain ⟨_, ⟨hf, h5⟩, h2, h3, h4⟩ := h
  obtain ⟨gl2, k2, cap2, ho2, hor2, hf2⟩ := ha
  have hl := h4.lt
  exact ⟨⟨gl2, k2, cap2, ho2, by omega⟩, ⟨hf.trans (by omega) hf2 h5.2, h5⟩, (hf2.2 _ h2.lt (by omega) (by omega)).trans h2, (hf2.2 _ h3.lt (by omega) (by omega)).trans h3, (hf2.2 _ h4.lt (by omega) (by omega)).trans h4⟩
theorem RHS.putSm (h : RHS g gc gl st dl w sm of W) (x : Nat → UInt8) : RHS g gc gl st dl w x of (W.setRow (w.heap.size + 1) (row 16 x)) := by
  obtain ⟨⟨gl', k', cap', ho, hor⟩, ⟨hf, h5⟩, h2, h3, h4⟩ := h
  exact ⟨⟨gl', k', cap', ho.setRow_far (by omega) (by omega) _, hor⟩, ⟨hf.setRow (by omega) h5.2 _, h5⟩, h2.setRow_far (by omega) _, h3.setRow _, h4.setRow_far (by omega) _⟩
theorem RHS.putOf (h : RHS g gc gl st dl w sm of W) (x : Nat → UInt8) : RHS g gc gl st dl w sm x (W.setRow (w.heap.size + 2) (row 16 x)) := by
  obtain ⟨⟨gl', k', cap', ho, hor⟩, ⟨hf, h5⟩, h2, h3, h4⟩ := h
  exact ⟨⟨gl', k', cap', ho.setRow_far (by omega) (by omega) _, hor⟩, ⟨hf.setRow (by omega) h5.2 _, h5⟩, h2.setRow_far (by omega) _, h3.setRow_far (by omega) _, h4.setRow _⟩
theorem RHS.done (h : RHS g gc gl st dl w sm of W) (x : Nat → UInt8) : AtP g gc gl st dl w (W.setRow w.heap.size (row 16 x)) := by
  obtain ⟨⟨gl', k', cap', ho, hor⟩, ⟨hf, h5⟩, h2, h3, h4⟩ := h
  exact ⟨gl', k', cap', ho.setRow_far (by omega) (by omega) _, by omega, hf.setRow (by omega) h5.2 _⟩
end
/-- Bytes cut ahead. -/
theorem Bts.cut {w : World} {b o r c : Nat} {f : Nat → UInt8} (h : Bts w (some ⟨b, o, none⟩) r c f) (k : Nat) (hk : k ≤ r) : Bts w (some ⟨b, o + k, none⟩) (r - k) (c - k) (fun j => f (k + j)) := by
  have h3 := h.2.2
  refine ⟨fun hr => ⟨b, o + k, rfl, fun j hj => ?_⟩, (fun e => by cases e), by omega⟩
  obtain ⟨b', o', e, hc⟩ := h.1 (by omega)
  obtain ⟨rfl, rfl⟩ : b = b' ∧ o = o' := by
    have := Option.some.inj e
    exact ⟨congrArg Addr.block this, congrArg Addr.off this⟩
  rw [Nat.add_assoc]
  exact hc (k + j) (by omega)
def lenV : Value → Nat | .slice _ n _ => n | _ => 0
theorem bts_at {w : World} {b o r c : Nat} {f : Nat → UInt8} (h : Bts w (some ⟨b, o, none⟩) r c f) (j : Nat) (hj : j < r) : w.cell? ⟨b, o + j, none⟩ = some (.int .u8 ((f j).toNat : Int)) := by
  obtain ⟨b', o', e, hc⟩ := h.1 (by omega)
  obtain ⟨rfl, rfl⟩ : b = b' ∧ o = o' := by
    have := Option.some.inj e
    exact ⟨congrArg Addr.block this, congrArg Addr.off this⟩
  exact hc j hj
theorem row_part (m t : Nat) (f : Nat → UInt8) (h : 16 * t + 16 ≤ m) : (row 16 fun j => f (16 * t + j)) = row 16 (partB m f t) := by
  refine row_congr fun j hj => ?_
  unfold partB padB plen
  rw [if_pos (by omega)]

set_option maxHeartbeats 4000000 in
theorem rhash_c (g gc gl k cap n0 m c : Nat) (A : Option Addr) (E D : (Nat → UInt8) → Nat → UInt8) (st dl f : Nat → UInt8) (w : World) (ho : Ob g gc gl k cap st dl w) (h1 : n0 ≤ g) (h2 : n0 ≤ gl)
    (hR : ∀ W', Below n0 w W' → RCap gc E D W') (hB : ∀ W', Below n0 w W' → Bts W' A m c f) (hc : m ≤ 140737488355328) :
    Calls Tryd.prog 20 #[.pointer (some ⟨g, 0, none⟩), .slice A m c] w fun e w' => e = .returned (.agg (row 16 (hashTo E st dl m f (List.range ((m + 15) / 16))).2)) ∧ AtP g gc gl st dl w w' := by
  have HR := Lib.hid hR
  have hmc := (hB w (Below.refl _ _)).2.2
  have HB := Lib.hid hB
  clear hR hB
  go_enter Tryd.func20, Tryd.ntmps20
  go_upto_region 2 with (fail)
  rw [zero16]
  have hs : RHS g gc gl st dl w (fun _ => 0) (fun _ => 0) (((w.alloc (.cells (row 16 fun _ => 0) 44)).alloc (.cells (row 16 fun _ => 0) 44)).alloc (.cells (row 16 fun _ => 0) 44)) := by
    obtain ⟨h0, h1, h2, h3⟩ := three_new w 44 (fun _ => 0) (fun _ => 0) (fun _ => 0) 16 16 16 44 44
    have hb : Below w.heap.size w (((w.alloc (.cells (row 16 fun _ => 0) 44)).alloc (.cells (row 16 fun _ => 0) 44)).alloc (.cells (row 16 fun _ => 0) 44)) := h3
    exact ⟨⟨gl, k, cap, ho.below hb, .inl rfl⟩, ⟨⟨hb.mono (by have := ho.1.lt; omega), fun x hx _ _ => hb.block x hx⟩, ho.1.lt, ho.ltl⟩, h0, h1, h2⟩
  revert hs
  generalize ((w.alloc (.cells (row 16 fun _ => 0) 44)).alloc (.cells (row 16 fun _ => 0) 44)).alloc (.cells (row 16 fun _ => 0) 44) = w1
  intro hs
  go_wp2
  go_loopw [1, 7] (fun av iv wr => ∃ (t r c' : Nat) (A' : Option Addr), m = 16 * t + r ∧ av = .slice A' r c' ∧ c' ≤ c ∧ iv = .int .i64 ((t : Int) + 1) ∧ (∀ W', Below n0 w W' → Bts W' A' r c' fun j => f (16 * t + j)) ∧ RHS g gc gl st dl w (hashTo E st dl m f (List.range t)).2 (hashTo E st dl m f (List.range t)).1.1 wr ∧ (hashTo E st dl m f (List.range t)).1.2 = t) (fun av _ _ => lenV av)
  case atStart => exact ⟨0, m, c, A, by omega, rfl, Nat.le_refl _, rfl, fun W' hW => by simpa using HB.out W' hW, hs, rfl⟩
  case round =>
    clear hs
    obtain ⟨t, r, c', A', hm, rfl, hcc, rfl, hB', hs, hcnt⟩ := hrel
    have HB' := Lib.hid hB'
    clear hB'
    obtain ⟨Ht, hHt⟩ : ∃ Ht, Ht = hashTo E st dl m f (List.range t) := ⟨_, rfl⟩
    rw [← hHt] at hs hcnt
    have hlr := (HB'.out _ (hs.base h1 h2)).2.2
    by_cases hlt : 16 ≤ r
    · have i1 : (16 : Int) ≤ (r : Int) := by omega
      obtain ⟨b', o', hA', _⟩ := (HB'.out _ (hs.base h1 h2)).1 (by omega)
      subst hA'
      obtain ⟨O1, hO1⟩ : ∃ O1, O1 = added Ht.1.1 (dbls (Lib.ctz 64 (t + 1) + 1) dl) := ⟨_, rfl⟩
      obtain ⟨X, hX⟩ : ∃ X, X = partB m f t := ⟨_, rfl⟩
      obtain ⟨Y, hY⟩ : ∃ Y, Y = added X O1 := ⟨_, rfl⟩
      obtain ⟨Z, hZ⟩ : ∃ Z, Z = E Y := ⟨_, rfl⟩
      obtain ⟨V, hV⟩ : ∃ V, V = added Ht.2 Z := ⟨_, rfl⟩
      have hnext : hashTo E st dl m f (List.range (t + 1)) = ((O1, t + 1), V) := by
        have hp : plen m t = 16 := by unfold plen; omega
        rw [List.range_succ, hashTo_snoc, ← hHt, hV, hZ, hY, hX, hO1]
        unfold hashStep wkStep
        rw [hp, if_neg (by omega), hcnt]
      obtain ⟨Ld, hLd⟩ : ∃ Ld, Ld = dbls (Lib.ctz 64 (t + 1) + 1) dl := ⟨_, rfl⟩
      rw [← hLd] at hO1
      have HO1 := Lib.hid hO1
      have HX := Lib.hid hX
      have HY := Lib.hid hY
      have HZ := Lib.hid hZ
      have HV := Lib.hid hV
      have HN := Lib.hid hnext
      have HLD := Lib.hid hLd
      clear hO1 hX hY hZ hV hnext hLd hHt hcnt
      obtain ⟨sm, hsm⟩ : ∃ sm, sm = Ht.2 := ⟨_, rfl⟩
      obtain ⟨of, hof⟩ : ∃ of, of = Ht.1.1 := ⟨_, rfl⟩
      rw [← hsm, ← hof] at hs
      rw [← hof] at HO1
      rw [← hsm] at HV
      clear hsm hof
      go_wp2
      refine region_seq (fun W' => RHS g gc gl st dl w sm of W') mixedOrders (by kernel_rfl) (by simp) hs.drew ?_
      clear hs
      refine Seq.next (.agg (row 16 of)) (Sure.load_Row rfl 44 _ rfl (w.heap.size + 1 + 1) rfl 44 16 _ _ (fun w' hS => hS.2.2.2.2) undBk sizeBk) ?_
      simp only [Act.put, List.setIfInBounds_toArray, List.set_cons_zero, List.set_cons_succ]
      refine Seq.next ?_ (Sure.val rfl (fun w' hS => ?_)) ?_
      rotate_left 1
      · clear hS
        go_simp
        rfl
      simp only [Act.put, List.setIfInBounds_toArray, List.set_cons_zero, List.set_cons_succ]
      refine Seq.next ?_ (Sure.val rfl (fun w' hS => ?_)) ?_
      rotate_left 1
      · clear hS
        go_simp
        rfl
      simp only [Act.put, List.setIfInBounds_toArray, List.set_cons_zero, List.set_cons_succ]
      refine Seq.next (.agg (row 16 Ld)) (Sure.call (f := 34) (args := #[.pointer (some ⟨g, 0, none⟩), .int .i64 ((t : Int) + 1)]) rfl (fun w' => by go_simp) (fun w' hS => by obtain ⟨gl', k', cap', ho', hor'⟩ := hS.1; exact (at_c g gc gl' k' cap' (t + 1) st dl w' ho' (by omega) (by omega)).mono fun e w'' h => ⟨by rw [HLD.out]; exact h.1, hS.at_ hor' h.2⟩)) ?_
      simp only [Act.put, List.setIfInBounds_toArray, List.set_cons_zero, List.set_cons_succ]
      refine Seq.next (.agg (row 16 O1)) (Sure.call (f := 19) (args := #[.agg (row 16 of), .agg (row 16 Ld)]) rfl (fun w' => by go_simp) (fun w' hS => (rxor_c of Ld w').mono fun e w'' h => ⟨by rw [HO1.out]; exact h.1, hS.below h.2⟩)) ?_
      simp only [Act.put, List.setIfInBounds_toArray, List.set_cons_zero, List.set_cons_succ]
      refine Seq.store_Row rfl 44 _ _ rfl (w.heap.size + 1 + 1) rfl 44 16 _ O1 rfl (fun w' hS => hS.2.2.2.2) sizeBk fun w' hS => ?_
      have hs := hS.putOf O1
      clear hS
      revert hs
      rw [show w.heap.size + 2 = w.heap.size + 1 + 1 from rfl]
      generalize w'.setRow (w.heap.size + 1 + 1) (row 16 O1) = w2
      intro hs
      have j1 : (16 : Int) ≤ (c' : Int) := by omega
      go_wp2
      refine region_seq (fun W' => RHS g gc gl st dl w sm O1 W') mixedOrders (by kernel_rfl) (by simp) hs.drew ?_
      clear hs
      refine Seq.next (.agg (row 16 sm)) (Sure.load_Row rfl 44 _ rfl (w.heap.size + 1) rfl 44 16 _ _ (fun w' hS => hS.2.2.2.1) undBk sizeBk) ?_
      simp only [Act.put, List.setIfInBounds_toArray, List.set_cons_zero, List.set_cons_succ]
      refine Seq.next ?_ (Sure.val rfl (fun w' hS => ?_)) ?_
      rotate_left 1
      · clear hS
        go_simp
        rfl
      simp only [Act.put, List.setIfInBounds_toArray, List.set_cons_zero, List.set_cons_succ]
      refine Seq.next ?_ (Sure.val rfl (fun w' hS => ?_)) ?_
      rotate_left 1
      · clear hS
        go_simp
        rfl
      simp only [Act.put, List.setIfInBounds_toArray, List.set_cons_zero, List.set_cons_succ]
      refine Seq.next ?_ (Sure.val rfl (fun w' hS => ?_)) ?_
      rotate_left 1
      · clear hS
        go_simp
        rfl
      simp only [Act.put, List.setIfInBounds_toArray, List.set_cons_zero, List.set_cons_succ]
      refine Seq.next ?_ (Sure.val rfl (fun w' hS => ?_)) ?_
      rotate_left 1
      · clear hS
        go_simp
        rfl
      simp only [Act.put, List.setIfInBounds_toArray, List.set_cons_zero, List.set_cons_succ]
      refine Seq.next (.agg (row 16 X)) (Sure.load_Part rfl 44 _ rfl b' o' rfl 16 X _ (fun w' hS => range_cells fun j hj => by rw [HX.out, ← row_inj (row_part m t f (by omega)) j hj]; exact bts_at (HB'.out w' (hS.base h1 h2)) j (by omega)) undBk sizeBk) ?_
      simp only [Act.put, List.setIfInBounds_toArray, List.set_cons_zero, List.set_cons_succ]
      refine Seq.next (.agg (row 16 O1)) (Sure.load_Row rfl 44 _ rfl (w.heap.size + 1 + 1) rfl 44 16 _ _ (fun w' hS => hS.2.2.2.2) undBk sizeBk) ?_
      simp only [Act.put, List.setIfInBounds_toArray, List.set_cons_zero, List.set_cons_succ]
      refine Seq.next (.agg (row 16 Y)) (Sure.call (f := 19) (args := #[.agg (row 16 X), .agg (row 16 O1)]) rfl (fun w' => by go_simp) (fun w' hS => (rxor_c X O1 w').mono fun e w'' h => ⟨by rw [HY.out]; exact h.1, hS.below h.2⟩)) ?_
      simp only [Act.put, List.setIfInBounds_toArray, List.set_cons_zero, List.set_cons_succ]
      refine Seq.next (.agg (row 16 Z)) (Sure.call (f := 32) (args := #[.pointer (some ⟨g, 0, none⟩), .agg (row 16 Y)]) rfl (fun w' => by go_simp) (fun w' hS => by obtain ⟨gl', k', cap', ho', _⟩ := hS.1; exact (oaes_c g gc gl' k' cap' E D st dl Y w' ho' (HR.out w' (hS.base h1 h2))).mono fun e w'' h => ⟨by rw [HZ.out]; exact h.1, hS.below h.2⟩)) ?_
      simp only [Act.put, List.setIfInBounds_toArray, List.set_cons_zero, List.set_cons_succ]
      refine Seq.next (.agg (row 16 V)) (Sure.call (f := 19) (args := #[.agg (row 16 sm), .agg (row 16 Z)]) rfl (fun w' => by go_simp) (fun w' hS => (rxor_c sm Z w').mono fun e w'' h => ⟨by rw [HV.out]; exact h.1, hS.below h.2⟩)) ?_
      simp only [Act.put, List.setIfInBounds_toArray, List.set_cons_zero, List.set_cons_succ]
      refine Seq.store_Row rfl 44 _ _ rfl (w.heap.size + 1) rfl 44 16 _ V rfl (fun w' hS => hS.2.2.2.1) sizeBk fun w' hS => ?_
      have hs := hS.putSm V
      clear hS
      revert hs
      generalize w'.setRow (w.heap.size + 1) (row 16 V) = w3
      intro hs
      have e : (fun j => f (16 * (t + 1) + j)) = fun j => f (16 * t + (16 + j)) := funext fun j => by congr 1; omega
      have HE := Lib.hid e
      clear e
      by_cases hc16 : c' = 16
      · obtain rfl : r = 16 := by omega
        subst hc16
        go_wp2
        go_roundw
        case rel => exact ⟨t + 1, 0, 0, _, by omega, rfl, by omega, by go_num, fun W' _ => ⟨fun h => absurd h (by omega), (fun h => by cases h), Nat.le_refl _⟩, by rw [HN.out]; exact hs, by rw [HN.out]⟩
        case measure => simp [lenV]
      · have hc16' : ¬ (c' : Int) = 16 := by omega
        have i2 : (16 : Int) ≤ (r : Int) := by omega
        go_wp2
        go_roundw
        case rel => exact ⟨t + 1, r - 16, c' - 16, _, by omega, rfl, by omega, by go_num, fun W' hW => by rw [HE.out]; exact (HB'.out W' hW).cut 16 hlt, by rw [HN.out]; exact hs, by rw [HN.out]⟩
        case measure => simp [lenV]; omega
    · have i1 : ¬ (16 : Int) ≤ (r : Int) := by omega
      by_cases hr0 : r = 0
      · subst hr0
        have hfin : hashTo E st dl m f (List.range ((m + 15) / 16)) = Ht := by rw [hHt]; congr 2; omega
        have HFIN := Lib.hid hfin
        clear hfin hHt hcnt hm
        go_wp2_with (first | (refine wpList_load_Row rfl 44 _ rfl (w.heap.size + 1) rfl 44 16 _ _ hs.2.2.2.1 undBk sizeBk ?_) | (refine wpList_store_Row rfl 44 _ _ rfl w.heap.size rfl 44 16 _ _ rfl hs.2.2.1 sizeBk ?_))
        exact ret_Row rfl rfl _ _ 16 _ _ rfl (hs.2.2.1.setRow _) undBk sizeBk ⟨by rw [HFIN.out], hs.done _⟩
      · have i2 : (0 : Int) < (r : Int) := by omega
        obtain ⟨b', o', hA', _⟩ := (HB'.out _ (hs.base h1 h2)).1 (by omega)
        subst hA'
        obtain ⟨O1, hO1⟩ : ∃ O1, O1 = added Ht.1.1 st := ⟨_, rfl⟩
        obtain ⟨X, hX⟩ : ∃ X, X = padB r fun j => f (16 * t + j) := ⟨_, rfl⟩
        obtain ⟨Y, hY⟩ : ∃ Y, Y = added X O1 := ⟨_, rfl⟩
        obtain ⟨Z, hZ⟩ : ∃ Z, Z = E Y := ⟨_, rfl⟩
        obtain ⟨V, hV⟩ : ∃ V, V = added Ht.2 Z := ⟨_, rfl⟩
        have hfin : (hashTo E st dl m f (List.range ((m + 15) / 16))).2 = V := by
          have hp : plen m t = r := by unfold plen; omega
          rw [show (m + 15) / 16 = t + 1 by omega, List.range_succ, hashTo_snoc, ← hHt, hV, hZ, hY, hX, hO1]
          unfold hashStep wkStep partB
          rw [hp, if_pos (by omega)]
        have HO1 := Lib.hid hO1
        have HX := Lib.hid hX
        have HY := Lib.hid hY
        have HZ := Lib.hid hZ
        have HV := Lib.hid hV
        have HFIN := Lib.hid hfin
        clear hO1 hX hY hZ hV hfin hHt hcnt
        obtain ⟨sm, hsm⟩ : ∃ sm, sm = Ht.2 := ⟨_, rfl⟩
        obtain ⟨of, hof⟩ : ∃ of, of = Ht.1.1 := ⟨_, rfl⟩
        rw [← hsm, ← hof] at hs
        rw [← hof] at HO1
        rw [← hsm] at HV
        clear hsm hof
        go_wp2
        refine region_seq (fun W' => RHS g gc gl st dl w sm of W') mixedOrders (by kernel_rfl) (by simp) hs.drew ?_
        clear hs
        refine Seq.next (.agg (row 16 sm)) (Sure.load_Row rfl 44 _ rfl (w.heap.size + 1) rfl 44 16 _ _ (fun w' hS => hS.2.2.2.1) undBk sizeBk) ?_
        simp only [Act.put, List.setIfInBounds_toArray, List.set_cons_zero, List.set_cons_succ]
        refine Seq.next ?_ (Sure.val rfl (fun w' hS => ?_)) ?_
        rotate_left 1
        · clear hS
          go_simp
          rfl
        simp only [Act.put, List.setIfInBounds_toArray, List.set_cons_zero, List.set_cons_succ]
        refine Seq.next ?_ (Sure.val rfl (fun w' hS => ?_)) ?_
        rotate_left 1
        · clear hS
          go_simp
          rfl
        simp only [Act.put, List.setIfInBounds_toArray, List.set_cons_zero, List.set_cons_succ]
        refine Seq.next (.agg (row 16 X)) (Sure.call (f := 36) (args := #[.slice (some ⟨b', o', none⟩) r c']) rfl (fun w' => by go_simp) (fun w' hS => (rpadded_c b' o' r c' _ w' (by omega) (by omega) (fun j hj => bts_at (HB'.out w' (hS.base h1 h2)) j hj)).mono fun e w'' h => ⟨by rw [HX.out]; exact h.1, hS.below h.2⟩)) ?_
        simp only [Act.put, List.setIfInBounds_toArray, List.set_cons_zero, List.set_cons_succ]
        refine Seq.next (.agg (row 16 of)) (Sure.load_Row rfl 44 _ rfl (w.heap.size + 1 + 1) rfl 44 16 _ _ (fun w' hS => hS.2.2.2.2) undBk sizeBk) ?_
        simp only [Act.put, List.setIfInBounds_toArray, List.set_cons_zero, List.set_cons_succ]
        refine Seq.next ?_ (Sure.val rfl (fun w' hS => ?_)) ?_
        rotate_left 1
        · clear hS
          go_simp
          rfl
        simp only [Act.put, List.setIfInBounds_toArray, List.set_cons_zero, List.set_cons_succ]
        refine Seq.next ?_ (Sure.val rfl (fun w' hS => ?_)) ?_
        rotate_left 1
        · clear hS
          go_simp
          rfl
        simp only [Act.put, List.setIfInBounds_toArray, List.set_cons_zero, List.set_cons_succ]
        refine Seq.next ?_ (Sure.val rfl (fun w' hS => ?_)) ?_
        rotate_left 1
        · clear hS
          go_simp
          rfl
        simp only [Act.put, List.setIfInBounds_toArray, List.set_cons_zero, List.set_cons_succ]
        refine Seq.next (.agg (row 16 st)) (Sure.load_Part rfl 44 _ rfl g 1 rfl 16 st _ (fun w' hS => by obtain ⟨gl', k', cap', ho', _⟩ := hS.1; exact ho'.1.range 1 16 st fun j hj => ob_st _ _ _ j hj) undBk sizeBk) ?_
        simp only [Act.put, List.setIfInBounds_toArray, List.set_cons_zero, List.set_cons_succ]
        refine Seq.next (.agg (row 16 O1)) (Sure.call (f := 19) (args := #[.agg (row 16 of), .agg (row 16 st)]) rfl (fun w' => by go_simp) (fun w' hS => (rxor_c of st w').mono fun e w'' h => ⟨by rw [HO1.out]; exact h.1, hS.below h.2⟩)) ?_
        simp only [Act.put, List.setIfInBounds_toArray, List.set_cons_zero, List.set_cons_succ]
        refine Seq.next (.agg (row 16 Y)) (Sure.call (f := 19) (args := #[.agg (row 16 X), .agg (row 16 O1)]) rfl (fun w' => by go_simp) (fun w' hS => (rxor_c X O1 w').mono fun e w'' h => ⟨by rw [HY.out]; exact h.1, hS.below h.2⟩)) ?_
        simp only [Act.put, List.setIfInBounds_toArray, List.set_cons_zero, List.set_cons_succ]
        refine Seq.next (.agg (row 16 Z)) (Sure.call (f := 32) (args := #[.pointer (some ⟨g, 0, none⟩), .agg (row 16 Y)]) rfl (fun w' => by go_simp) (fun w' hS => by obtain ⟨gl', k', cap', ho', _⟩ := hS.1; exact (oaes_c g gc gl' k' cap' E D st dl Y w' ho' (HR.out w' (hS.base h1 h2))).mono fun e w'' h => ⟨by rw [HZ.out]; exact h.1, hS.below h.2⟩)) ?_
        simp only [Act.put, List.setIfInBounds_toArray, List.set_cons_zero, List.set_cons_succ]
        refine Seq.next (.agg (row 16 V)) (Sure.call (f := 19) (args := #[.agg (row 16 sm), .agg (row 16 Z)]) rfl (fun w' => by go_simp) (fun w' hS => (rxor_c sm Z w').mono fun e w'' h => ⟨by rw [HV.out]; exact h.1, hS.below h.2⟩)) ?_
        simp only [Act.put, List.setIfInBounds_toArray, List.set_cons_zero, List.set_cons_succ]
        refine Seq.store_Row rfl 44 _ _ rfl (w.heap.size + 1) rfl 44 16 _ V rfl (fun w' hS => hS.2.2.2.1) sizeBk fun w' hS => ?_
        have hs := hS.putSm V
        clear hS
        revert hs
        generalize w'.setRow (w.heap.size + 1) (row 16 V) = w3
        intro hs
        go_wp2_with (first | (refine wpList_load_Row rfl 44 _ rfl (w.heap.size + 1) rfl 44 16 _ _ hs.2.2.2.1 undBk sizeBk ?_) | (refine wpList_store_Row rfl 44 _ _ rfl w.heap.size rfl 44 16 _ _ rfl hs.2.2.1 sizeBk ?_))
        exact ret_Row rfl rfl _ _ 16 _ _ rfl (hs.2.2.1.setRow _) undBk sizeBk ⟨by rw [HFIN.out], hs.done _⟩
end Go.Proofs.YtajifdnfibojfaaDoor

namespace Go.Proofs.YtajifdnfibojfaaDoor
open Go Go.RowKit
set_option maxRecDepth 100000

def R3 (g gc gl gl1 k1 cap1 : Nat) (st dl : Nat → UInt8) (w : World) (x0 x1 x2 : Nat → UInt8) (W : World) : Prop :=
  (Ob g gc gl1 k1 cap1 st dl W ∧ (gl1 = gl ∨ w.heap.size + 3 ≤ gl1)) ∧ (Fr g gl w W ∧ g < w.heap.size ∧ gl < w.heap.size) ∧ Row W w.heap.size 44 16 x0 ∧ Row W (w.heap.size + 1) 44 16 x1 ∧ Row W (w.heap.size + 2) 44 16 x2

/-- A block that holds no bytes is not the one that append writes. -/
theorem Own.ne {W : World} {base n x : Nat} {v : Value} {f : Nat → UInt8} {cs : Array Value} {t : TypeId} {fr : Nat × Nat} (h : Own W base v n f) (hx : W.heap[x]? = some (.cells cs t fr)) (ht : t ≠ 5) : some x ≠ v.ownBlock := by
  intro e
  rcases h.2 with ⟨rfl, _⟩ | ⟨g, cap, cur, rfl, _, hg, _⟩
  · cases e
  · obtain rfl : x = g := Option.some.inj e
    rw [hg] at hx
    injection hx with hx
    injection hx with _ hx _
    exact ht hx.symm
theorem Own.frame {W W' : World} {base n : Nat} {v : Value} {f : Nat → UInt8} (h : Own W base v n f) (hx : ∀ (x : Nat) (cur : Array Value), W.heap[x]? = some (.cells cur 5 (0, 0)) → W'.heap[x]? = W.heap[x]?) : Own W' base v n f := by
  refine ⟨h.1, ?_⟩
  rcases h.2 with h | ⟨g, cap, cur, h1, h2, h3, h4⟩
  · exact .inl h
  · exact .inr ⟨g, cap, cur, h1, h2, (hx g cur h3).trans h3, h4⟩
theorem bk_ne8 : 44 ≠ 5 := by decide
theorem ob_ne8 : 68 ≠ 5 := by decide
theorem cells_ne {W : World} {x y : Nat} {cs cs' : Array Value} {t t' : TypeId} {fr fr' : Nat × Nat} (hx : W.heap[x]? = some (.cells cs t fr)) (hy : W.heap[y]? = some (.cells cs' t' fr')) (ht : t ≠ t') : x ≠ y := by
  intro e
  subst e
  rw [hx] at hy
  injection hy with hy
  injection hy with _ hy _
  exact ht hy
theorem Own.at_ {W W' : World} {base n g gc gl k cap : Nat} {v : Value} {f st dl : Nat → UInt8} (h : Own W base v n f) (ho : Ob g gc gl k cap st dl W) (ha : AtP g gc gl st dl W W') : Own W' base v n f := by
  obtain ⟨_, _, _, _, _, hf⟩ := ha
  obtain ⟨cur, hc, _⟩ := ho.lst
  exact h.frame fun x cur' hx => hf.2 x (Array.getElem?_eq_some_iff.1 hx).1 (cells_ne hx ho.1 (Ne.symm ob_ne8)) (cells_ne hx hc (Ne.symm bk_ne8))
theorem Own.setBk {W : World} {base n x : Nat} {v : Value} {f y : Nat → UInt8} (h : Own W base v n f) (hr : Row W x 44 16 y) (cs : Array Value) : Own (W.setRow x cs) base v n f :=
  h.frame fun _ _ hx => setRow_other _ _ _ _ (cells_ne hx hr (Ne.symm bk_ne8))

section
variable {g gc gl gl1 k1 cap1 B0 : Nat} {st dl x0 x1 x2 : Nat → UInt8} {w W W' : World}
theorem R3.base (h : R3 g gc gl gl1 k1 cap1 st dl w x0 x1 x2 W) (h1 : B0 ≤ g) (h2 : B0 ≤ gl) : Below B0 w W := h.2.1.1.1.mono (by omega)
theorem R3.lt (h : R3 g gc gl gl1 k1 cap1 st dl w x0 x1 x2 W) : w.heap.size + 3 ≤ W.heap.size := h.2.2.2.2.lt
theorem R3.drew (h : R3 g gc gl gl1 k1 cap1 st dl w x0 x1 x2 W) : R3 g gc gl gl1 k1 cap1 st dl w x0 x1 x2 W.drew := by
  obtain ⟨⟨ho, hor⟩, ⟨hf, h5⟩, h2, h3, h4⟩ := h
  exact ⟨⟨ho.drew, hor⟩, ⟨⟨hf.1.drew, hf.2⟩, h5⟩, h2.drew, h3.drew, h4.drew⟩
theorem R3.below (h : R3 g gc gl gl1 k1 cap1 st dl w x0 x1 x2 W) (hb : Below W.heap.size W W') : R3 g gc gl gl1 k1 cap1 st dl w x0 x1 x2 W' := by
  obtain ⟨⟨ho, hor⟩, ⟨hf, h5⟩, h2, h3, h4⟩ := h
  exact ⟨⟨ho.below hb, hor⟩, ⟨hf.below hb (.inl ho.1.lt), h5⟩, h2.below hb h2.lt, h3.below hb h3.lt, h4.below hb h4.lt⟩
theorem R3.alloc (h : R3 g gc gl gl1 k1 cap1 st dl w x0 x1 x2 W) (o : Obj) : R3 g gc gl gl1 k1 cap1 st dl w x0 x1 x2 (W.alloc o) := h.below ((Below.refl _ _).alloc (Nat.le_refl _) _)
theorem R3.at_ (h : R3 g gc gl gl1 k1 cap1 st dl w x0 x1 x2 W) (ha : AtP g gc gl1 st dl W W') : ∃ gl2 k2 cap2, R3 g gc gl gl2 k2 cap2 st dl w x0 x1 x2 W' := by
  obtain ⟨⟨_, hor1⟩, ⟨hf, h5⟩, h2, h3, h4⟩ := h
  obtain ⟨gl2, k2, cap2, ho2, hor2, hf2⟩ := ha
  have hl := h4.lt
  exact ⟨gl2, k2, cap2, ⟨ho2, by omega⟩, ⟨hf.trans (by omega) hf2 h5.2, h5⟩, (hf2.2 _ h2.lt (by omega) (by omega)).trans h2, (hf2.2 _ h3.lt (by omega) (by omega)).trans h3, (hf2.2 _ h4.lt (by omega) (by omega)).trans h4⟩
theorem R3.put0 (h : R3 g gc gl gl1 k1 cap1 st dl w x0 x1 x2 W) (x : Nat → UInt8) : R3 g gc gl gl1 k1 cap1 st dl w x x1 x2 (W.setRow w.heap.size (row 16 x)) := by
  obtain ⟨⟨ho, hor⟩, ⟨hf, h5⟩, h2, h3, h4⟩ := h
  exact ⟨⟨ho.setRow_far (by omega) (by omega) _, hor⟩, ⟨hf.setRow (by omega) h5.2 _, h5⟩, h2.setRow _, h3.setRow_far (by omega) _, h4.setRow_far (by omega) _⟩
theorem R3.put1 (h : R3 g gc gl gl1 k1 cap1 st dl w x0 x1 x2 W) (x : Nat → UInt8) : R3 g gc gl gl1 k1 cap1 st dl w x0 x x2 (W.setRow (w.heap.size + 1) (row 16 x)) := by
  obtain ⟨⟨ho, hor⟩, ⟨hf, h5⟩, h2, h3, h4⟩ := h
  exact ⟨⟨ho.setRow_far (by omega) (by omega) _, hor⟩, ⟨hf.setRow (by omega) h5.2 _, h5⟩, h2.setRow_far (by omega) _, h3.setRow _, h4.setRow_far (by omega) _⟩
theorem R3.put2 (h : R3 g gc gl gl1 k1 cap1 st dl w x0 x1 x2 W) (x : Nat → UInt8) : R3 g gc gl gl1 k1 cap1 st dl w x0 x1 x (W.setRow (w.heap.size + 2) (row 16 x)) := by
  obtain ⟨⟨ho, hor⟩, ⟨hf, h5⟩, h2, h3, h4⟩ := h
  exact ⟨⟨ho.setRow_far (by omega) (by omega) _, hor⟩, ⟨hf.setRow (by omega) h5.2 _, h5⟩, h2.setRow_far (by omega) _, h3.setRow_far (by omega) _, h4.setRow _⟩
/-- A later block is set. -/
theorem R3.far (h : R3 g gc gl gl1 k1 cap1 st dl w x0 x1 x2 W) {x : Nat} (hx : w.heap.size + 3 ≤ x) (hl : x ≠ gl1) (cs : Array Value) : R3 g gc gl gl1 k1 cap1 st dl w x0 x1 x2 (W.setRow x cs) := by
  obtain ⟨⟨ho, hor⟩, ⟨hf, h5⟩, h2, h3, h4⟩ := h
  exact ⟨⟨ho.setRow_far (by omega) hl _, hor⟩, ⟨hf.setRow (by omega) h5.2 _, h5⟩, h2.setRow_far (by omega) _, h3.setRow_far (by omega) _, h4.setRow_far (by omega) _⟩
/-- Bytes of the call's own are appended to. -/
theorem R3.grown (h : R3 g gc gl gl1 k1 cap1 st dl w x0 x1 x2 W) {n : Nat} {v : Value} {f : Nat → UInt8} (hv : Own W (w.heap.size + 3) v n f) (hg : W.grownBy W' v.ownBlock) : R3 g gc gl gl1 k1 cap1 st dl w x0 x1 x2 W' := by
  obtain ⟨⟨ho, hor⟩, ⟨hf, h5⟩, h2, h3, h4⟩ := h
  obtain ⟨cur, hc, _⟩ := ho.lst
  have hl := h4.lt
  refine ⟨⟨ho.same (hg.block g ho.1.lt (hv.ne ho.1 ob_ne8)) (hg.block gl1 ho.ltl (hv.ne hc bk_ne8)), hor⟩, ⟨⟨hf.1.grown hg (by omega) fun k hk => ?_, fun x hx a b => ?_⟩, h5⟩, (hg.block _ h2.lt (hv.ne h2 bk_ne8)).trans h2, (hg.block _ h3.lt (hv.ne h3 bk_ne8)).trans h3, (hg.block _ h4.lt (hv.ne h4 bk_ne8)).trans h4⟩
  · have := (World.ownsRow.lt hv k hk).1
    omega
  · refine (hg.block x (by omega) fun e => ?_).trans (hf.2 x hx a b)
    have := (World.ownsRow.lt hv x e.symm).1
    omega
theorem R3.done (h : R3 g gc gl gl1 k1 cap1 st dl w x0 x1 x2 W) : AtP g gc gl st dl w W := by
  obtain ⟨⟨ho, hor⟩, ⟨hf, h5⟩, h2, h3, h4⟩ := h
  exact ⟨gl1, k1, cap1, ho, by omega, hf⟩
end

theorem R3.congr2 {g gc gl gl1 k1 cap1 : Nat} {st dl x0 x1 x2 y : Nat → UInt8} {w W : World} (h : R3 g gc gl gl1 k1 cap1 st dl w x0 x1 x2 W) (hy : ∀ j, j < 16 → x2 j = y j) : R3 g gc gl gl1 k1 cap1 st dl w x0 x1 y W := ⟨h.1, h.2.1, h.2.2.1, h.2.2.2.1, h.2.2.2.2.congr hy⟩
/-- The end of a function of two results, the second an array of bytes in a block. -/
theorem ret_tmp_Row {P : Program} {w : World} {fn : Func} {R : Ending → World → Prop} {a : Act} {p t1 : Tmp} {ty : TypeId} (h : fn.results = #[.tmp t1, .cell p ty]) (hd : a.defers = []) (g : Nat) (t : TypeId) (n : Nat) (f : Nat → UInt8) (e : TypeId) (v : Value)
    (hp : a.tmps.getD p undef = .pointer (some ⟨g, 0, none⟩)) (hv : a.tmps.getD t1 undef = v) (hg : Row w g t n f) (hu : P.underlying ty = some (.array n e)) (hi : (P.info? ty).map (·.size) = some n)
    (hR : R (.returned (.tuple #[v, .agg (row n f)])) w) : bodyPost P fn R .ret a w := by
  have hp' : a.tmps[p]?.getD undef = .pointer (some ⟨g, 0, none⟩) := by simpa using hp
  have hv' : a.tmps[t1]?.getD undef = v := by simpa using hv
  exact bodyPost_ret (v := .tuple #[v, .agg (row n f)]) (by simp [results, h, hp', hv', asAddr, run_loadVar_row w g t ty _ _ _ hg hu rfl (by rw [hi, row_size])]) hd hR
/-- One byte as a slice, made. -/
theorem run_build8 (x : UInt8) (w : World) : (Instr.buildSlice 22 1 #[(0, .int .u8 (x.toNat : Int))]).run Tryd.prog w = .ok (.slice (some ⟨w.heap.size, 0, none⟩) 1 1) (w.alloc (.cells (row 1 fun _ => x) 5)) := by
  obtain ⟨i0, hi, hz0, hz1, hz2⟩ := info_parts info8'
  refine run_buildSlice w 22 5 1 _ (row 1 fun _ => x) i0 (.int .u8 0) undB hi hz0 (by rw [hz1]; omega) (by rw [hz1]; omega) ?_
  rw [hz1]
  kernel_rfl
theorem exec_build8 {o : Oper} {a : Act} {w : World} (x : Operand) (ho : o.op = .buildSlice 22 1 #[(0, x)]) (u : UInt8) (hx : a.eval x = .int .u8 (u.toNat : Int)) :
    (execOp a.eval o).run Tryd.prog w = .ok (.value (.slice (some ⟨w.heap.size, 0, none⟩) 1 1)) (w.alloc (.cells (row 1 fun _ => u) 5)) := by
  unfold execOp
  simp only [ho, Sem.run_bind, List.map_toArray, List.map_cons, List.map_nil, hx, run_build8 u w, Result.andThen_ok, Sem.run_pure]
/-- append, of bytes, to a slice of the call's own: and what else may have changed. -/
theorem run_app2 {w : World} (ty : TypeId) (base : Nat) (v : Value) (n : Nat) (f : Nat → UInt8) (hown : Own w base v n f) (ad : Addr) (m c : Nat) (g : Nat → UInt8) (hA : ∀ j, j < m → w.cell? (ad.add j) = some (.int .u8 ((g j).toNat : Int))) (hb : n + m ≤ 140737488355328) (hbase : base ≤ w.heap.size) :
    ∃ v' w', (Builtin.append_ #[22, 22] ty #[v, .slice (some ad) m c]).run Tryd.prog w = .ok v' w' ∧ Own w' base v' (n + m) (both n f g) ∧ w.grownBy w' v.ownBlock := by
  obtain ⟨i0, hi, hz0, hz1, hz2⟩ := info_parts info8'
  obtain ⟨v', w', hr, h1, h2, _⟩ := run_append_own (P := Tryd.prog) w base 22 ty 5 i0 (.int .u8 0) 1 1 undB hi hz0 hz1 hz2 rfl (by decide) v n (row n f).toList hown ad m c (row m g).toList (by rw [Array.length_toList, row_size, Nat.mul_one]) (fun j u hu => by
    rw [Array.getElem?_toList] at hu
    have hj : j < m := by
      have := (Array.getElem?_eq_some_iff.1 hu).1
      simpa [row_size] using this
    rw [row_get m g j hj] at hu
    obtain rfl := Option.some.inj hu
    exact hA j hj) (fun u hu => Array.all_eq_true_iff_forall_mem.1 (row_one m g) u (by simpa using hu)) (by unfold maxLen; omega) (by omega) hbase
  rw [row_both] at h1
  exact ⟨v', w', hr, h1, h2⟩
theorem wpList_app2 {w : World} {ops : Array Oper} {rest : List Oper} {o : Oper} {a : Act} {Q : Exit → Act → World → Prop} (hgd : o.guard = none) (s x : Operand)
    (ho : o.op = .call { callee := .builtin .append, args := #[s, x], argTypes := #[22, 22] }) (base : Nat) (v : Value) (n : Nat) (f : Nat → UInt8) (hs : a.eval s = v) (hown : Own w base v n f)
    (ad : Addr) (m c : Nat) (g : Nat → UInt8) (hx : a.eval x = .slice (some ad) m c) (hA : ∀ j, j < m → w.cell? (ad.add j) = some (.int .u8 ((g j).toNat : Int))) (hb : n + m ≤ 140737488355328) (hbase : base ≤ w.heap.size)
    (h : ∀ v' w', Own w' base v' (n + m) (both n f g) → w.grownBy w' v.ownBlock → wpList Tryd.prog ops Q rest (a.put o.dst v') w') : wpList Tryd.prog ops Q (o :: rest) a w := by
  obtain ⟨v', w', hr, h1, h2⟩ := run_app2 o.type base v n f hown ad m c g hA hb hbase
  refine wpList_plain hgd fun K hK => ?_
  unfold Oper.wp execOp
  simp only [ho, resolve, invoke, builtin, Sem.run_bind, Sem.run_pure, Result.andThen_ok, List.map_toArray, List.map_cons, List.map_nil, hs, hx, hr]
  exact hK _ _ (h v' w' h1 h2)
theorem exec_app2 {o : Oper} {a : Act} {w w2 : World} (s x : Operand) (ho : o.op = .call { callee := .builtin .append, args := #[s, x], argTypes := #[22, 22] }) (u v r : Value) (hs : a.eval s = u) (hx : a.eval x = v)
    (hr : (Builtin.append_ #[22, 22] o.type #[u, v]).run Tryd.prog w = .ok r w2) : (execOp a.eval o).run Tryd.prog w = .ok (.value r) w2 := by
  unfold execOp
  simp only [ho, resolve, invoke, builtin, Sem.run_bind, Sem.run_pure, Result.andThen_ok, List.map_toArray, List.map_cons, List.map_nil, hs, hx, hr]
theorem Own.congr {W : World} {base n : Nat} {v : Value} {f f' : Nat → UInt8} (h : Own W base v n f) (hf : ∀ j, j < n → f j = f' j) : Own W base v n f' := by
  unfold Own at *
  rw [← row_congr hf]
  exact h
theorem Own.weaken {W : World} {base base' n : Nat} {v : Value} {f : Nat → UInt8} (h : Own W base v n f) (hb : base' ≤ base) : Own W base' v n f := by
  refine ⟨h.1, ?_⟩
  rcases h.2 with h | ⟨g, cap, cur, h1, h2, h3⟩
  · exact .inl h
  · exact .inr ⟨g, cap, cur, h1, by omega, h3⟩
theorem Own.kept_ {W W' : World} {base n : Nat} {v u : Value} {f : Nat → UInt8} (h : Own W base v n f) (hg : W.grownBy W' u.ownBlock) (hne : ∀ x, v.ownBlock = some x → u.ownBlock ≠ some x) : Own W' base v n f :=
  World.ownsRow.kept h hg (by
    cases hv : v.ownBlock with
    | none => exact .inl rfl
    | some x => exact .inr fun e => hne x hv e.symm)
theorem padB_congr {n : Nat} {f g : Nat → UInt8} (h : ∀ j, j < n → f j = g j) : padB n f = padB n g := by
  funext j
  unfold padB
  by_cases hj : j < n
  · rw [if_pos hj, if_pos hj, h j hj]
  · rw [if_neg hj, if_neg hj]
theorem Own.nil (W : World) (base : Nat) (f : Nat → UInt8) : Own W base (.slice none 0 0) 0 f := ⟨rfl, .inl ⟨rfl, rfl⟩⟩
end Go.Proofs.YtajifdnfibojfaaDoor

namespace Go.Proofs.YtajifdnfibojfaaDoor

/-- A and a part, one behind the other. -/
def bothF (A D : Nat → UInt8) : Nat → UInt8 := fun j => if j < 8 then A j else D (j - 8)
/-- A with a step's number put in. -/
def countF (A : Nat → UInt8) (t : Nat) : Nat → UInt8 := fun j => if j = 7 then xr (A 7) (UInt8.ofNat t) else A j
/-- What stands behind t steps: A, and the parts, of m bytes together; e encrypts a block. -/
def wrapR (e : (Nat → UInt8) → Nat → UInt8) (m : Nat) (A P : Nat → UInt8) : Nat → (Nat → UInt8) × (Nat → UInt8)
  | 0 => (A, P)
  | t + 1 =>
    let S := wrapR e m A P t
    let B := e (bothF S.1 fun j => S.2 (t * 8 % m + j))
    (countF B (t + 1), cpy (t * 8 % m) 8 S.2 fun j => B (8 + j))
end Go.Proofs.YtajifdnfibojfaaDoor

namespace Go.Proofs.YtajifdnfibojfaaDoor
open Go Go.RowKit
set_option maxRecDepth 100000

def PRow (w : World) (g : Nat) (t : TypeId) (n : Nat) (f : Nat → UInt8) : Prop :=
  ∃ cur, w.heap[g]? = some (.cells cur t (0, 0)) ∧ ∀ i, i < n → cur[i]? = some (by8 (f i))
section
variable {w w' : World} {g : Nat} {t : TypeId} {n : Nat} {f : Nat → UInt8}
theorem PRow.lt (h : PRow w g t n f) : g < w.heap.size := by
  obtain ⟨cur, h, _⟩ := h
  exact (Array.getElem?_eq_some_iff.1 h).1
theorem PRow.cell (h : PRow w g t n f) (i : Nat) (hi : i < n) : w.cell? ⟨g, i, none⟩ = some (.int .u8 ((f i).toNat : Int)) := by
  obtain ⟨cur, h, hc⟩ := h
  rw [cell_of_row w g i _ t (0, 0) h, hc i hi]; rfl
theorem PRow.frozen (h : PRow w g t n f) (i : Nat) : w.frozen? ⟨g, i, none⟩ = false := by
  obtain ⟨cur, h, _⟩ := h
  simp [World.frozen?, h]
theorem PRow.drew (h : PRow w g t n f) : PRow w.drew g t n f := h
theorem PRow.alloc (h : PRow w g t n f) (o : Obj) : PRow (w.alloc o) g t n f := by
  have hl := h.lt
  obtain ⟨cur, h, hc⟩ := h
  exact ⟨cur, (Below.heap_alloc w o g hl).trans h, hc⟩
theorem PRow.setRow_far (h : PRow w g t n f) {k : Nat} (hk : k ≠ g) (cs : Array Value) : PRow (w.setRow k cs) g t n f := by
  obtain ⟨cur, h, hc⟩ := h
  exact ⟨cur, (setRow_other w k g cs (Ne.symm hk)).trans h, hc⟩
theorem PRow.far (h : PRow w g t n f) {p : Addr} (hp : g ≠ p.block) (u : Value) : PRow (w.setCell p u) g t n f := by
  obtain ⟨cur, h, hc⟩ := h
  exact ⟨cur, (Below.heap_setCell w p u g hp).trans h, hc⟩
theorem PRow.below {B : Nat} (h : PRow w g t n f) (hb : Below B w w') (hg : g < B) : PRow w' g t n f := by
  obtain ⟨cur, h, hc⟩ := h
  exact ⟨cur, (hb.block g hg).trans h, hc⟩
theorem PRow.congr {f' : Nat → UInt8} (h : PRow w g t n f) (hf : ∀ i, i < n → f i = f' i) : PRow w g t n f' := by
  obtain ⟨cur, h, hc⟩ := h
  exact ⟨cur, h, fun i hi => by rw [hc i hi, hf i hi]⟩
theorem Row.prow (h : Row w g t n f) : PRow w g t n f := ⟨_, h, fun i hi => row_get n f i hi⟩
end
/-- copy into such a block. -/
theorem run_copy_P {P : Program} {w : World} (dT sT ty e : TypeId) (g off dLen dCap : Nat) (ad : Addr) (sLen sCap k : Nat) (t : TypeId) (n : Nat) (f fs : Nat → UInt8)
    (hu : P.underlying dT = some (.slice e)) (hsz : (P.info? e).map (·.size) = some 1) (hg : PRow w g t n f) (hk : k = Nat.min sLen dLen)
    (hsrc : ∀ j, j < k → w.cell? (ad.add j) = some (.int .u8 ((fs j).toNat : Int))) (hfit : off + k ≤ n) :
    ∃ cs, (Builtin.copy_ #[dT, sT] ty #[.slice (some ⟨g, off, none⟩) dLen dCap, .slice (some ad) sLen sCap]).run P w = .ok (goInt k) (w.setRow g cs) ∧ PRow (w.setRow g cs) g t n (cpy off k f fs) := by
  obtain ⟨cur, hg, hc⟩ := hg
  have hn : n ≤ cur.size := by
    rcases Nat.lt_or_ge cur.size n with h | h
    · have := hc cur.size h
      rw [Array.getElem?_eq_none (Nat.le_refl _)] at this
      cases this
    · exact h
  have hl : (row k fs).toList.length = k := by simp [row_size]
  have h := run_copy_row (P := P) w dT sT ty e g off dLen dCap ad sLen sCap cur t (row k fs).toList hu hsz hg (by rw [hl, hk]) (fun j v hv => by
      have hj : j < k := by
        have := (List.getElem?_eq_some_iff.1 hv).1
        rwa [hl] at this
      rw [Array.getElem?_toList, row_get k fs j hj] at hv
      obtain rfl := Option.some.inj hv
      exact hsrc j hj) (by rw [hl]; omega) (fun v hv => Array.all_eq_true_iff_forall_mem.1 (row_one k fs) v (by simpa using hv))
  refine ⟨_, by rw [hl] at h; exact h, _, setRow_heap w g _ _ t (0, 0) hg, fun i hi => ?_⟩
  rw [List.getElem?_toArray, List.append_assoc, List.getElem?_append, List.length_take, Array.length_toList, show min off cur.size = off by omega]
  unfold cpy
  by_cases h1 : i < off
  · rw [if_pos h1, List.getElem?_take, if_pos h1, Array.getElem?_toList, hc i hi, if_neg (by omega)]
  · rw [if_neg h1, List.getElem?_append, hl]
    by_cases h2 : i - off < k
    · rw [if_pos h2, Array.getElem?_toList, row_get k fs _ h2, if_pos (by omega)]
    · rw [if_neg h2, List.getElem?_drop, Array.getElem?_toList, show off + k + (i - off - k) = i by omega, hc i hi, if_neg (by omega)]
/-- The last operation of a region: bytes copied into such a block. -/
theorem Seq.copy_P {P : Program} {ops : Array Oper} {S : World → Prop} {Q : Exit → Act → World → Prop} {o : Oper} {a : Act} (hwant : Region.wanted o (yielded ops a.tmps) = true) (d s : Operand) (dT sT : TypeId)
    (ho : o.op = .call { callee := .builtin .copy, args := #[d, s], argTypes := #[dT, sT] }) (e : TypeId) (hu : P.underlying dT = some (.slice e)) (hsz : (P.info? e).map (·.size) = some 1)
    (g off dLen dCap : Nat) (ad : Addr) (sLen sCap : Nat) (hd : a.eval d = .slice (some ⟨g, off, none⟩) dLen dCap) (hs : a.eval s = .slice (some ad) sLen sCap)
    (t : TypeId) (n : Nat) (f : Nat → UInt8) (hg : ∀ w, S w → PRow w g t n f) (k : Nat) (fs : Nat → UInt8) (hk : k = Nat.min sLen dLen)
    (hsrc : ∀ w, S w → ∀ j, j < k → w.cell? (ad.add j) = some (.int .u8 ((fs j).toNat : Int))) (hfit : off + k ≤ n)
    (h : ∀ w, S w → ∀ cs, PRow (w.setRow g cs) g t n (cpy off k f fs) → Q .normal (a.put o.dst (goInt k)) (w.setRow g cs)) : Seq P ops Q S [o] a := by
  refine Seq.last hwant fun w hS => ?_
  obtain ⟨cs, hrun, hp⟩ := run_copy_P (P := P) dT sT o.type e g off dLen dCap ad sLen sCap k t n f fs hu hsz (hg w hS) hk (hsrc w hS) hfit
  unfold Oper.wp
  simp [execOp, ho, resolve, invoke, builtin, hd, hs, hrun, Result.andThen]
  exact h w hS cs hp
theorem Own.prow {w : World} {base n : Nat} {v : Value} {f : Nat → UInt8} (h : Own w base v n f) (hn : 0 < n) : ∃ g c, v = .slice (some ⟨g, 0, none⟩) n c ∧ base ≤ g ∧ PRow w g 5 n f ∧ n ≤ c ∧ c ≤ maxLen := by
  rcases h.2 with ⟨_, h⟩ | ⟨g, cap, cur, rfl, h2, h3, h4, h5, h6, h7⟩
  · omega
  · refine ⟨g, cap, rfl, h2, ⟨cur, h3, fun i hi => ?_⟩, h4, h5⟩
    have h8 : (cur.toList.take (n * 1))[i]? = (row n f).toList[i]? := by rw [h7]
    rw [Nat.mul_one, List.getElem?_take, if_pos hi, Array.getElem?_toList, Array.getElem?_toList, row_get n f i hi] at h8
    exact h8

/-- The step's number, shifted: what is put into byte k. -/
def cnt (t k : Nat) : UInt8 := if k = 7 then UInt8.ofNat t else 0
theorem cnt_int (t k : Nat) (ht : t < 256) (hk : k < 8) : (t : Int) / 2 ^ (56 - 8 * k) = ((cnt t k).toNat : Int) := by
  unfold cnt
  by_cases h : k = 7
  · subst h
    rw [if_pos rfl, UInt8.toNat_ofNat']
    simp
    omega
  · rw [if_neg h]
    have h2 : (2 : Nat) ^ 8 ≤ 2 ^ (56 - 8 * k) := Nat.pow_le_pow_right (by omega) (by omega)
    have h3 : t / 2 ^ (56 - 8 * k) = 0 := Nat.div_eq_of_lt (by omega)
    have h4 : ((t / 2 ^ (56 - 8 * k) : Nat) : Int) = 0 := by rw [h3]; rfl
    rw [Int.natCast_ediv] at h4
    simpa using h4
theorem cnt_xr (B : Nat → UInt8) (t k : Nat) : xr (B k) (cnt t k) = countF B t k := by
  unfold cnt countF
  by_cases h : k = 7
  · subst h; rw [if_pos rfl, if_pos rfl]
  · rw [if_neg h, if_neg h]; exact UInt8.xor_zero
theorem cnt_wrap (t k : Nat) : IntKind.u8.wrap ((cnt t k).toNat : Int) = ((cnt t k).toNat : Int) := by
  rw [IntKind.wrap_u8']
  have := (cnt t k).toNat_lt
  omega
/-- A step of wrapping, on A and the parts, one behind the other. -/
theorem wrap_step (C B A P : Nat → UInt8) (at_ i : Nat) : cpy (8 + at_) 8 (cpy 0 8 (bothF A P) C) (fun j => B (8 + j)) i = bothF C (cpy at_ 8 P fun j => B (8 + j)) i := by
  unfold bothF
  show (if 8 + at_ ≤ i ∧ i < 8 + at_ + 8 then B (8 + (i - (8 + at_))) else if 0 ≤ i ∧ i < 0 + 8 then C (i - 0) else if i < 8 then A i else P (i - 8)) = (if i < 8 then C i else if at_ ≤ i - 8 ∧ i - 8 < at_ + 8 then B (8 + (i - 8 - at_)) else P (i - 8))
  by_cases e : i < 8
  · rw [if_neg (by omega), if_pos (by omega), if_pos e]; rfl
  · by_cases e2 : 8 + at_ ≤ i ∧ i < 8 + at_ + 8
    · rw [if_pos e2, if_neg e, if_pos (by omega), show i - (8 + at_) = i - 8 - at_ by omega]
    · rw [if_neg e2, if_neg (by omega), if_neg e, if_neg e, if_neg (by omega)]
end Go.Proofs.YtajifdnfibojfaaDoor

namespace Go.Proofs.YtajifdnfibojfaaDoor

/-- The bit k. -/
def bitv (x : UInt8) (k : Nat) : UInt8 := shr8 x k &&& 1
/-- The first r bits. -/
def msk (r : Nat) : UInt8 := UInt8.ofNat (256 - 2 ^ (8 - r))
/-- The first m bits of a block. -/
def bitsB (C : Nat → UInt8) (m : Nat) : Nat → UInt8 := fun j => if j < m / 8 then C j else if j = m / 8 then C j &&& msk (m % 8) else 0
theorem bits_zero (C : Nat → UInt8) : bitsB C 0 = fun _ => 0 := by
  funext j
  unfold bitsB
  rw [if_neg (by omega)]
  by_cases h : j = 0
  · rw [if_pos (by omega), show msk (0 % 8) = 0 from by decide]
    simp
  · rw [if_neg (by omega)]
theorem bits_all (C : Nat → UInt8) (j : Nat) (h : j < 16) : bitsB C 128 j = C j := if_pos (by omega)
theorem u8r_all {Q : UInt8 → Nat → Prop} (h : ∀ n : Fin 256, ∀ r : Fin 8, Q (UInt8.ofNat n.val) r.val) (x : UInt8) (r : Nat) (hr : r < 8) : Q x r := by
  have := h ⟨x.toNat, x.toNat_lt⟩ ⟨r, hr⟩
  simpa using this
theorem u8rs_all {Q : UInt8 → Nat → Nat → Prop} (h : ∀ n : Fin 256, ∀ r s : Fin 8, Q (UInt8.ofNat n.val) r.val s.val) (x : UInt8) (r s : Nat) (hr : r < 8) (hs : s < 8) : Q x r s := by
  have := h ⟨x.toNat, x.toNat_lt⟩ ⟨r, hr⟩ ⟨s, hs⟩
  simpa using this
theorem msk_step (c : UInt8) (r : Nat) (hr : r < 8) : (c &&& msk r ||| bitv c (7 - r) <<< UInt8.ofNat (7 - r)) = if r = 7 then c else c &&& msk (r + 1) :=
  u8r_all (Q := fun c r => (c &&& msk r ||| bitv c (7 - r) <<< UInt8.ofNat (7 - r)) = if r = 7 then c else c &&& msk (r + 1)) (by decide +kernel) c r hr
theorem bitv_test (x : UInt8) (k : Nat) (hk : k < 8) : bitv x k = if x.toNat.testBit k then 1 else 0 :=
  u8r_all (Q := fun x k => bitv x k = if x.toNat.testBit k then 1 else 0) (by decide +kernel) x k hk
theorem bitv_or (a b : UInt8) (k : Nat) (hk : k < 8) : bitv (a ||| b) k = bitv a k ||| bitv b k := by
  rw [bitv_test _ k hk, bitv_test _ k hk, bitv_test _ k hk, UInt8.toNat_or, Nat.testBit_or]
  cases a.toNat.testBit k <;> cases b.toNat.testBit k <;> decide
theorem bitv_shl (x : UInt8) (s r : Nat) (hs : s < 8) (hr : r < 8) : bitv (x <<< UInt8.ofNat s) (7 - r) = if s + r < 8 then bitv x (7 - (s + r)) else 0 :=
  u8rs_all (Q := fun x s r => bitv (x <<< UInt8.ofNat s) (7 - r) = if s + r < 8 then bitv x (7 - (s + r)) else 0) (by decide +kernel) x s r hs hr
theorem bitv_shr (x : UInt8) (s r : Nat) (hs : s < 8) (hr : r < 8) : bitv (shr8 x (8 - s)) (7 - r) = if s + r < 8 then 0 else bitv x (15 - (s + r)) :=
  u8rs_all (Q := fun x s r => bitv (shr8 x (8 - s)) (7 - r) = if s + r < 8 then 0 else bitv x (15 - (s + r))) (by decide +kernel) x s r hs hr
theorem cut_bit (S : Nat → UInt8) (bt q r q2 r2 : Nat) (hr : r < 8) (hr2 : r2 < 8) (h : bt + (8 * q + r) = 8 * q2 + r2) : bitv (cutB S bt q) (7 - r) = bitv (S q2) (7 - r2) := by
  have hs : bt % 8 < 8 := Nat.mod_lt _ (by omega)
  unfold cutB
  rw [bitv_or _ _ _ (by omega), bitv_shl _ _ _ hs hr, bitv_shr _ _ _ hs hr]
  by_cases h8 : bt % 8 + r < 8
  · rw [if_pos h8, if_pos h8, show bt / 8 + q = q2 by omega, show bt % 8 + r = r2 by omega]
    simp
  · rw [if_neg h8, if_neg h8, show bt / 8 + q + 1 = q2 by omega, show 15 - (bt % 8 + r) = 7 - r2 by omega]
    simp
theorem bits_step (C : Nat → UInt8) (q r : Nat) (hr : r < 8) : bitsB C (8 * q + r + 1) = fun j => if j = q then bitsB C (8 * q + r) q ||| bitv (C q) (7 - r) <<< UInt8.ofNat (7 - r) else bitsB C (8 * q + r) j := by
  have e : bitsB C (8 * q + r) q = C q &&& msk r := by
    unfold bitsB
    rw [if_neg (by omega), if_pos (by omega), show (8 * q + r) % 8 = r by omega]
  funext j
  rw [e, msk_step _ r hr]
  unfold bitsB
  by_cases h7 : r = 7
  · subst h7
    rw [if_pos rfl, show (8 * q + 7 + 1) / 8 = q + 1 by omega, show (8 * q + 7 + 1) % 8 = 0 by omega, show (8 * q + 7) / 8 = q by omega, show (8 * q + 7) % 8 = 7 by omega]
    by_cases h : j = q
    · rw [if_pos (by omega), if_pos h, h]
    · rw [if_neg h]
      by_cases h1 : j < q
      · rw [if_pos (by omega), if_pos h1]
      · rw [if_neg (by omega), if_neg h1, if_neg h]
        by_cases h2 : j = q + 1
        · rw [if_pos h2, show msk 0 = 0 from by decide]
          simp
        · rw [if_neg h2]
  · rw [if_neg h7, show (8 * q + r + 1) / 8 = q by omega, show (8 * q + r + 1) % 8 = r + 1 by omega, show (8 * q + r) / 8 = q by omega, show (8 * q + r) % 8 = r by omega]
    by_cases h : j = q
    · rw [if_neg (by omega), if_pos h, if_pos h, h]
    · rw [if_neg h, if_neg h, if_neg h]
end Go.Proofs.YtajifdnfibojfaaDoor
