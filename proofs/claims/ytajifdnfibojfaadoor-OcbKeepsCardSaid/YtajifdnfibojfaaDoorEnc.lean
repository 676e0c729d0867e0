/- A block encrypted, by the keys of its rounds. -/
import Derived.Test.YtajifdnfibojfaaDoorBoxes
import Derived.Test.YtajifdnfibojfaaDoorMix
import Derived.Test.YtajifdnfibojfaaDoorKeysB
namespace Go.Proofs.YtajifdnfibojfaaDoor
open Go Go.RowKit
set_option maxRecDepth 100000

/-- While a block is worked on: the box, the keys, the block, the result's place; nothing else has turned. -/
def EncS (bx : Nat) (w0 : World) (g q : Nat) (s W cur : Nat → UInt8) (w' : World) : Prop :=
  Row w' bx 76 256 s ∧ Row w' g 32 (16 * (q + 2)) W ∧ Row w' w0.heap.size 32 16 cur ∧ Row w' (w0.heap.size + 1) 32 16 (fun _ => 0) ∧ Below w0.heap.size w0 w'
theorem EncS.below {bx : Nat} {w0 w1 w2 : World} {g q : Nat} {s W cur : Nat → UInt8} (h : EncS bx w0 g q s W cur w1) (hb : Below w1.heap.size w1 w2) : EncS bx w0 g q s W cur w2 :=
  ⟨h.1.below hb h.1.lt, h.2.1.below hb h.2.1.lt, h.2.2.1.below hb h.2.2.1.lt, h.2.2.2.1.below hb h.2.2.2.1.lt, h.2.2.2.2.trans (hb.mono h.2.2.2.2.size)⟩
theorem EncS.drew {bx : Nat} {w0 w1 : World} {g q : Nat} {s W cur : Nat → UInt8} (h : EncS bx w0 g q s W cur w1) : EncS bx w0 g q s W cur w1.drew :=
  ⟨h.1.drew, h.2.1.drew, h.2.2.1.drew, h.2.2.2.1.drew, h.2.2.2.2.drew⟩
theorem EncS.put {bx : Nat} {w0 w1 : World} {g q : Nat} {s W cur : Nat → UInt8} (h : EncS bx w0 g q s W cur w1) (hz : bx < w0.heap.size) (hg : g < w0.heap.size) (f : Nat → UInt8) : EncS bx w0 g q s W f (w1.setRow w0.heap.size (row 16 f)) :=
  ⟨h.1.setRow_far (by omega) _, h.2.1.setRow_far (by omega) _, h.2.2.1.setRow f, h.2.2.2.1.setRow_far (by omega) _, below_setRow8 h.2.2.2.2 (by omega) _⟩
theorem EncS.alloc {bx : Nat} {w0 w1 : World} {g q : Nat} {s W cur : Nat → UInt8} (h : EncS bx w0 g q s W cur w1) (o : Obj) : EncS bx w0 g q s W cur (w1.alloc o) :=
  ⟨h.1.alloc _, h.2.1.alloc _, h.2.2.1.alloc _, h.2.2.2.1.alloc _, h.2.2.2.2.alloc h.2.2.2.2.size _⟩
theorem EncS.setRow {bx : Nat} {w0 w1 : World} {g q : Nat} {s W cur : Nat → UInt8} (h : EncS bx w0 g q s W cur w1) {k : Nat} (hk : w0.heap.size + 1 < k) (hz : bx < w0.heap.size) (hg : g < w0.heap.size) (cs : Array Value) : EncS bx w0 g q s W cur (w1.setRow k cs) :=
  ⟨h.1.setRow_far (by omega) _, h.2.1.setRow_far (by omega) _, h.2.2.1.setRow_far (by omega) _, h.2.2.2.1.setRow_far (by omega) _, below_setRow8 h.2.2.2.2 (by omega) _⟩

theorem zero16z : (Tryd.prog.info? 32).bind (·.zero) = some (.agg (row 16 fun _ => 0)) := by kernel_rfl

set_option maxRecDepth 100000 in
set_option maxHeartbeats 8000000 in
theorem encrypt_c (s W b : Nat → UInt8) (g q : Nat) (w : World) (hq : q ≤ 20) (hs : Row w 0 76 256 s) (hW : Row w g 32 (16 * (q + 2)) W) :
    Calls Tryd.prog 42 #[.slice (some ⟨g, 0, none⟩) (q + 2) (q + 2), .agg (row 16 b)] w fun e w' => e = .returned (.agg (row 16 (enc s (q + 1) W b))) ∧ Below w.heap.size w w' := by
  have hz0 := hs.lt
  have hg0 := hW.lt
  go_enter Tryd.func42, Tryd.ntmps42
  go_wp2
  rw [zero16]
  obtain ⟨h0, h1, h3⟩ := two_new w 32 b (fun _ => 0) 16 16 32
  have hS0 : EncS 0 w g q s W b ((w.alloc (.cells (row 16 b) 32)).alloc (.cells (row 16 fun _ => 0) 32)) := ⟨hs.below h3 hz0, hW.below h3 hg0, h0, h1, h3⟩
  clear h0 h1 h3
  revert hS0
  generalize (w.alloc (.cells (row 16 b) 32)).alloc (.cells (row 16 fun _ => 0) 32) = w1
  intro hS0
  rw [show ((q : Int) + 2 - 1) = (q : Int) + 1 by omega]
  refine region_seq (fun w' => EncS 0 w g q s W b w') mixedOrders (by kernel_rfl) (by simp) hS0.drew ?_
  clear hS0
  refine Seq.next (.agg (row 16 b)) (Sure.load_Row rfl 32 _ rfl w.heap.size rfl 32 16 _ _ (fun w' hS => hS.2.2.1) und16 size16) ?_
  simp only [Act.put, List.setIfInBounds_toArray, List.set_cons_zero, List.set_cons_succ]
  refine Seq.next ?_ (Sure.val rfl (fun w' hS => ?_)) ?_
  rotate_left 1
  · clear hS
    have i0 : (0 : Int) < (q : Int) + 2 := by omega
    go_simp
    rfl
  simp only [Act.put, List.setIfInBounds_toArray, List.set_cons_zero, List.set_cons_succ]
  refine Seq.next ?_ (Sure.val rfl (fun w' hS => ?_)) ?_
  rotate_left 1
  · clear hS
    have i0 : (0 : Int) < (q : Int) + 2 := by omega
    go_simp
    rfl
  simp only [Act.put, List.setIfInBounds_toArray, List.set_cons_zero, List.set_cons_succ]
  refine Seq.next (.agg (row 16 fun j => W (0 + j))) (Sure.load_Mid rfl 32 _ rfl g (0) rfl 32 (16 * (q + 2)) 16 W _ (fun w' hS => hS.2.1) (by omega) und16 size16) ?_
  simp only [Act.put, List.setIfInBounds_toArray, List.set_cons_zero, List.set_cons_succ]
  refine Seq.next (.agg (row 16 (added b (fun j => W (0 + j))))) (Sure.call (f := 52) (args := #[.agg (row 16 (b)), .agg (row 16 (fun j => W (0 + j)))]) rfl (fun w' => by go_simp) (fun w' hS => (added_c _ _ w').mono fun e w'' h => ⟨h.1, hS.below h.2⟩)) ?_
  simp only [Act.put, List.setIfInBounds_toArray, List.set_cons_zero, List.set_cons_succ]
  refine Seq.store_Row rfl 32 _ _ rfl w.heap.size rfl 32 16 (b) (added b (fun j => W (0 + j))) rfl (fun w' hS => hS.2.2.1) size16 fun w' hS => ?_
  have hS1 := hS.put hz0 hg0 (added b (fun j => W (0 + j)))
  clear hS
  revert hS1
  generalize w'.setRow w.heap.size (row 16 (added b fun j => W (0 + j))) = w2
  rw [show (added b fun j => W (0 + j)) = encR s W b 0 by funext j; simp [encR, added, rk]]
  intro hS0
  simp only [Act.put]
  clear hs hW
  go_wp2_with (fail)
  go_loopw [20] (fun i wr => ∃ m : Nat, m ≤ q ∧ i = .int .i64 m ∧ EncS 0 w g q s W (encR s W b m) wr) (fun i _ => q - (intOf i).toNat)
  case atStart => exact ⟨0, by omega, rfl, hS0⟩
  case round =>
    obtain ⟨m, hm, rfl, hS⟩ := hrel
    clear hS0
    by_cases hlt : m < q
    · have hlt0 := hS.2.2.2.1.lt
      go_wp2_with (first | (refine wpList_load_Mid rfl 32 _ rfl g (16 + m * 16) rfl 32 (16 * (q + 2)) 16 _ _ hS.2.1 (by omega) und16 size16 ?_) | (refine wpList_alloc_Row rfl 32 rfl 16 zero16z ?_) | (refine wpList_store_Row rfl 32 _ _ rfl _ rfl 32 16 (fun _ => 0) _ rfl (Row.new _ _ _ _) size16 ?_))
      have hS1 := (hS.alloc (.cells (row 16 fun _ => 0) 32)).setRow (k := wr.heap.size) hlt0 hz0 hg0 (row 16 fun j => W (16 + m * 16 + j))
      have hk1 := (Row.new wr 32 16 (fun _ => 0)).setRow (fun j => W (16 + m * 16 + j))
      clear hS
      revert hS1 hk1
      generalize (wr.alloc (.cells (row 16 fun _ => 0) 32)).setRow wr.heap.size (row 16 fun j => W (16 + m * 16 + j)) = w3
      intro hS1 hk1
      obtain ⟨kf, hkf⟩ : ∃ kf : Nat → UInt8, kf = fun j => W (16 + m * 16 + j) := ⟨_, rfl⟩
      obtain ⟨cur, hcur⟩ : ∃ cur : Nat → UInt8, cur = encR s W b m := ⟨_, rfl⟩
      rw [← hkf] at hk1
      rw [← hcur] at hS1
      rw [← hkf]
      have HK := Lib.hid hkf
      have HC := Lib.hid hcur
      clear hkf hcur
      refine region_seq (fun w' => EncS 0 w g q s W cur w' ∧ Row w' wr.heap.size 32 16 kf) mixedOrders (by kernel_rfl) (by simp) ⟨hS1.drew, hk1.drew⟩ ?_
      clear hS1 hk1
      refine Seq.next (.agg (row 16 cur)) (Sure.load_Row rfl 32 _ rfl w.heap.size rfl 32 16 _ _ (fun w' hS => hS.1.2.2.1) und16 size16) ?_
      simp only [Act.put, List.setIfInBounds_toArray, List.set_cons_zero, List.set_cons_succ]
      refine Seq.next (.agg (row 16 (boxed s cur))) (Sure.call (f := 55) (args := #[.agg (row 16 (cur))]) rfl (fun w' => by go_simp) (fun w' hS => (boxed_c s _ w' hS.1.1).mono fun e w'' h => ⟨h.1, hS.1.below h.2, hS.2.below h.2 hS.2.lt⟩)) ?_
      simp only [Act.put, List.setIfInBounds_toArray, List.set_cons_zero, List.set_cons_succ]
      refine Seq.next (.agg (row 16 (shifted (boxed s cur)))) (Sure.call (f := 54) (args := #[.agg (row 16 (boxed s cur))]) rfl (fun w' => by go_simp) (fun w' hS => (shifted_c _ w').mono fun e w'' h => ⟨h.1, hS.1.below h.2, hS.2.below h.2 hS.2.lt⟩)) ?_
      simp only [Act.put, List.setIfInBounds_toArray, List.set_cons_zero, List.set_cons_succ]
      refine Seq.next (.agg (row 16 (mixed (shifted (boxed s cur))))) (Sure.call (f := 53) (args := #[.agg (row 16 (shifted (boxed s cur)))]) rfl (fun w' => by go_simp) (fun w' hS => (mixed_c _ w').mono fun e w'' h => ⟨h.1, hS.1.below h.2, hS.2.below h.2 hS.2.lt⟩)) ?_
      simp only [Act.put, List.setIfInBounds_toArray, List.set_cons_zero, List.set_cons_succ]
      refine Seq.next (.agg (row 16 kf)) (Sure.load_Row rfl 32 _ rfl wr.heap.size rfl 32 16 _ _ (fun w' hS => hS.2) und16 size16) ?_
      simp only [Act.put, List.setIfInBounds_toArray, List.set_cons_zero, List.set_cons_succ]
      refine Seq.next (.agg (row 16 (added (mixed (shifted (boxed s cur))) kf))) (Sure.call (f := 52) (args := #[.agg (row 16 (mixed (shifted (boxed s cur)))), .agg (row 16 (kf))]) rfl (fun w' => by go_simp) (fun w' hS => (added_c _ _ w').mono fun e w'' h => ⟨h.1, hS.1.below h.2, hS.2.below h.2 hS.2.lt⟩)) ?_
      simp only [Act.put, List.setIfInBounds_toArray, List.set_cons_zero, List.set_cons_succ]
      refine Seq.store_Row rfl 32 _ _ rfl w.heap.size rfl 32 16 (cur) (added (mixed (shifted (boxed s cur))) kf) rfl (fun w' hS => hS.1.2.2.1) size16 fun w' hS => ?_
      have hS2 := hS.1.put hz0 hg0 (added (mixed (shifted (boxed s cur))) kf)
      rw [show added (mixed (shifted (boxed s cur))) kf = encR s W b (m + 1) by
        rw [HK.out, HC.out]
        show _ = added (mixed (shifted (boxed s (encR s W b m)))) (rk W (m + 1))
        congr 1
        funext j
        show _ = W (16 * (m + 1) + j)
        congr 1
        omega] at hS2 ⊢
      clear hS
      revert hS2
      generalize w'.setRow w.heap.size (row 16 (encR s W b (m + 1))) = w4
      intro hS2
      simp only [Act.put]
      go_wp2
      go_roundw
      case rel => exact ⟨m + 1, by omega, by go_num, hS2⟩
      case measure => simp [intOf]; omega
    · obtain rfl : m = q := by omega
      go_wp2_with (fail)
      obtain ⟨cur, hcur⟩ : ∃ cur : Nat → UInt8, cur = encR s W b m := ⟨_, rfl⟩
      rw [← hcur] at hS
      have HC := Lib.hid hcur
      clear hcur
      refine region_seq (fun w' => EncS 0 w g m s W cur w') mixedOrders (by kernel_rfl) (by simp) hS.drew ?_
      clear hS
      refine Seq.next (.agg (row 16 cur)) (Sure.load_Row rfl 32 _ rfl w.heap.size rfl 32 16 _ _ (fun w' hS => hS.2.2.1) und16 size16) ?_
      simp only [Act.put, List.setIfInBounds_toArray, List.set_cons_zero, List.set_cons_succ]
      refine Seq.next (.agg (row 16 (boxed s cur))) (Sure.call (f := 55) (args := #[.agg (row 16 (cur))]) rfl (fun w' => by go_simp) (fun w' hS => (boxed_c s _ w' hS.1).mono fun e w'' h => ⟨h.1, hS.below h.2⟩)) ?_
      simp only [Act.put, List.setIfInBounds_toArray, List.set_cons_zero, List.set_cons_succ]
      refine Seq.next (.agg (row 16 (shifted (boxed s cur)))) (Sure.call (f := 54) (args := #[.agg (row 16 (boxed s cur))]) rfl (fun w' => by go_simp) (fun w' hS => (shifted_c _ w').mono fun e w'' h => ⟨h.1, hS.below h.2⟩)) ?_
      simp only [Act.put, List.setIfInBounds_toArray, List.set_cons_zero, List.set_cons_succ]
      refine Seq.next ?_ (Sure.val rfl (fun w' hS => ?_)) ?_
      rotate_left 1
      · clear hS
        have i0 : (0 : Int) ≤ (m : Int) + 1 := by omega
        have i1 : ((m : Int) + 1) < (m : Int) + 2 := by omega
        have i2 : ((m : Int) + 1).toNat = m + 1 := by omega
        go_simp
        rfl
      simp only [Act.put, List.setIfInBounds_toArray, List.set_cons_zero, List.set_cons_succ]
      refine Seq.next ?_ (Sure.val rfl (fun w' hS => ?_)) ?_
      rotate_left 1
      · clear hS
        have i0 : (0 : Int) ≤ (m : Int) + 1 := by omega
        have i1 : ((m : Int) + 1) < (m : Int) + 2 := by omega
        have i2 : ((m : Int) + 1).toNat = m + 1 := by omega
        go_simp
        rfl
      simp only [Act.put, List.setIfInBounds_toArray, List.set_cons_zero, List.set_cons_succ]
      refine Seq.next ?_ (Sure.val rfl (fun w' hS => ?_)) ?_
      rotate_left 1
      · clear hS
        have i0 : (0 : Int) ≤ (m : Int) + 1 := by omega
        have i1 : ((m : Int) + 1) < (m : Int) + 2 := by omega
        have i2 : ((m : Int) + 1).toNat = m + 1 := by omega
        go_simp
        rfl
      simp only [Act.put, List.setIfInBounds_toArray, List.set_cons_zero, List.set_cons_succ]
      refine Seq.next (.agg (row 16 fun j => W ((m + 1) * 16 + j))) (Sure.load_Mid rfl 32 _ rfl g ((m + 1) * 16) rfl 32 (16 * (m + 2)) 16 W _ (fun w' hS => hS.2.1) (by omega) und16 size16) ?_
      simp only [Act.put, List.setIfInBounds_toArray, List.set_cons_zero, List.set_cons_succ]
      refine Seq.next (.agg (row 16 (added (shifted (boxed s cur)) (fun j => W ((m + 1) * 16 + j))))) (Sure.call (f := 52) (args := #[.agg (row 16 (shifted (boxed s cur))), .agg (row 16 (fun j => W ((m + 1) * 16 + j)))]) rfl (fun w' => by go_simp) (fun w' hS => (added_c _ _ w').mono fun e w'' h => ⟨h.1, hS.below h.2⟩)) ?_
      simp only [Act.put, List.setIfInBounds_toArray, List.set_cons_zero, List.set_cons_succ]
      refine Seq.store_Row rfl 32 _ _ rfl (w.heap.size + 1) rfl 32 16 (fun _ => 0) (added (shifted (boxed s cur)) (fun j => W ((m + 1) * 16 + j))) rfl (fun w' hS => hS.2.2.2.1) size16 fun w' hS => ?_
      have hr := hS.2.2.2.1.setRow (added (shifted (boxed s cur)) (fun j => W ((m + 1) * 16 + j)))
      have hb := below_setRow8 hS.2.2.2.2 (k := w.heap.size + 1) (by omega) (row 16 (added (shifted (boxed s cur)) (fun j => W ((m + 1) * 16 + j))))
      clear hS
      revert hr hb
      generalize w'.setRow (w.heap.size + 1) (row 16 (added (shifted (boxed s cur)) (fun j => W ((m + 1) * 16 + j)))) = w4
      intro hr hb
      simp only [Act.put]
      go_wp2
      refine ret_Row rfl rfl _ _ 16 _ _ rfl hr und16 size16 ⟨?_, hb⟩
      rw [HC.out]
      unfold enc
      rw [show m + 1 - 1 = m from rfl, show (fun j => W ((m + 1) * 16 + j)) = rk W (m + 1) by funext j; unfold rk; rw [Nat.mul_comm]]

end Go.Proofs.YtajifdnfibojfaaDoor
