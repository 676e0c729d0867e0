/- The program's raise: squared so many times (mkfinv.py writes this text). -/
import Derived.Test.YtchojbhmfjibmaaFTimes
namespace Go.Proofs.Ytchojbhmfjibmaa
open Go Go.RowKit
set_option maxRecDepth 100000

/-- Squared k times. -/
def rs (n : Nat) : Nat → Nat
  | 0 => n
  | m + 1 => tm (rs n m) (rs n m)
theorem rs_lt {n : Nat} (hn : n < 2 ^ 256) : ∀ k, rs n k < 2 ^ 256
  | 0 => hn
  | k + 1 => tm_lt (rs_lt hn k) (rs_lt hn k)

set_option maxHeartbeats 4000000 in
theorem raise_c (n k : Nat) (hn : n < 2 ^ 256) (hk : k < 1000000) (w : World) : Calls Try.prog 57 #[.agg (row64 4 (words n)), .int .i64 (k : Int)] w fun e w' =>
    e = .returned (.agg (row64 4 (words (rs n k)))) ∧ Below w.heap.size w w' := by
  go_enter Try.func57, Try.ntmps57
  go_wp2
  rw [zeroNb]
  have h1 := (Row64.new w 59 4 (words n)).alloc (.cells (row64 4 fun _ => 0) 59)
  have h2 := Row64.new (w.alloc (.cells (row64 4 (words n)) 59)) 59 4 fun _ => 0
  have hb : Below w.heap.size w ((w.alloc (.cells (row64 4 (words n)) 59)).alloc (.cells (row64 4 fun _ => 0) 59)) := ((Below.refl _ _).alloc (Nat.le_refl _) _).alloc (by simp) _
  simp only [World.size_alloc] at h2
  have hall := And.intro h1 (And.intro h2 hb)
  clear h1 h2 hb
  revert hall
  generalize (w.alloc (.cells (row64 4 (words n)) 59)).alloc (.cells (row64 4 fun _ => 0) 59) = w1
  intro hall
  go_loopw [6] (fun i_ wr => ∃ m : Nat, m ≤ k ∧ i_ = .int .i64 m ∧ Row64 wr w.heap.size 59 4 (words (rs n m)) ∧ Row64 wr (w.heap.size + 1) 59 4 (fun _ => 0) ∧ Below w.heap.size w wr) (fun i_ _ => k - (intOf i_).toNat)
  case atStart =>
    obtain ⟨h1, h2, hb⟩ := hall
    exact ⟨0, by omega, rfl, h1, h2, hb⟩
  case round =>
    clear hall
    obtain ⟨m, hm, rfl, h1, h2, hb⟩ := hrel
    have ht := fun W => times_c (rs n m) (rs n m) (rs_lt hn m) (rs_lt hn m) W
    by_cases hmk : m < k
    · have i1 : (m : Int) < (k : Int) := by omega
      have hstep : rs n (m + 1) = tm (rs n m) (rs n m) := rfl
      generalize hv : tm (rs n m) (rs n m) = v at *
      have HV := Lib.hid hstep
      clear hstep hv
      generalize rs n m = u at *
      go_wp2_with (first | (refine wpList_load_Blk rfl 59 _ rfl w.heap.size rfl 59 _ h1 isRowNb (sizeNbR _) ?_) | (go_at_call 46; refine (ht _).mono ?_; rintro e w5 ⟨rfl, hw5⟩; have h1 := h1.below hw5 h1.lt; have h2 := h2.below hw5 h2.lt; have hb := hb.trans (hw5.mono hb.size)) | (refine wpList_store_Row64 rfl 59 _ _ rfl w.heap.size rfl 59 4 _ _ rfl h1 sizeNb ?_))
      refine ⟨⟨m + 1, by omega, by go_num, by rw [HV.out]; exact h1.setRow _, h2.setRow_far (by omega) _, below_setRow8 hb (by omega) _⟩, ?_⟩
      first | (simp [intOf]; done) | (simp [intOf]; omega)
    · obtain rfl : m = k := by omega
      have i1 : ¬ (m : Int) < (m : Int) := by omega
      go_wp2_with (first | (refine wpList_load_Blk rfl 59 _ rfl w.heap.size rfl 59 _ h1 isRowNb (sizeNbR _) ?_) | (refine wpList_store_Row64 rfl 59 _ _ rfl (w.heap.size + 1) rfl 59 4 _ _ rfl h2 sizeNb ?_))
      exact ret_W4 rfl rfl (w.heap.size + 1) 59 _ rfl (h2.setRow _) isRowNb (sizeNbR _) ⟨rfl, below_setRow8 hb (by omega) _⟩
end Go.Proofs.Ytchojbhmfjibmaa
