/- The document's fold: so many times 2^256 brought in as 38s. -/
import Derived.Test.YtchojbhmfjibmaaBt
import Derived.LoopTactic
import Derived.Outline
import Derived.Deep.DeepCutAuto
namespace Go.Proofs.Ytchojbhmfjibmaa
open Go Go.RowKit
set_option maxRecDepth 100000

theorem und64 : Try.prog.underlying 34 = some (.int .u64) := by kernel_rfl
theorem size64 : (Try.prog.info? 34).map (·.size) = some 1 := by kernel_rfl
theorem undNum : Try.prog.underlying 36 = some (.array 4 34) := by kernel_rfl
theorem sizeNum : (Try.prog.info? 36).map (·.size) = some 4 := by kernel_rfl
theorem zNum : (Try.prog.info? 36).bind (·.zero) = some (.agg (row64 4 fun _ => 0)) := by kernel_rfl

theorem zero4 : (#[Value.int IntKind.u64 0, Value.int IntKind.u64 0, Value.int IntKind.u64 0, Value.int IntKind.u64 0] : Array Value) = row64 4 (fun _ => 0) := by rfl

/-- A row's words are those of a number. -/
theorem Row64.setW {w : World} {g : Nat} {t : TypeId} {n : Nat} {f : Nat → UInt64} (h : Row64 w g t n f) (i v k : Nat) :
    Row64 (w.setCell ⟨g, i, none⟩ (.int .u64 (wd v k : Int))) g t n fun j => if j = i then words v k else f j := by
  have := h.set_ i (words v k)
  rw [words_int] at this
  exact this
theorem Row64.cellW {w : World} {g : Nat} {t : TypeId} {n v : Nat} (h : Row64 w g t n (words v)) (i : Nat) (hi : i < n) : w.cell? ⟨g, i, none⟩ = some (.int .u64 (wd v i : Int)) := by
  rw [h.cell i hi, words_int]
/-- The number that four cells are. -/
def cellN (w : World) (g i : Nat) : Nat := match w.cell? ⟨g, i, none⟩ with
  | some (.int _ x) => x.toNat
  | _ => 0
def valAt (w : World) (g : Nat) : Nat := cellN w g 0 + cellN w g 1 * 2 ^ 64 + cellN w g 2 * 2 ^ 128 + cellN w g 3 * 2 ^ 192
theorem wd_sum {v : Nat} (h : v < 2 ^ 256) : wd v 0 + wd v 1 * 2 ^ 64 + wd v 2 * 2 ^ 128 + wd v 3 * 2 ^ 192 = v := by
  unfold wd; omega
theorem valAt_row {w : World} {g : Nat} {t : TypeId} {v : Nat} (h : Row64 w g t 4 (words v)) (hv : v < 2 ^ 256) : valAt w g = v := by
  unfold valAt cellN
  rw [h.cellW 0 (by omega), h.cellW 1 (by omega), h.cellW 2 (by omega), h.cellW 3 (by omega)]
  exact wd_sum hv

theorem add64_w0 (a b : Nat) (w : World) : (callFunc 35 #[.int .u64 (wd a 0 : Int), .int .u64 (wd b 0 : Int), .int .u64 0]).run Try.prog w =
    .ok (.value (.tuple #[.int .u64 (wd (a + b) 0 : Int), .int .u64 (cry a b 1 : Int)])) w := by
  have := add64_w a b 0 w
  rw [cry_zero] at this
  exact this
theorem add64_wz (a b m : Nat) (hb : wd b m = 0) (w : World) : (callFunc 35 #[.int .u64 (wd a m : Int), .int .u64 0, .int .u64 (cry a b m : Int)]).run Try.prog w =
    .ok (.value (.tuple #[.int .u64 (wd (a + b) m : Int), .int .u64 (cry a b (m + 1) : Int)])) w := by
  have := add64_w a b m w
  rw [hb] at this
  exact this
theorem mul64_w (x y : Nat) (hx : x < 18446744073709551616) (hy : y < 18446744073709551616) (w : World) :
    Calls Try.prog 39 #[.int .u64 x, .int .u64 y] w fun e w' => e = .returned (.tuple #[.int .u64 (wd (x * y) 1 : Int), .int .u64 (wd (x * y) 0 : Int)]) ∧ w' = w := by
  refine (mul64_c x y hx hy w).mono ?_
  rintro e w' ⟨rfl, rfl⟩
  have h : x * y ≤ 18446744073709551615 * 18446744073709551615 := Nat.mul_le_mul (by omega) (by omega)
  refine ⟨?_, rfl⟩
  unfold wd
  rw [show (2 : Nat) ^ (64 * 1) = 18446744073709551616 by decide, show (2 : Nat) ^ (64 * 0) = 1 by decide, Nat.div_one, Nat.mod_eq_of_lt (a := x * y / 18446744073709551616) (by omega)]

set_option maxHeartbeats 4000000 in
theorem rfold_c (n h : Nat) (hn : n < 2 ^ 256) (hh : h < 2 ^ 64) (w : World) : Calls Try.prog 36 #[.agg (row64 4 (words n)), .int .u64 (h : Int)] w fun e w' => e = .returned (.agg (row64 4 (words (fv (n + 2 ^ 256 * h))))) ∧ Below w.heap.size w w' := by
  go_enter Try.func36, Try.ntmps36
  go_wp2
  rw [zero4]
  have hn0 := (Row64.new w 36 4 (words n)).alloc (.cells (row64 4 fun _ => 0) 36)
  have hr0 := Row64.new (w.alloc (.cells (row64 4 (words n)) 36)) 36 4 fun _ => 0
  have hb0 : Below w.heap.size w ((w.alloc (.cells (row64 4 (words n)) 36)).alloc (.cells (row64 4 fun _ => 0) 36)) := ((Below.refl _ _).alloc (Nat.le_refl _) _).alloc (by simp) _
  simp only [World.size_alloc] at hr0
  revert hn0 hr0 hb0
  generalize (w.alloc (.cells (row64 4 (words n)) 36)).alloc (.cells (row64 4 fun _ => 0) 36) = w1
  intro hn0 hb0 hr0
  go_loopw [1, 5, 6, 7] (fun h_ _ _ _ wr => ∃ m k : Nat, m < 2 ^ 256 ∧ k < 2 ^ 64 ∧ h_ = .int .u64 (k : Int) ∧ fv (m + 2 ^ 256 * k) = fv (n + 2 ^ 256 * h) ∧ Row64 wr w.heap.size 36 4 (words m) ∧ Row64 wr (w.heap.size + 1) 36 4 (fun _ => 0) ∧ Below w.heap.size w wr)
    (fun h_ _ _ _ wr => valAt wr w.heap.size + 2 ^ 256 * (intOf h_).toNat)
  case atStart => exact ⟨n, h, hn, hh, rfl, rfl, hn0, hr0, hb0⟩
  case round =>
    clear hn0 hr0 hb0
    obtain ⟨m, k, hm, hk, rfl, he, hr, hz, hb⟩ := hrel
    by_cases hz0 : k = 0
    · subst hz0
      go_wp2_with (first | (refine wpList_load_Row64 rfl 36 _ rfl w.heap.size rfl 36 4 _ _ hr undNum sizeNum ?_) | (refine wpList_store_Row64 rfl 36 _ _ rfl (w.heap.size + 1) rfl 36 4 _ _ rfl hz sizeNum ?_))
      have e : m = fv (n + 2 ^ 256 * h) := by rw [← he, Nat.mul_zero, Nat.add_zero, fv_small hm]
      rw [← e]
      exact ret_Row64 rfl rfl _ _ 4 _ _ rfl (hz.setRow _) undNum sizeNum ⟨rfl, below_setRow8 hb (by omega) _⟩
    · have i0 : ((k : Int) != 0) = true := by simp; omega
      have c0 := hr.cellW 0 (by omega)
      have c1 := hr.cellW 1 (by omega)
      have c2 := hr.cellW 2 (by omega)
      have c3 := hr.cellW 3 (by omega)
      have d0 := hr.frozen 0
      have d1 := hr.frozen 1
      have d2 := hr.frozen 2
      have d3 := hr.frozen 3
      have z2 : wd (k * 38) 2 = 0 := wd_small (by omega)
      have z3 : wd (k * 38) 3 = 0 := wd_small (by omega)
      go_wp2_with (first | (go_at_call 39; refine (mul64_w k 38 hk (by decide) _).mono ?_; rintro e w' ⟨rfl, rfl⟩) | simp only [add64_w0 m (k * 38)] | simp only [add64_w m (k * 38) 1] | simp only [add64_wz m (k * 38) 2 z2] | simp only [add64_wz m (k * 38) 3 z3])
      have hcr : cry m (k * 38) 4 = (m + k * 38) / 2 ^ 256 := cry_top m (k * 38) 4 hm (by omega)
      have hrow := (((hr.setW 0 (m + k * 38) 0).setW 1 (m + k * 38) 1).setW 2 (m + k * 38) 2).setW 3 (m + k * 38) 3
      have hrow := hrow.congr (f' := words ((m + k * 38) % 2 ^ 256)) fun i hi => by
        rw [show (2 : Nat) ^ 256 = 2 ^ (64 * 4) from rfl, words_mod _ 4 i hi]
        have : i = 0 ∨ i = 1 ∨ i = 2 ∨ i = 3 := by omega
        rcases this with rfl | rfl | rfl | rfl <;> rfl
      have hlt : (m + k * 38) % 2 ^ 256 < 2 ^ 256 := Nat.mod_lt _ (by decide)
      have e1 : f1 (m + 2 ^ 256 * k) = m + k * 38 := by unfold f1; omega
      have e2 : fv ((m + k * 38) % 2 ^ 256 + 2 ^ 256 * ((m + k * 38) / 2 ^ 256)) = fv (m + 2 ^ 256 * k) := by
        have e3 : (m + k * 38) % 2 ^ 256 + 2 ^ 256 * ((m + k * 38) / 2 ^ 256) = f1 (m + 2 ^ 256 * k) := by rw [e1]; omega
        have e4 : f1 (m + 2 ^ 256 * k) < 2 ^ 320 := by rw [e1]; omega
        rw [e3]
        show f1 (f1 (f1 (m + 2 ^ 256 * k))) = f1 (f1 (m + 2 ^ 256 * k))
        exact f1_small (fv_lt (by omega))
      refine ⟨⟨(m + k * 38) % 2 ^ 256, (m + k * 38) / 2 ^ 256, hlt, by omega, by rw [hcr], by rw [e2, he], hrow, (((hz.far (by simp) _).far (by simp) _).far (by simp) _).far (by simp) _, (((hb.setCell (by simp) _).setCell (by simp) _).setCell (by simp) _).setCell (by simp) _⟩, ?_⟩
      rw [valAt_row hrow hlt, valAt_row hr hm, hcr]
      simp only [intOf, Int.toNat_natCast]
      omega
end Go.Proofs.Ytchojbhmfjibmaa
