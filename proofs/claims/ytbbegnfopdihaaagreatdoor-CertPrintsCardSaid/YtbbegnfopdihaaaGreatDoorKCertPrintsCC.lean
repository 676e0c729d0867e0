/- What the claim leans on, part 3: plain theorems, and walks of functions of the program and of the document. -/
import Derived.Test.YtbbegnfopdihaaaGreatDoorKCertPrintsCB
import Derived.Test.YtbbegnfopdihaaaGreatDoorKCertPrintsCA
import Derived.WalkKit
import Derived.ChangeKeysEq
import Derived.Carry
import Derived.Deep.DeepHandedRow
import Derived.Laws.AppendOwn
import Derived.Laws.AppendOwnNone
import Derived.Laws.IdiomStrings
import Derived.Laws.Concat
import Derived.SizedLaws
import Derived.OwnWalk
namespace Go.Proofs.YtbbegnfopdihaaaGreatDoor
open Go Go.RowKit
set_option maxRecDepth 100000

theorem isRowNb : (Tryz.prog.underlying 103).map (·.isRow) = some true := by kernel_rfl
theorem sizeNb : (Tryz.prog.info? 103).map (·.size) = some 4 := by kernel_rfl
theorem sizeNbR (f : Nat → UInt64) : (Tryz.prog.info? 103).map (·.size) = some (row64 4 f).size := by rw [sizeNb, row64_size]

section
variable {P : Program} {w : World}
/-- Structs of four words as results: alone, or with a word behind. -/
theorem ret_W4 {fn : Func} {R : Ending → World → Prop} {a : Act} {p : Tmp} {ty : TypeId} (h : fn.results = #[.cell p ty]) (hd : a.defers = []) (g : Nat) (t : TypeId) (cs : Array Value)
    (hp : a.tmps.getD p undef = .pointer (some ⟨g, 0, none⟩)) (hg : Blk w g t cs) (hdd : (P.underlying ty).map (·.isRow) = some true) (hi : (P.info? ty).map (·.size) = some cs.size)
    (hR : R (.returned (.agg cs)) w) : bodyPost P fn R .ret a w := by
  obtain ⟨d, hu, hdr⟩ := isRow_desc hdd
  exact bodyPost_ret (results_cell_row h _ _ g t cs (0, 0) d hp hg hu (by cases d <;> first | rfl | cases hdr) hi) hd hR
theorem ret_W4_tmp {fn : Func} {R : Ending → World → Prop} {a : Act} {p t3 : Tmp} {ty : TypeId} (h : fn.results = #[.cell p ty, .tmp t3]) (hd : a.defers = []) (g : Nat) (t : TypeId) (cs : Array Value) (u : Value)
    (hp : a.tmps.getD p undef = .pointer (some ⟨g, 0, none⟩)) (hu3 : a.tmps.getD t3 undef = u) (hg : Blk w g t cs) (hdd : (P.underlying ty).map (·.isRow) = some true) (hi : (P.info? ty).map (·.size) = some cs.size)
    (hR : R (.returned (.tuple #[.agg cs, u])) w) : bodyPost P fn R .ret a w := by
  obtain ⟨d, hu, hdr⟩ := isRow_desc hdd
  have hl := run_loadVar_row w g t ty cs (0, 0) d hg hu (by cases d <;> first | rfl | cases hdr) hi
  have hp' : a.tmps[p]?.getD undef = .pointer (some ⟨g, 0, none⟩) := by simpa using hp
  have hu' : a.tmps[t3]?.getD undef = u := by simpa using hu3
  exact bodyPost_ret (v := .tuple #[.agg cs, u]) (by simp [results, h, hp', hu', asAddr, hl]) hd hR
end
theorem zeroNb : (#[Value.int IntKind.u64 0, Value.int IntKind.u64 0, Value.int IntKind.u64 0, Value.int IntKind.u64 0] : Array Value) = row64 4 (fun _ => 0) := by rfl

/-- The first word: the other one is no more than a word. -/
theorem wd_zero {k : Nat} (h : k < 18446744073709551616) : wd k 0 = k := by unfold wd; omega
theorem wd_more {k : Nat} (h : k < 18446744073709551616) (m : Nat) (hm : 0 < m) : wd k m = 0 := by
  refine wd_small (Nat.lt_of_lt_of_le h ?_)
  rw [show (18446744073709551616 : Nat) = 2 ^ 64 from rfl]
  exact Nat.pow_le_pow_right (by omega) (by omega)
theorem add64_wp (n k : Nat) (hk : k < 18446744073709551616) (w : World) : (callFunc 99 #[.int .u64 (wd n 0 : Int), .int .u64 (k : Int), .int .u64 0]).run Tryz.prog w =
    .ok (.value (.tuple #[.int .u64 (wd (n + k) 0 : Int), .int .u64 (cry n k 1 : Int)])) w := by
  have := add64_w0 (n) (k) w
  rw [wd_zero hk] at this
  exact this
/-- Four cells set, one behind the other. -/
theorem Row64.set4 {w : World} {g : Nat} {t : TypeId} {f : Nat → UInt64} (h : Row64 w g t 4 f) (v : Nat) :
    Row64 ((((w.setCell ⟨g, 0, none⟩ (.int .u64 (wd v 0 : Int))).setCell ⟨g, 1, none⟩ (.int .u64 (wd v 1 : Int))).setCell ⟨g, 2, none⟩ (.int .u64 (wd v 2 : Int))).setCell ⟨g, 3, none⟩ (.int .u64 (wd v 3 : Int))) g t 4 (words (v % 2 ^ 256)) := by
  refine ((((h.setW 0 v 0).setW 1 v 1).setW 2 v 2).setW 3 v 3).congr fun i hi => ?_
  rw [show (2 : Nat) ^ 256 = 2 ^ (64 * 4) from rfl, words_mod _ 4 i hi]
  have : i = 0 ∨ i = 1 ∨ i = 2 ∨ i = 3 := by omega
  rcases this with rfl | rfl | rfl | rfl <;> rfl

set_option maxHeartbeats 4000000 in
theorem plusWord_c (n k : Nat) (hn : n < 2 ^ 256) (hk : k < 18446744073709551616) (w : World) : Calls Tryz.prog 100 #[.agg (row64 4 (words n)), .int .u64 (k : Int)] w fun e w' =>
    e = .returned (.tuple #[.agg (row64 4 (words ((n + k) % 2 ^ 256))), .int .u64 (((n + k) / 2 ^ 256 : Nat) : Int)]) ∧ Below w.heap.size w w' := by
  go_enter Tryz.func100, Tryz.ntmps100
  go_upto_region 2 with (fail)
  rw [zeroNb]
  have h1 := (Row64.new w 103 4 (words n)).alloc (.cells (row64 4 fun _ => 0) 103)
  have h2 := Row64.new (w.alloc (.cells (row64 4 (words n)) 103)) 103 4 fun _ => 0
  have hb : Below w.heap.size w ((w.alloc (.cells (row64 4 (words n)) 103)).alloc (.cells (row64 4 fun _ => 0) 103)) := ((Below.refl _ _).alloc (Nat.le_refl _) _).alloc (by simp) _
  simp only [World.size_alloc] at h2
  have hall := And.intro h1 (And.intro h2 hb)
  clear h1 h2 hb
  revert hall
  generalize (w.alloc (.cells (row64 4 (words n)) 103)).alloc (.cells (row64 4 fun _ => 0) 103) = w1
  rintro ⟨h1, h2, hb⟩
  have c0 := h1.cellW 0 (by omega)
  have c1 := h1.cellW 1 (by omega)
  have c2 := h1.cellW 2 (by omega)
  have c3 := h1.cellW 3 (by omega)
  have d0 := h1.frozen 0
  have d1 := h1.frozen 1
  have d2 := h1.frozen 2
  have d3 := h1.frozen 3
  have z1 := wd_more hk 1 (by omega)
  have z2 := wd_more hk 2 (by omega)
  have z3 := wd_more hk 3 (by omega)
  have hcr : cry n k 4 = (n + k) / 2 ^ 256 := cry_top n k 4 hn (by omega)
  have hs := h1.set4 (n + k)
  have HC := Lib.hid hcr
  clear hcr
  go_upto_region 6 with (first | simp only [add64_wp n k hk] | simp only [add64_wz n k 1 z1] | simp only [add64_wz n k 2 z2] | simp only [add64_wz n k 3 z3])
  have h2' := ((((h2.far (p := ⟨w.heap.size, 0, none⟩) (by first | (simp; done) | (simp; omega)) (.int .u64 (wd (n + k) 0 : Int))).far (p := ⟨w.heap.size, 1, none⟩) (by first | (simp; done) | (simp; omega)) (.int .u64 (wd (n + k) 1 : Int))).far (p := ⟨w.heap.size, 2, none⟩) (by first | (simp; done) | (simp; omega)) (.int .u64 (wd (n + k) 2 : Int))).far (p := ⟨w.heap.size, 3, none⟩) (by first | (simp; done) | (simp; omega)) (.int .u64 (wd (n + k) 3 : Int)))
  have hb' := ((((hb.setCell (p := ⟨w.heap.size, 0, none⟩) (by simp) (.int .u64 (wd (n + k) 0 : Int))).setCell (p := ⟨w.heap.size, 1, none⟩) (by simp) (.int .u64 (wd (n + k) 1 : Int))).setCell (p := ⟨w.heap.size, 2, none⟩) (by simp) (.int .u64 (wd (n + k) 2 : Int))).setCell (p := ⟨w.heap.size, 3, none⟩) (by simp) (.int .u64 (wd (n + k) 3 : Int)))
  clear h1 h2 hb c0 c1 c2 c3 d0 d1 d2 d3
  revert hs h2' hb'
  generalize ((((w1).setCell ⟨w.heap.size, 0, none⟩ (.int .u64 (wd (n + k) 0 : Int))).setCell ⟨w.heap.size, 1, none⟩ (.int .u64 (wd (n + k) 1 : Int))).setCell ⟨w.heap.size, 2, none⟩ (.int .u64 (wd (n + k) 2 : Int))).setCell ⟨w.heap.size, 3, none⟩ (.int .u64 (wd (n + k) 3 : Int)) = w2
  intro h1 h2 hb
  go_wp2_with (first | (refine wpList_load_Blk rfl 103 _ rfl w.heap.size rfl 103 _ h1 isRowNb (sizeNbR _) ?_) | (refine wpList_store_Row64 rfl 103 _ _ rfl (w.heap.size + 1) rfl 103 4 _ _ rfl h2 sizeNb ?_))
  exact ret_W4_tmp rfl rfl (w.heap.size + 1) 103 _ (.int .u64 (cry n k 4 : Int)) rfl rfl (h2.setRow _) isRowNb (sizeNbR _) ⟨by rw [HC.out], below_setRow8 hb (by omega) _⟩

/-- Words of a difference, also where it borrows beyond the top. -/
theorem brw_up (a b m : Nat) (hm : m ≤ 4) : brw (a + 2 ^ 256) b m = brw a b m := by
  unfold brw
  have e : (a + 2 ^ 256) % 2 ^ (64 * m) = a % 2 ^ (64 * m) := by
    have : (2 : Nat) ^ 256 = 2 ^ (64 * m) * 2 ^ (256 - 64 * m) := by rw [← Nat.pow_add]; congr 1; omega
    rw [this, Nat.add_mul_mod_self_left]
  rw [e]
theorem wd_up256 (a m : Nat) (hm : m < 4) : wd (a + 2 ^ 256) m = wd a m := by
  unfold wd
  have e : (2 : Nat) ^ 256 = 2 ^ (64 * m) * (18446744073709551616 * 2 ^ (192 - 64 * m)) := by
    rw [show (18446744073709551616 : Nat) = 2 ^ 64 from rfl, ← Nat.pow_add, ← Nat.pow_add]; congr 1; omega
  rw [e, Nat.add_mul_div_left _ _ (pow64_pos m), Nat.add_mul_mod_self_left]
theorem sub64_g (a b m : Nat) (hb : b ≤ 2 ^ 256) (hm : m < 4) (w : World) : (callFunc 97 #[.int .u64 (wd a m : Int), .int .u64 (wd b m : Int), .int .u64 (brw a b m : Int)]).run Tryz.prog w =
    .ok (.value (.tuple #[.int .u64 (wd (a + 2 ^ 256 - b) m : Int), .int .u64 (brw a b (m + 1) : Int)])) w := by
  have h := sub64_w (a + 2 ^ 256) b m (by omega) w
  rw [brw_up a b m (by omega), brw_up a b (m + 1) (by omega), wd_up256 a m hm] at h
  exact h
theorem sub64_g0 (a b : Nat) (hb : b ≤ 2 ^ 256) (w : World) : (callFunc 97 #[.int .u64 (wd a 0 : Int), .int .u64 (wd b 0 : Int), .int .u64 0]).run Tryz.prog w =
    .ok (.value (.tuple #[.int .u64 (wd (a + 2 ^ 256 - b) 0 : Int), .int .u64 (brw a b 1 : Int)])) w := by
  have h := sub64_g a b 0 hb (by omega) w
  rw [brw_zero] at h
  exact h
theorem sub64_gp (n k : Nat) (hk : k < 18446744073709551616) (w : World) : (callFunc 97 #[.int .u64 (wd n 0 : Int), .int .u64 (k : Int), .int .u64 0]).run Tryz.prog w =
    .ok (.value (.tuple #[.int .u64 (wd (n + 2 ^ 256 - k) 0 : Int), .int .u64 (brw n k 1 : Int)])) w := by
  have h := sub64_g0 n k (by omega) w
  rw [wd_zero hk] at h
  exact h
theorem sub64_gz (n k m : Nat) (hk : k < 18446744073709551616) (hz : wd k m = 0) (hm : m < 4) (w : World) : (callFunc 97 #[.int .u64 (wd n m : Int), .int .u64 0, .int .u64 (brw n k m : Int)]).run Tryz.prog w =
    .ok (.value (.tuple #[.int .u64 (wd (n + 2 ^ 256 - k) m : Int), .int .u64 (brw n k (m + 1) : Int)])) w := by
  have h := sub64_g n k m (by omega) hm w
  rw [hz] at h
  exact h
theorem brw_top (a b : Nat) (ha : a < 2 ^ 256) (hb : b < 2 ^ 256) : brw a b 4 = if a < b then 1 else 0 := by
  unfold brw
  rw [Nat.mod_eq_of_lt (show a < 2 ^ (64 * 4) from ha), Nat.mod_eq_of_lt (show b < 2 ^ (64 * 4) from hb)]

set_option maxHeartbeats 4000000 in
theorem lessWord_c (n k : Nat) (hk : k < 18446744073709551616) (w : World) : Calls Tryz.prog 98 #[.agg (row64 4 (words n)), .int .u64 (k : Int)] w fun e w' =>
    e = .returned (.tuple #[.agg (row64 4 (words ((n + 2 ^ 256 - k) % 2 ^ 256))), .int .u64 ((brw n k 4 : Nat) : Int)]) ∧ Below w.heap.size w w' := by
  go_enter Tryz.func98, Tryz.ntmps98
  go_upto_region 2 with (fail)
  rw [zeroNb]
  have h1 := (Row64.new w 103 4 (words n)).alloc (.cells (row64 4 fun _ => 0) 103)
  have h2 := Row64.new (w.alloc (.cells (row64 4 (words n)) 103)) 103 4 fun _ => 0
  have hb : Below w.heap.size w ((w.alloc (.cells (row64 4 (words n)) 103)).alloc (.cells (row64 4 fun _ => 0) 103)) := ((Below.refl _ _).alloc (Nat.le_refl _) _).alloc (by simp) _
  simp only [World.size_alloc] at h2
  have hall := And.intro h1 (And.intro h2 hb)
  clear h1 h2 hb
  revert hall
  generalize (w.alloc (.cells (row64 4 (words n)) 103)).alloc (.cells (row64 4 fun _ => 0) 103) = w1
  rintro ⟨h1, h2, hb⟩
  have c0 := h1.cellW 0 (by omega)
  have c1 := h1.cellW 1 (by omega)
  have c2 := h1.cellW 2 (by omega)
  have c3 := h1.cellW 3 (by omega)
  have d0 := h1.frozen 0
  have d1 := h1.frozen 1
  have d2 := h1.frozen 2
  have d3 := h1.frozen 3
  have z1 := wd_more hk 1 (by omega)
  have z2 := wd_more hk 2 (by omega)
  have z3 := wd_more hk 3 (by omega)
  have hcr : brw n k 4 = brw n k 4 := rfl
  have hs := h1.set4 (n + 2 ^ 256 - k)
  have HC := Lib.hid hcr
  clear hcr
  go_upto_region 6 with (first | simp only [sub64_gp n k hk] | simp only [sub64_gz n k 1 hk z1 (by omega)] | simp only [sub64_gz n k 2 hk z2 (by omega)] | simp only [sub64_gz n k 3 hk z3 (by omega)])
  have h2' := ((((h2.far (p := ⟨w.heap.size, 0, none⟩) (by first | (simp; done) | (simp; omega)) (.int .u64 (wd (n + 2 ^ 256 - k) 0 : Int))).far (p := ⟨w.heap.size, 1, none⟩) (by first | (simp; done) | (simp; omega)) (.int .u64 (wd (n + 2 ^ 256 - k) 1 : Int))).far (p := ⟨w.heap.size, 2, none⟩) (by first | (simp; done) | (simp; omega)) (.int .u64 (wd (n + 2 ^ 256 - k) 2 : Int))).far (p := ⟨w.heap.size, 3, none⟩) (by first | (simp; done) | (simp; omega)) (.int .u64 (wd (n + 2 ^ 256 - k) 3 : Int)))
  have hb' := ((((hb.setCell (p := ⟨w.heap.size, 0, none⟩) (by simp) (.int .u64 (wd (n + 2 ^ 256 - k) 0 : Int))).setCell (p := ⟨w.heap.size, 1, none⟩) (by simp) (.int .u64 (wd (n + 2 ^ 256 - k) 1 : Int))).setCell (p := ⟨w.heap.size, 2, none⟩) (by simp) (.int .u64 (wd (n + 2 ^ 256 - k) 2 : Int))).setCell (p := ⟨w.heap.size, 3, none⟩) (by simp) (.int .u64 (wd (n + 2 ^ 256 - k) 3 : Int)))
  clear h1 h2 hb c0 c1 c2 c3 d0 d1 d2 d3
  revert hs h2' hb'
  generalize ((((w1).setCell ⟨w.heap.size, 0, none⟩ (.int .u64 (wd (n + 2 ^ 256 - k) 0 : Int))).setCell ⟨w.heap.size, 1, none⟩ (.int .u64 (wd (n + 2 ^ 256 - k) 1 : Int))).setCell ⟨w.heap.size, 2, none⟩ (.int .u64 (wd (n + 2 ^ 256 - k) 2 : Int))).setCell ⟨w.heap.size, 3, none⟩ (.int .u64 (wd (n + 2 ^ 256 - k) 3 : Int)) = w2
  intro h1 h2 hb
  go_wp2_with (first | (refine wpList_load_Blk rfl 103 _ rfl w.heap.size rfl 103 _ h1 isRowNb (sizeNbR _) ?_) | (refine wpList_store_Row64 rfl 103 _ _ rfl (w.heap.size + 1) rfl 103 4 _ _ rfl h2 sizeNb ?_))
  exact ret_W4_tmp rfl rfl (w.heap.size + 1) 103 _ (.int .u64 (brw n k 4 : Int)) rfl rfl (h2.setRow _) isRowNb (sizeNbR _) ⟨rfl, below_setRow8 hb (by omega) _⟩

end Go.Proofs.YtbbegnfopdihaaaGreatDoor

namespace Go.Proofs.YtbbegnfopdihaaaGreatDoor
open Go Go.RowKit
set_option maxRecDepth 100000

theorem three_newN (w : World) (t : TypeId) (f g k : Nat → UInt64) :
    Row64 (((w.alloc (.cells (row64 4 f) t)).alloc (.cells (row64 4 g) t)).alloc (.cells (row64 4 k) t)) w.heap.size t 4 f ∧ Row64 (((w.alloc (.cells (row64 4 f) t)).alloc (.cells (row64 4 g) t)).alloc (.cells (row64 4 k) t)) (w.heap.size + 1) t 4 g ∧
      Row64 (((w.alloc (.cells (row64 4 f) t)).alloc (.cells (row64 4 g) t)).alloc (.cells (row64 4 k) t)) (w.heap.size + 1 + 1) t 4 k ∧ Below w.heap.size w (((w.alloc (.cells (row64 4 f) t)).alloc (.cells (row64 4 g) t)).alloc (.cells (row64 4 k) t)) := by
  have h1 := Row64.new (w.alloc (.cells (row64 4 f) t)) t 4 g
  have h2 := Row64.new ((w.alloc (.cells (row64 4 f) t)).alloc (.cells (row64 4 g) t)) t 4 k
  simp only [World.size_alloc] at h1 h2
  exact ⟨((Row64.new w t 4 f).alloc _).alloc _, h1.alloc _, h2, (((Below.refl _ _).alloc (Nat.le_refl _) _).alloc (by simp) _).alloc (by simp; omega) _⟩
/-- A little added to the lowest word, or taken from it, changes it alone. -/
theorem wd_low_add (x y : Nat) (h : wd x 0 + y < 18446744073709551616) : wd (x + y) 0 = wd x 0 + y ∧ ∀ i, 0 < i → wd (x + y) i = wd x i := by
  unfold wd at *
  refine ⟨by omega, fun i hi => ?_⟩
  have e : 2 ^ (64 * i) = 18446744073709551616 * 2 ^ (64 * (i - 1)) := by
    rw [show (18446744073709551616 : Nat) = 2 ^ 64 from rfl, ← Nat.pow_add]; congr 1; omega
  rw [e, ← Nat.div_div_eq_div_mul, ← Nat.div_div_eq_div_mul, show (x + y) / 18446744073709551616 = x / 18446744073709551616 by omega]
theorem wd_low_sub (x y : Nat) (h : y ≤ wd x 0) : wd (x - y) 0 = wd x 0 - y ∧ ∀ i, 0 < i → wd (x - y) i = wd x i := by
  unfold wd at *
  refine ⟨by omega, fun i hi => ?_⟩
  have e : 2 ^ (64 * i) = 18446744073709551616 * 2 ^ (64 * (i - 1)) := by
    rw [show (18446744073709551616 : Nat) = 2 ^ 64 from rfl, ← Nat.pow_add]; congr 1; omega
  rw [e, ← Nat.div_div_eq_div_mul, ← Nat.div_div_eq_div_mul, show (x - y) / 18446744073709551616 = x / 18446744073709551616 by omega]
theorem fv_two (n t : Nat) (hn : n < 2 ^ 256) (ht : 38 * t + 38 < 18446744073709551616) :
    (n + 38 * t) % 2 ^ 256 + 38 * ((n + 38 * t) / 2 ^ 256) = fv (n + 2 ^ 256 * t) ∧ wd ((n + 38 * t) % 2 ^ 256) 0 + 38 * ((n + 38 * t) / 2 ^ 256) < 18446744073709551616 ∧ 38 * ((n + 38 * t) / 2 ^ 256) ≤ 38 := by
  have e1 : f1 (n + 2 ^ 256 * t) = n + 38 * t := by unfold f1; omega
  refine ⟨?_, ?_, by omega⟩
  · unfold fv
    rw [e1]
    rfl
  · unfold wd
    omega

set_option maxHeartbeats 4000000 in
theorem fold_c (n k : Nat) (hn : n < 2 ^ 256) (hk : 38 * k + 38 < 18446744073709551616) (w : World) : Calls Tryz.prog 88 #[.agg (row64 4 (words n)), .int .u64 (k : Int)] w fun e w' =>
    e = .returned (.agg (row64 4 (words (fv (n + 2 ^ 256 * k))))) ∧ Below w.heap.size w w' := by
  obtain ⟨t1, t2, t3⟩ := fv_two n k hn hk
  have e1 : IntKind.u64.wrap (38 * (k : Int)) = ((38 * k : Nat) : Int) := by rw [IntKind.wrap_u64]; omega
  have hp := fun W => plusWord_c n (38 * k) hn (by omega) W
  obtain ⟨r1, r2⟩ := wd_low_add _ _ t2
  rw [t1] at r1 r2
  generalize fv (n + 2 ^ 256 * k) = V at *
  generalize hu : (n + 38 * k) % 2 ^ 256 = u at *
  generalize hc : (n + 38 * k) / 2 ^ 256 = c at *
  have e2 : IntKind.u64.wrap (38 * (c : Int)) = ((38 * c : Nat) : Int) := by rw [IntKind.wrap_u64]; omega
  have e3 : IntKind.u64.wrap ((wd u 0 : Int) + ((38 * c : Nat) : Int)) = (wd V 0 : Int) := by rw [IntKind.wrap_u64]; omega
  generalize 38 * k = kk at *
  generalize 38 * c = cc at *
  clear hu hc t1 t2 t3 r1
  go_enter Tryz.func88, Tryz.ntmps88
  go_upto_region 1 with (fail)
  rw [zeroNb]
  have h1 := (Row64.new w 103 4 (words n)).alloc (.cells (row64 4 fun _ => 0) 103)
  have h2 := Row64.new (w.alloc (.cells (row64 4 (words n)) 103)) 103 4 fun _ => 0
  have hb : Below w.heap.size w ((w.alloc (.cells (row64 4 (words n)) 103)).alloc (.cells (row64 4 fun _ => 0) 103)) := ((Below.refl _ _).alloc (Nat.le_refl _) _).alloc (by simp) _
  simp only [World.size_alloc] at h2
  have hall := And.intro h1 (And.intro h2 hb)
  clear h1 h2 hb
  revert hall
  generalize (w.alloc (.cells (row64 4 (words n)) 103)).alloc (.cells (row64 4 fun _ => 0) 103) = w1
  rintro ⟨h1, h2, hb⟩
  go_upto_region 2 with (first | (refine wpList_load_Blk rfl 103 _ rfl w.heap.size rfl 103 _ h1 isRowNb (sizeNbR _) ?_) | (go_at_call 100; refine (hp _).mono ?_; rintro e w5 ⟨rfl, hw5⟩; have h1 := h1.below hw5 h1.lt; have h2 := h2.below hw5 h2.lt; have hb := hb.trans (hw5.mono hb.size)) | (refine wpList_store_Row64 rfl 103 _ _ rfl w.heap.size rfl 103 4 _ _ rfl h1 sizeNb ?_))
  have h1 := h1.setRow (words u)
  have h2 := h2.setRow_far (k := w.heap.size) (by omega) (row64 4 (words u))
  have hb := below_setRow8 hb (k := w.heap.size) (by omega) (row64 4 (words u))
  (try simp only [Act.put, List.setIfInBounds_toArray, List.set_cons_zero, List.set_cons_succ])
  revert h1 h2 hb
  generalize w5.setRow w.heap.size (row64 4 (words u)) = w6
  intro h1 h2 hb
  have c0 := h1.cellW 0 (by omega)
  have d0 := h1.frozen 0
  go_upto_region 3 with (fail)
  have h1' := (h1.setW 0 V 0).congr (f' := words V) fun i _ => by
    by_cases hi : i = 0
    · subst hi; simp
    · simp only [hi, if_false]
      unfold words; rw [r2 i (by omega)]
  have h2' := h2.far (p := ⟨w.heap.size, 0, none⟩) (by first | (simp; done) | (simp; omega)) (.int .u64 (wd V 0 : Int))
  have hb' := hb.setCell (p := ⟨w.heap.size, 0, none⟩) (by simp) (.int .u64 (wd V 0 : Int))
  clear h1 h2 hb c0 d0
  revert h1' h2' hb'
  generalize w6.setCell ⟨w.heap.size, 0, none⟩ (.int .u64 (wd V 0 : Int)) = w7
  intro h1 h2 hb
  go_wp2_with (first | (refine wpList_load_Blk rfl 103 _ rfl w.heap.size rfl 103 _ h1 isRowNb (sizeNbR _) ?_) | (refine wpList_store_Row64 rfl 103 _ _ rfl (w.heap.size + 1) rfl 103 4 _ _ rfl h2 sizeNb ?_))
  exact ret_W4 rfl rfl (w.heap.size + 1) 103 _ rfl (h2.setRow _) isRowNb (sizeNbR _) ⟨rfl, below_setRow8 hb (by omega) _⟩

set_option maxHeartbeats 4000000 in
theorem plus_c (a b : Nat) (ha : a < 2 ^ 256) (hbb : b < 2 ^ 256) (w : World) : Calls Tryz.prog 84 #[.agg (row64 4 (words a)), .agg (row64 4 (words b))] w fun e w' =>
    e = .returned (.agg (row64 4 (words (fv (a + b))))) ∧ Below w.heap.size w w' := by
  have hcr : cry a b 4 = (a + b) / 2 ^ 256 := cry_top a b 4 ha hbb
  have hf := fun W => fold_c ((a + b) % 2 ^ 256) (cry a b 4) (Nat.mod_lt _ (by decide)) (by have := cry_le a b 4; omega) W
  rw [show (a + b) % 2 ^ 256 + 2 ^ 256 * cry a b 4 = a + b by rw [hcr]; omega] at hf
  clear hcr
  go_enter Tryz.func84, Tryz.ntmps84
  go_upto_region 2 with (fail)
  rw [zeroNb]
  have hall := three_newN w 103 (words a) (words b) (fun _ => 0)
  revert hall
  generalize ((w.alloc (.cells (row64 4 (words a)) 103)).alloc (.cells (row64 4 (words b)) 103)).alloc (.cells (row64 4 fun _ => 0) 103) = w1
  rintro ⟨h1, h3, h2, hb⟩
  have c0 := h1.cellW 0 (by omega)
  have c1 := h1.cellW 1 (by omega)
  have c2 := h1.cellW 2 (by omega)
  have c3 := h1.cellW 3 (by omega)
  have d0 := h1.frozen 0
  have d1 := h1.frozen 1
  have d2 := h1.frozen 2
  have d3 := h1.frozen 3
  have p0 := h3.cellW 0 (by omega)
  have p1 := h3.cellW 1 (by omega)
  have p2 := h3.cellW 2 (by omega)
  have p3 := h3.cellW 3 (by omega)
  have hs := h1.set4 (a + b)
  go_upto_region 6 with (first | simp only [add64_w0 a b] | simp only [add64_w a b 1] | simp only [add64_w a b 2] | simp only [add64_w a b 3])
  have h2' := ((((h2.far (p := ⟨w.heap.size, 0, none⟩) (by first | (simp; done) | (simp; omega)) (.int .u64 (wd (a + b) 0 : Int))).far (p := ⟨w.heap.size, 1, none⟩) (by first | (simp; done) | (simp; omega)) (.int .u64 (wd (a + b) 1 : Int))).far (p := ⟨w.heap.size, 2, none⟩) (by first | (simp; done) | (simp; omega)) (.int .u64 (wd (a + b) 2 : Int))).far (p := ⟨w.heap.size, 3, none⟩) (by first | (simp; done) | (simp; omega)) (.int .u64 (wd (a + b) 3 : Int)))
  have hb' := ((((hb.setCell (p := ⟨w.heap.size, 0, none⟩) (by simp) (.int .u64 (wd (a + b) 0 : Int))).setCell (p := ⟨w.heap.size, 1, none⟩) (by simp) (.int .u64 (wd (a + b) 1 : Int))).setCell (p := ⟨w.heap.size, 2, none⟩) (by simp) (.int .u64 (wd (a + b) 2 : Int))).setCell (p := ⟨w.heap.size, 3, none⟩) (by simp) (.int .u64 (wd (a + b) 3 : Int)))
  clear h1 h2 h3 hb c0 c1 c2 c3 d0 d1 d2 d3 p0 p1 p2 p3
  revert hs h2' hb'
  generalize ((((w1).setCell ⟨w.heap.size, 0, none⟩ (.int .u64 (wd (a + b) 0 : Int))).setCell ⟨w.heap.size, 1, none⟩ (.int .u64 (wd (a + b) 1 : Int))).setCell ⟨w.heap.size, 2, none⟩ (.int .u64 (wd (a + b) 2 : Int))).setCell ⟨w.heap.size, 3, none⟩ (.int .u64 (wd (a + b) 3 : Int)) = w2
  intro h1 h2 hb
  generalize (a + b) % 2 ^ 256 = z at *
  go_wp2_with (first | (refine wpList_load_Blk rfl 103 _ rfl w.heap.size rfl 103 _ h1 isRowNb (sizeNbR _) ?_) | (go_at_call 88; refine (hf _).mono ?_; rintro e w5 ⟨rfl, hw5⟩; have h2 := h2.below hw5 h2.lt; have hb := hb.trans (hw5.mono hb.size)) | (refine wpList_store_Row64 rfl 103 _ _ rfl (w.heap.size + 1 + 1) rfl 103 4 _ _ rfl h2 sizeNb ?_))
  exact ret_W4 rfl rfl (w.heap.size + 1 + 1) 103 _ rfl (h2.setRow _) isRowNb (sizeNbR _) ⟨rfl, below_setRow8 hb (by omega) _⟩

/-- What minus makes: twice 38 taken, where it borrows. -/
def mi1 (a b : Nat) : Nat := (a + 2 ^ 256 - b) % 2 ^ 256
def mi2 (a b : Nat) : Nat := (mi1 a b + 2 ^ 256 - 38 * brw a b 4) % 2 ^ 256
def mi (a b : Nat) : Nat := mi2 a b - 38 * brw (mi1 a b) (38 * brw a b 4) 4
theorem mi1_is (a b : Nat) : mi1 a b = (a + 2 ^ 256 - b) % 2 ^ 256 := by unfold mi1; rfl
theorem mi2_is (a b : Nat) : mi2 a b = (mi1 a b + 2 ^ 256 - 38 * brw a b 4) % 2 ^ 256 := by unfold mi2; rfl
theorem mi_is (a b : Nat) : mi a b = mi2 a b - 38 * brw (mi1 a b) (38 * brw a b 4) 4 := by unfold mi; rfl
theorem mi_facts (a b : Nat) (ha : a < 2 ^ 256) (hb : b < 2 ^ 256) : 38 * brw (mi1 a b) (38 * brw a b 4) 4 ≤ wd (mi2 a b) 0 ∧ mi a b < 2 ^ 256 ∧ (mi a b + b) % pN = a % pN := by
  have hk := brw_le a b 4
  have h1 : mi1 a b < 2 ^ 256 := Nat.mod_lt _ (by decide)
  have e1 : mi1 a b + b = a + 2 ^ 256 * brw a b 4 := by
    rw [brw_top a b ha hb]; unfold mi1; split <;> omega
  have hd : mi2 a b = (mi1 a b + 2 ^ 256 - 38 * brw a b 4) % 2 ^ 256 := rfl
  have hm : mi a b = mi2 a b - 38 * brw (mi1 a b) (38 * brw a b 4) 4 := rfl
  rw [brw_top (mi1 a b) (38 * brw a b 4) h1 (by omega)] at *
  have h2 : mi2 a b < 2 ^ 256 := by rw [hd]; exact Nat.mod_lt _ (by decide)
  have p256 : 2 ^ 256 = 2 * pN + 38 := by decide
  generalize pN = P at *
  generalize brw a b 4 = k at *
  generalize mi1 a b = x at *
  generalize mi2 a b = y at *
  generalize mi a b = z at *
  refine ⟨?_, ?_, ?_⟩
  · unfold wd; split <;> omega
  · split at hm <;> omega
  · have : k = 0 ∨ k = 1 := by omega
    rcases this with rfl | rfl
    · have : z + b = a := by split at hm <;> omega
      rw [this]
    · by_cases hlt : x < 38 * 1
      · rw [if_pos hlt] at hm
        have e : z + b = a + P * 4 := by omega
        rw [e, Nat.add_mul_mod_self_left]
      · rw [if_neg hlt] at hm
        have e : z + b = a + P * 2 := by omega
        rw [e, Nat.add_mul_mod_self_left]

set_option maxHeartbeats 4000000 in
theorem minus_c (a b : Nat) (ha : a < 2 ^ 256) (hbb : b < 2 ^ 256) (w : World) : Calls Tryz.prog 82 #[.agg (row64 4 (words a)), .agg (row64 4 (words b))] w fun e w' =>
    e = .returned (.agg (row64 4 (words (mi a b)))) ∧ Below w.heap.size w w' := by
  obtain ⟨t1, _, _⟩ := mi_facts a b ha hbb
  obtain ⟨r1, r2⟩ := wd_low_sub _ _ t1
  have hk := brw_le a b 4
  have hk2 := brw_le (mi1 a b) (38 * brw a b 4) 4
  have hbz : b ≤ 2 ^ 256 := Nat.le_of_lt hbb
  have hl := fun (hq : 38 * brw a b 4 < 18446744073709551616) W => lessWord_c (mi1 a b) (38 * brw a b 4) hq W
  rw [← mi2_is] at hl
  rw [← mi_is] at r1 r2
  have h0 := wd_lt (mi2 a b) 0
  have hm1 := mi1_is a b
  generalize mi a b = V at *
  generalize mi2 a b = u at *
  generalize brw (mi1 a b) (38 * brw a b 4) 4 = k2 at *
  generalize mi1 a b = z at *
  generalize hbk : brw a b 4 = k at *
  replace hl := hl (by omega)
  have e1 : IntKind.u64.wrap (38 * (k : Int)) = ((38 * k : Nat) : Int) := by rw [IntKind.wrap_u64]; omega
  have e2 : IntKind.u64.wrap (38 * (k2 : Int)) = ((38 * k2 : Nat) : Int) := by rw [IntKind.wrap_u64]; omega
  have e3 : IntKind.u64.wrap ((wd u 0 : Int) - ((38 * k2 : Nat) : Int)) = (wd V 0 : Int) := by rw [IntKind.wrap_u64]; omega
  have HM := Lib.hid hm1
  clear hm1
  have HB := Lib.hid hbk
  generalize 38 * k2 = kk2 at *
  generalize 38 * k = kk at *
  clear t1 r1 hk hk2 h0 hbk
  go_enter Tryz.func82, Tryz.ntmps82
  go_upto_region 2 with (fail)
  rw [zeroNb]
  have hall := three_newN w 103 (words a) (words b) (fun _ => 0)
  revert hall
  generalize ((w.alloc (.cells (row64 4 (words a)) 103)).alloc (.cells (row64 4 (words b)) 103)).alloc (.cells (row64 4 fun _ => 0) 103) = w1
  rintro ⟨h1, h3, h2, hb⟩
  have c0 := h1.cellW 0 (by omega)
  have c1 := h1.cellW 1 (by omega)
  have c2 := h1.cellW 2 (by omega)
  have c3 := h1.cellW 3 (by omega)
  have d0 := h1.frozen 0
  have d1 := h1.frozen 1
  have d2 := h1.frozen 2
  have d3 := h1.frozen 3
  have p0 := h3.cellW 0 (by omega)
  have p1 := h3.cellW 1 (by omega)
  have p2 := h3.cellW 2 (by omega)
  have p3 := h3.cellW 3 (by omega)
  have hs := h1.set4 (a + 2 ^ 256 - b)
  go_upto_region 6 with (first | simp only [sub64_g0 a b hbz] | simp only [sub64_g a b 1 hbz (by omega)] | simp only [sub64_g a b 2 hbz (by omega)] | simp only [sub64_g a b 3 hbz (by omega)])
  have h2' := ((((h2.far (p := ⟨w.heap.size, 0, none⟩) (by first | (simp; done) | (simp; omega)) (.int .u64 (wd (a + 2 ^ 256 - b) 0 : Int))).far (p := ⟨w.heap.size, 1, none⟩) (by first | (simp; done) | (simp; omega)) (.int .u64 (wd (a + 2 ^ 256 - b) 1 : Int))).far (p := ⟨w.heap.size, 2, none⟩) (by first | (simp; done) | (simp; omega)) (.int .u64 (wd (a + 2 ^ 256 - b) 2 : Int))).far (p := ⟨w.heap.size, 3, none⟩) (by first | (simp; done) | (simp; omega)) (.int .u64 (wd (a + 2 ^ 256 - b) 3 : Int)))
  have hb' := ((((hb.setCell (p := ⟨w.heap.size, 0, none⟩) (by simp) (.int .u64 (wd (a + 2 ^ 256 - b) 0 : Int))).setCell (p := ⟨w.heap.size, 1, none⟩) (by simp) (.int .u64 (wd (a + 2 ^ 256 - b) 1 : Int))).setCell (p := ⟨w.heap.size, 2, none⟩) (by simp) (.int .u64 (wd (a + 2 ^ 256 - b) 2 : Int))).setCell (p := ⟨w.heap.size, 3, none⟩) (by simp) (.int .u64 (wd (a + 2 ^ 256 - b) 3 : Int)))
  clear h1 h2 h3 hb c0 c1 c2 c3 d0 d1 d2 d3 p0 p1 p2 p3
  revert hs h2' hb'
  generalize ((((w1).setCell ⟨w.heap.size, 0, none⟩ (.int .u64 (wd (a + 2 ^ 256 - b) 0 : Int))).setCell ⟨w.heap.size, 1, none⟩ (.int .u64 (wd (a + 2 ^ 256 - b) 1 : Int))).setCell ⟨w.heap.size, 2, none⟩ (.int .u64 (wd (a + 2 ^ 256 - b) 2 : Int))).setCell ⟨w.heap.size, 3, none⟩ (.int .u64 (wd (a + 2 ^ 256 - b) 3 : Int)) = w2
  intro h1 h2 hb
  rw [← HM.out] at h1
  (try rw [HB.out])
  go_upto_region 7 with (first | (refine wpList_load_Blk rfl 103 _ rfl w.heap.size rfl 103 _ h1 isRowNb (sizeNbR _) ?_) | (go_at_call 98; refine (hl _).mono ?_; rintro e w5 ⟨rfl, hw5⟩; have h1 := h1.below hw5 h1.lt; have h2 := h2.below hw5 h2.lt; have hb := hb.trans (hw5.mono hb.size)) | (refine wpList_store_Row64 rfl 103 _ _ rfl w.heap.size rfl 103 4 _ _ rfl h1 sizeNb ?_))
  have h1 := h1.setRow (words u)
  have h2 := h2.setRow_far (k := w.heap.size) (by omega) (row64 4 (words u))
  have hb := below_setRow8 hb (k := w.heap.size) (by omega) (row64 4 (words u))
  (try simp only [Act.put, List.setIfInBounds_toArray, List.set_cons_zero, List.set_cons_succ])
  revert h1 h2 hb
  generalize w5.setRow w.heap.size (row64 4 (words u)) = w6
  intro h1 h2 hb
  have c0 := h1.cellW 0 (by omega)
  have d0 := h1.frozen 0
  go_upto_region 8 with (fail)
  have h1' := (h1.setW 0 V 0).congr (f' := words V) fun i _ => by
    by_cases hi : i = 0
    · subst hi; simp
    · simp only [hi, if_false]
      unfold words; rw [r2 i (by omega)]
  have h2' := h2.far (p := ⟨w.heap.size, 0, none⟩) (by first | (simp; done) | (simp; omega)) (.int .u64 (wd V 0 : Int))
  have hb' := hb.setCell (p := ⟨w.heap.size, 0, none⟩) (by simp) (.int .u64 (wd V 0 : Int))
  clear h1 h2 hb c0 d0
  revert h1' h2' hb'
  generalize w6.setCell ⟨w.heap.size, 0, none⟩ (.int .u64 (wd V 0 : Int)) = w7
  intro h1 h2 hb
  go_wp2_with (first | (refine wpList_load_Blk rfl 103 _ rfl w.heap.size rfl 103 _ h1 isRowNb (sizeNbR _) ?_) | (refine wpList_store_Row64 rfl 103 _ _ rfl (w.heap.size + 1 + 1) rfl 103 4 _ _ rfl h2 sizeNb ?_))
  exact ret_W4 rfl rfl (w.heap.size + 1 + 1) 103 _ rfl (h2.setRow _) isRowNb (sizeNbR _) ⟨rfl, below_setRow8 hb (by omega) _⟩
end Go.Proofs.YtbbegnfopdihaaaGreatDoor

namespace Go.Proofs.YtbbegnfopdihaaaGreatDoor
open Go Go.RowKit

/-- What adding a multiple of word m's weight leaves of the lower words. -/
theorem wd_add_far (v x m k : Nat) (h : k < m) : wd (v + x * 2 ^ (64 * m)) k = wd v k := by
  unfold wd
  have e : 2 ^ (64 * m) = 2 ^ (64 * k) * (18446744073709551616 * 2 ^ (64 * (m - k - 1))) := by
    rw [show (18446744073709551616 : Nat) = 2 ^ 64 from rfl, ← Nat.pow_add, ← Nat.pow_add]
    congr 1; omega
  rw [e, show x * (2 ^ (64 * k) * (18446744073709551616 * 2 ^ (64 * (m - k - 1)))) = 2 ^ (64 * k) * (18446744073709551616 * (x * 2 ^ (64 * (m - k - 1)))) by ac_rfl,
    Nat.add_mul_div_left _ _ (pow64_pos k), Nat.add_mul_mod_self_left]
/-- The product modulo 2^256, folded. -/
def tm (a b : Nat) : Nat := fv (f1 (a * b))
theorem prod_lt {a b : Nat} (ha : a < 2 ^ 256) (hb : b < 2 ^ 256) : a * b < 2 ^ 256 * 2 ^ 256 := by
  rcases Nat.eq_zero_or_pos b with h0 | h0
  · subst h0; rw [Nat.mul_zero]; decide
  · have h1 : a * b < 2 ^ 256 * b := Nat.mul_lt_mul_of_pos_right ha h0
    have h2 : 2 ^ 256 * b ≤ 2 ^ 256 * 2 ^ 256 := Nat.mul_le_mul_left _ (Nat.le_of_lt hb)
    exact Nat.lt_of_lt_of_le h1 h2
theorem f1_prod {L : Nat} (h : L < 2 ^ 256 * 2 ^ 256) : f1 L < 2 ^ 320 := by
  unfold f1
  have h2 : L / 2 ^ 256 < 2 ^ 256 := by omega
  have h3 : L % 2 ^ 256 < 2 ^ 256 := Nat.mod_lt _ (by decide)
  omega
theorem tm_lt {a b : Nat} (ha : a < 2 ^ 256) (hb : b < 2 ^ 256) : tm a b < 2 ^ 256 := fv_lt (f1_prod (prod_lt ha hb))
theorem tm_mod (a b : Nat) : tm a b % pN = a * b % pN := by unfold tm; rw [fv_mod, f1_mod]
end Go.Proofs.YtbbegnfopdihaaaGreatDoor

namespace Go.Proofs.YtbbegnfopdihaaaGreatDoor
open Go Go.RowKit

/-- The lower words and the upper ones of the four products. -/
def lowP (x b : Nat) : Nat := wd (x * wd b 0) 0 + wd (x * wd b 1) 0 * 2 ^ 64 + wd (x * wd b 2) 0 * 2 ^ 128 + wd (x * wd b 3) 0 * 2 ^ 192
def highP (x b : Nat) : Nat := wd (x * wd b 0) 1 * 2 ^ 64 + wd (x * wd b 1) 1 * 2 ^ 128 + wd (x * wd b 2) 1 * 2 ^ 192 + wd (x * wd b 3) 1 * 2 ^ 256
theorem lowP_wd (x b : Nat) : wd (lowP x b) 0 = wd (x * wd b 0) 0 ∧ wd (lowP x b) 1 = wd (x * wd b 1) 0 ∧ wd (lowP x b) 2 = wd (x * wd b 2) 0 ∧ wd (lowP x b) 3 = wd (x * wd b 3) 0 ∧ lowP x b < 2 ^ 256 := by
  have h0 := wd_lt (x * wd b 0) 0
  have h1 := wd_lt (x * wd b 1) 0
  have h2 := wd_lt (x * wd b 2) 0
  have h3 := wd_lt (x * wd b 3) 0
  unfold lowP
  generalize wd (x * wd b 0) 0 = p0 at *
  generalize wd (x * wd b 1) 0 = p1 at *
  generalize wd (x * wd b 2) 0 = p2 at *
  generalize wd (x * wd b 3) 0 = p3 at *
  unfold wd
  refine ⟨by omega, by omega, by omega, by omega, by omega⟩
theorem highP_wd (x b : Nat) : wd (highP x b) 0 = 0 ∧ wd (highP x b) 1 = wd (x * wd b 0) 1 ∧ wd (highP x b) 2 = wd (x * wd b 1) 1 ∧ wd (highP x b) 3 = wd (x * wd b 2) 1 ∧ highP x b / 2 ^ 256 = wd (x * wd b 3) 1 := by
  have h0 := wd_lt (x * wd b 0) 1
  have h1 := wd_lt (x * wd b 1) 1
  have h2 := wd_lt (x * wd b 2) 1
  have h3 := wd_lt (x * wd b 3) 1
  unfold highP
  generalize wd (x * wd b 0) 1 = p0 at *
  generalize wd (x * wd b 1) 1 = p1 at *
  generalize wd (x * wd b 2) 1 = p2 at *
  generalize wd (x * wd b 3) 1 = p3 at *
  unfold wd
  refine ⟨by omega, by omega, by omega, by omega, by omega⟩
theorem two_words {P : Nat} (h : P ≤ 18446744073709551615 * 18446744073709551615) : P = wd P 0 + wd P 1 * 2 ^ 64 := by
  unfold wd; omega
theorem wd_all {v : Nat} (h : v < 2 ^ 256) : wd v 0 + wd v 1 * 2 ^ 64 + wd v 2 * 2 ^ 128 + wd v 3 * 2 ^ 192 = v := by
  unfold wd; omega
theorem lowhigh (x b : Nat) (hx : x < 18446744073709551616) (hb : b < 2 ^ 256) : lowP x b + highP x b = x * b := by
  have hs := wd_all hb
  have k : ∀ i, x * wd b i ≤ 18446744073709551615 * 18446744073709551615 := fun i => Nat.mul_le_mul (by omega) (by have := wd_lt b i; omega)
  have t0 := two_words (k 0)
  have t1 := two_words (k 1)
  have t2 := two_words (k 2)
  have t3 := two_words (k 3)
  have e : x * b = x * wd b 0 + x * wd b 1 * 2 ^ 64 + x * wd b 2 * 2 ^ 128 + x * wd b 3 * 2 ^ 192 := by
    conv => lhs; rw [← hs]
    rw [Nat.mul_add, Nat.mul_add, Nat.mul_add, ← Nat.mul_assoc, ← Nat.mul_assoc, ← Nat.mul_assoc]
  rw [e]
  unfold lowP highP
  generalize x * wd b 0 = q0 at *
  generalize x * wd b 1 = q1 at *
  generalize x * wd b 2 = q2 at *
  generalize x * wd b 3 = q3 at *
  generalize wd q0 0 = l0 at *
  generalize wd q1 0 = l1 at *
  generalize wd q2 0 = l2 at *
  generalize wd q3 0 = l3 at *
  generalize wd q0 1 = u0 at *
  generalize wd q1 1 = u1 at *
  generalize wd q2 1 = u2 at *
  generalize wd q3 1 = u3 at *
  omega

theorem row_lt (x b S : Nat) (hx : x < 18446744073709551616) (hb : b < 2 ^ 256) (hS : S < 2 ^ 256) : S + x * b < 2 ^ 320 := by
  have : x * b ≤ 18446744073709551615 * (2 ^ 256 - 1) := Nat.mul_le_mul (by omega) (by omega)
  omega
/-- The top word, behind the first sums and behind the second ones. -/
theorem row_top1 (x b : Nat) (hx : x < 18446744073709551616) (hb : b < 2 ^ 256) : cry (lowP x b) (highP x b) 1 = 0 ∧ wd (x * wd b 3) 1 + cry (lowP x b) (highP x b) 4 = wd (x * b) 4 ∧ wd (x * b) 0 = wd (lowP x b) 0 := by
  obtain ⟨a0, a1, a2, a3, a4⟩ := lowP_wd x b
  obtain ⟨b0, b1, b2, b3, b4⟩ := highP_wd x b
  have hm := lowhigh x b hx hb
  have hl := row_lt x b 0 hx hb (by decide)
  have hd := add_div (lowP x b) (highP x b) 4
  rw [show (2 : Nat) ^ (64 * 4) = 2 ^ 256 from rfl, hm, b4, Nat.div_eq_of_lt a4] at hd
  refine ⟨?_, ?_, ?_⟩
  · unfold cry
    have e : highP x b % 2 ^ (64 * 1) = 0 := by
      have := b0
      unfold wd at this
      rw [show (2 : Nat) ^ (64 * 0) = 1 from rfl, Nat.div_one] at this
      rw [show (2 : Nat) ^ (64 * 1) = 18446744073709551616 by decide]
      exact this
    rw [e, Nat.add_zero]
    exact Nat.div_eq_of_lt (low_lt (lowP x b) 1)
  · have : wd (x * b) 4 = x * b / 2 ^ 256 := by
      unfold wd
      rw [show (2 : Nat) ^ (64 * 4) = 2 ^ 256 from rfl]
      clear hd hm a0 a1 a2 a3 a4 b0 b1 b2 b3 b4
      generalize x * b = m at *
      omega
    rw [this, hd, Nat.zero_add]
  · have h1 := sum_word (lowP x b) (highP x b) 0
    rw [hm, b0, cry_zero] at h1
    have h2 := wd_lt (lowP x b) 0
    clear hd hm a0 a1 a2 a3 a4 b0 b1 b2 b3 b4 hl
    rw [← h1]
    clear h1
    generalize wd (lowP x b) 0 = v at *
    omega
theorem row_top2 (x b S : Nat) (hx : x < 18446744073709551616) (hb : b < 2 ^ 256) (hS : S < 2 ^ 256) : wd (x * b) 4 + cry (x * b) S 4 = wd (x * b + S) 4 := by
  have hl := row_lt x b S hx hb hS
  have hd := add_div (x * b) S 4
  rw [show (2 : Nat) ^ (64 * 4) = 2 ^ 256 from rfl, Nat.div_eq_of_lt hS] at hd
  unfold wd
  rw [show (2 : Nat) ^ (64 * 4) = 2 ^ 256 from rfl]
  generalize cry (x * b) S 4 = c at *
  generalize x * b = m at *
  omega
theorem wd_shift (V i : Nat) : wd (V / 18446744073709551616) i = wd V (i + 1) := by
  unfold wd
  rw [pow64_succ, Nat.div_div_eq_div_mul, Nat.mul_comm (2 ^ (64 * i))]

/-! ### The product by rows, each row's lowest word laid down -/
theorem row_next (a b i : Nat) : (a % 2 ^ (64 * i) * b / 2 ^ (64 * i) + wd a i * b) = a % 2 ^ (64 * (i + 1)) * b / 2 ^ (64 * i) := by
  rw [low_succ, Nat.add_mul, show wd a i * 2 ^ (64 * i) * b = 2 ^ (64 * i) * (wd a i * b) by ac_rfl, Nat.add_mul_div_left _ _ (pow64_pos i)]
theorem row_low (a b i : Nat) : wd (a % 2 ^ (64 * (i + 1)) * b / 2 ^ (64 * i)) 0 = wd (a * b) i := by
  have h : a * b = a % 2 ^ (64 * (i + 1)) * b + a / 2 ^ (64 * (i + 1)) * b * 2 ^ (64 * (i + 1)) := by
    have hd := Nat.div_add_mod a (2 ^ (64 * (i + 1)))
    generalize 2 ^ (64 * (i + 1)) = K at *
    generalize a / K = q at *
    generalize a % K = r at *
    rw [← hd, Nat.add_mul, Nat.add_comm, show K * q * b = q * b * K by ac_rfl]
  rw [h, wd_add_far (a % 2 ^ (64 * (i + 1)) * b) (a / 2 ^ (64 * (i + 1)) * b) (i + 1) i (by omega)]
  unfold wd
  rw [show (2 : Nat) ^ (64 * 0) = 1 from rfl, Nat.div_one]
theorem row_high (a b i : Nat) : a % 2 ^ (64 * (i + 1)) * b / 2 ^ (64 * i) / 18446744073709551616 = a % 2 ^ (64 * (i + 1)) * b / 2 ^ (64 * (i + 1)) := by
  rw [Nat.div_div_eq_div_mul, ← pow64_succ]
theorem row_high_lt (a b i : Nat) (hb : b < 2 ^ 256) : a % 2 ^ (64 * i) * b / 2 ^ (64 * i) < 2 ^ 256 := by
  have h := low_lt a i
  apply (Nat.div_lt_iff_lt_mul (pow64_pos i)).mpr
  rcases Nat.eq_zero_or_pos b with h0 | h0
  · subst h0; rw [Nat.mul_zero]; exact Nat.mul_pos (by decide) (pow64_pos i)
  · rw [Nat.mul_comm (2 ^ 256)]
    exact Nat.lt_of_lt_of_le (Nat.mul_lt_mul_of_pos_right h h0) (Nat.mul_le_mul_left _ (Nat.le_of_lt hb))
end Go.Proofs.YtbbegnfopdihaaaGreatDoor

namespace Go.Proofs.YtbbegnfopdihaaaGreatDoor
open Go Go.RowKit
set_option maxRecDepth 100000

theorem ret_tmp_W4 {P : Program} {w : World} {fn : Func} {R : Ending → World → Prop} {a : Act} {p t3 : Tmp} {ty : TypeId} (h : fn.results = #[.tmp t3, .cell p ty]) (hd : a.defers = []) (g : Nat) (t : TypeId) (cs : Array Value) (u : Value)
    (hp : a.tmps.getD p undef = .pointer (some ⟨g, 0, none⟩)) (hu3 : a.tmps.getD t3 undef = u) (hg : Blk w g t cs) (hdd : (P.underlying ty).map (·.isRow) = some true) (hi : (P.info? ty).map (·.size) = some cs.size)
    (hR : R (.returned (.tuple #[u, .agg cs])) w) : bodyPost P fn R .ret a w := by
  obtain ⟨d, hu, hdr⟩ := isRow_desc hdd
  have hl := run_loadVar_row w g t ty cs (0, 0) d hg hu (by cases d <;> first | rfl | cases hdr) hi
  have hp' : a.tmps[p]?.getD undef = .pointer (some ⟨g, 0, none⟩) := by simpa using hp
  have hu' : a.tmps[t3]?.getD undef = u := by simpa using hu3
  exact bodyPost_ret (v := .tuple #[u, .agg cs]) (by simp [results, h, hp', hu', asAddr, hl]) hd hR
theorem fourNb (L : Nat) : (#[Value.int IntKind.u64 (wd L 1 : Int), Value.int IntKind.u64 (wd L 2 : Int), Value.int IntKind.u64 (wd L 3 : Int), Value.int IntKind.u64 (wd L 4 : Int)] : Array Value) = row64 4 (words (L / 18446744073709551616)) := by
  show _ = #[by64 (words (L / 18446744073709551616) 0), by64 (words (L / 18446744073709551616) 1), by64 (words (L / 18446744073709551616) 2), by64 (words (L / 18446744073709551616) 3)]
  unfold by64
  rw [words_int, words_int, words_int, words_int, wd_shift, wd_shift, wd_shift, wd_shift]

set_option maxHeartbeats 8000000 in
theorem row_c (S x b : Nat) (hS : S < 2 ^ 256) (hx : x < 18446744073709551616) (hbb : b < 2 ^ 256) (w : World) : Calls Tryz.prog 87 #[.agg (row64 4 (words S)), .int .u64 (x : Int), .agg (row64 4 (words b))] w fun e w' =>
    e = .returned (.tuple #[.int .u64 (wd (x * b + S) 0 : Int), .agg (row64 4 (words ((x * b + S) / 18446744073709551616)))]) ∧ Below w.heap.size w w' := by
  obtain ⟨a0, a1, a2, a3, _⟩ := lowP_wd x b
  obtain ⟨u0, u1, u2, u3, _⟩ := highP_wd x b
  obtain ⟨k1, k2, k3⟩ := row_top1 x b hx hbb
  have k4 := row_top2 x b S hx hbb hS
  have hm := lowhigh x b hx hbb
  have m0 := fun W => mul64_w x (wd b 0) hx (wd_lt b 0) W
  have m1 := fun W => mul64_w x (wd b 1) hx (wd_lt b 1) W
  have m2 := fun W => mul64_w x (wd b 2) hx (wd_lt b 2) W
  have m3 := fun W => mul64_w x (wd b 3) hx (wd_lt b 3) W
  rw [← a0, ← u1] at m0
  rw [← a1, ← u2] at m1
  rw [← a2, ← u3] at m2
  rw [← a3] at m3
  have s1 := add64_w (lowP x b) (highP x b) 1
  have s2 := add64_w (lowP x b) (highP x b) 2
  have s3 := add64_w (lowP x b) (highP x b) 3
  rw [k1] at s1
  rw [hm] at s1 s2 s3
  have s4 := add64_w0 (x * b) S
  have s5 := add64_w (x * b) S 1
  have s6 := add64_w (x * b) S 2
  have s7 := add64_w (x * b) S 3
  have q4 := wd_lt (x * b) 4
  have q5 := wd_lt (x * b + S) 4
  have hf := fourNb (x * b + S)
  rw [← k3] at m0
  clear a0 a1 a2 a3 u0 u1 u2 u3 k1 k3 hm
  generalize cry (lowP x b) (highP x b) (1 + 1) = c2 at *
  generalize cry (lowP x b) (highP x b) (2 + 1) = c3 at *
  generalize cry (lowP x b) (highP x b) (3 + 1) = c4 at *
  rw [show ((0 : Nat) : Int) = 0 from rfl] at s1
  have e9 : IntKind.u64.wrap ((wd (x * wd b 3) 1 : Int) + (c4 : Int)) = (wd (x * b) 4 : Int) := by rw [IntKind.wrap_u64]; omega
  have e13 : IntKind.u64.wrap ((wd (x * b) 4 : Int) + (cry (x * b) S 4 : Int)) = (wd (x * b + S) 4 : Int) := by
    rw [IntKind.wrap_u64]
    generalize cry (x * b) S 4 = z at *
    generalize wd (x * b) 4 = z1 at *
    generalize wd (x * b + S) 4 = z2 at *
    omega
  clear k2 k4 q4 q5
  generalize wd (x * wd b 3) 1 = h3 at *
  generalize hV : x * b + S = V at *
  generalize x * b = M at *
  generalize lowP x b = A at *
  generalize highP x b = B at *
  clear hV
  go_enter Tryz.func87, Tryz.ntmps87
  go_upto_region 1 with (fail)
  rw [zeroNb]
  have hall := three_newN w 103 (words S) (words b) (fun _ => 0)
  revert hall
  generalize ((w.alloc (.cells (row64 4 (words S)) 103)).alloc (.cells (row64 4 (words b)) 103)).alloc (.cells (row64 4 fun _ => 0) 103) = w1
  rintro ⟨h1, h2, hz, hb⟩
  have c0 := h1.cellW 0 (by omega)
  have c1 := h1.cellW 1 (by omega)
  have c2 := h1.cellW 2 (by omega)
  have c3 := h1.cellW 3 (by omega)
  have p0 := h2.cellW 0 (by omega)
  have p1 := h2.cellW 1 (by omega)
  have p2 := h2.cellW 2 (by omega)
  have p3 := h2.cellW 3 (by omega)
  go_upto_region 2 with (go_at_call 101; refine (m0 _).mono ?_; rintro e w5 ⟨rfl, rfl⟩)
  go_upto_region 3 with (go_at_call 101; refine (m1 _).mono ?_; rintro e w5 ⟨rfl, rfl⟩)
  go_upto_region 4 with (go_at_call 101; refine (m2 _).mono ?_; rintro e w5 ⟨rfl, rfl⟩)
  go_upto_region 5 with (go_at_call 101; refine (m3 _).mono ?_; rintro e w5 ⟨rfl, rfl⟩)
  go_upto_region 14 with (first | simp only [s1] | simp only [s2] | simp only [s3] | simp only [s4] | simp only [s5] | simp only [s6] | simp only [s7])
  go_wp2_with (refine wpList_store_Row64 rfl 103 _ _ rfl (w.heap.size + 1 + 1) rfl 103 4 _ _ rfl hz sizeNb ?_)
  exact ret_tmp_W4 rfl rfl (w.heap.size + 1 + 1) 103 _ (.int .u64 (wd V 0 : Int)) rfl rfl (hz.setRow _) isRowNb (sizeNbR _) ⟨rfl, below_setRow8 hb (by omega) _⟩
end Go.Proofs.YtbbegnfopdihaaaGreatDoor

namespace Go.Proofs.YtbbegnfopdihaaaGreatDoor
open Go Go.RowKit
set_option maxRecDepth 100000

theorem five_new (w : World) (t : TypeId) (f g k l m : Nat → UInt64) :
    Row64 (((((w.alloc (.cells (row64 4 f) t)).alloc (.cells (row64 4 g) t)).alloc (.cells (row64 4 k) t)).alloc (.cells (row64 4 l) t)).alloc (.cells (row64 4 m) t)) w.heap.size t 4 f ∧
    Row64 (((((w.alloc (.cells (row64 4 f) t)).alloc (.cells (row64 4 g) t)).alloc (.cells (row64 4 k) t)).alloc (.cells (row64 4 l) t)).alloc (.cells (row64 4 m) t)) (w.heap.size + 1) t 4 g ∧
    Row64 (((((w.alloc (.cells (row64 4 f) t)).alloc (.cells (row64 4 g) t)).alloc (.cells (row64 4 k) t)).alloc (.cells (row64 4 l) t)).alloc (.cells (row64 4 m) t)) (w.heap.size + 1 + 1) t 4 k ∧
    Row64 (((((w.alloc (.cells (row64 4 f) t)).alloc (.cells (row64 4 g) t)).alloc (.cells (row64 4 k) t)).alloc (.cells (row64 4 l) t)).alloc (.cells (row64 4 m) t)) (w.heap.size + 1 + 1 + 1) t 4 l ∧
    Row64 (((((w.alloc (.cells (row64 4 f) t)).alloc (.cells (row64 4 g) t)).alloc (.cells (row64 4 k) t)).alloc (.cells (row64 4 l) t)).alloc (.cells (row64 4 m) t)) (w.heap.size + 1 + 1 + 1 + 1) t 4 m ∧
    Below w.heap.size w (((((w.alloc (.cells (row64 4 f) t)).alloc (.cells (row64 4 g) t)).alloc (.cells (row64 4 k) t)).alloc (.cells (row64 4 l) t)).alloc (.cells (row64 4 m) t)) := by
  obtain ⟨h1, h2, h3, h4, h5⟩ := four_new w t f g k l
  have h := Row64.new ((((w.alloc (.cells (row64 4 f) t)).alloc (.cells (row64 4 g) t)).alloc (.cells (row64 4 k) t)).alloc (.cells (row64 4 l) t)) t 4 m
  simp only [World.size_alloc] at h
  exact ⟨h1.alloc _, h2.alloc _, h3.alloc _, h4.alloc _, h, h5.alloc (by simp; omega) _⟩
theorem f1_top {L : Nat} (h : L < 2 ^ 256 * 2 ^ 256) : f1 L / 2 ^ 256 ≤ 38 := by
  unfold f1
  have h2 : L / 2 ^ 256 < 2 ^ 256 := by omega
  have h3 : L % 2 ^ 256 < 2 ^ 256 := Nat.mod_lt _ (by decide)
  omega
theorem fourWn (L : Nat) : (#[Value.int IntKind.u64 (wd L 0 : Int), Value.int IntKind.u64 (wd L 1 : Int), Value.int IntKind.u64 (wd L 2 : Int), Value.int IntKind.u64 (wd L 3 : Int)] : Array Value) = row64 4 (words L) := by
  show _ = #[by64 (words L 0), by64 (words L 1), by64 (words L 2), by64 (words L 3)]
  unfold by64
  rw [words_int, words_int, words_int, words_int]
theorem zNb : (Tryz.prog.info? 103).bind (·.zero) = some (.agg (row64 4 fun _ => 0)) := by kernel_rfl
theorem words_zero : words 0 = fun _ => 0 := by
  funext i; unfold words wd; simp
/-- What each row is, and what it leaves. -/
theorem row_stage (a b i : Nat) (hb : b < 2 ^ 256) (w : World) : Calls Tryz.prog 87 #[.agg (row64 4 (words (a % 2 ^ (64 * i) * b / 2 ^ (64 * i)))), .int .u64 (wd a i : Int), .agg (row64 4 (words b))] w fun e w' =>
    e = .returned (.tuple #[.int .u64 (wd (a * b) i : Int), .agg (row64 4 (words (a % 2 ^ (64 * (i + 1)) * b / 2 ^ (64 * (i + 1)))))]) ∧ Below w.heap.size w w' := by
  have h := row_c (a % 2 ^ (64 * i) * b / 2 ^ (64 * i)) (wd a i) b (row_high_lt a b i hb) (wd_lt a i) hb w
  rw [Nat.add_comm (wd a i * b), row_next, row_low, row_high] at h
  exact h

set_option maxHeartbeats 16000000 in
theorem times_c (a b : Nat) (ha : a < 2 ^ 256) (hbb : b < 2 ^ 256) (w : World) : Calls Tryz.prog 74 #[.agg (row64 4 (words a)), .agg (row64 4 (words b))] w fun e w' =>
    e = .returned (.agg (row64 4 (words (tm a b)))) ∧ Below w.heap.size w w' := by
  have hL := prod_lt ha hbb
  have r0 := row_stage a b 0 hbb
  have r1 := row_stage a b 1 hbb
  have r2 := row_stage a b 2 hbb
  have r3 := row_stage a b 3 hbb
  have z0 : a % 2 ^ (64 * 0) * b / 2 ^ (64 * 0) = 0 := by simp [Nat.mod_one]
  have z4 : a % 2 ^ (64 * (3 + 1)) * b / 2 ^ (64 * (3 + 1)) = a * b / 2 ^ 256 := by rw [show 64 * (3 + 1) = 256 from rfl, Nat.mod_eq_of_lt ha]
  rw [z0] at r0
  rw [z4] at r3
  have hH : a * b / 2 ^ 256 < 2 ^ 256 := by omega
  have r4 := row_c ((a * b) % 2 ^ 256) 38 (a * b / 2 ^ 256) (Nat.mod_lt _ (by decide)) (by decide) hH
  rw [show 38 * (a * b / 2 ^ 256) + a * b % 2 ^ 256 = f1 (a * b) by unfold f1; omega] at r4
  rw [show ((38 : Nat) : Int) = 38 from rfl] at r4
  have hf1 := f1_prod hL
  have hf2 := f1_top hL
  have hT : tm a b = fv (f1 (a * b)) := rfl
  have HT := Lib.hid hT
  clear z0 z4 hT hL
  generalize a * b = L at *
  generalize L / 2 ^ 256 = H4 at *
  generalize hV : f1 L = V at *
  have rf := fold_c (V % 2 ^ 256) (V / 2 ^ 256) (Nat.mod_lt _ (by decide)) (by omega)
  rw [show V % 2 ^ 256 + 2 ^ 256 * (V / 2 ^ 256) = V by omega] at rf
  have v4 : wd (V / 18446744073709551616) 3 = V / 2 ^ 256 := by rw [wd_shift]; unfold wd; omega
  have v1 : wd (V / 18446744073709551616) 0 = wd V 1 := wd_shift V 0
  have v2 : wd (V / 18446744073709551616) 1 = wd V 2 := wd_shift V 1
  have v3 : wd (V / 18446744073709551616) 2 = wd V 3 := wd_shift V 2
  have hfw := fourWn V
  rw [show row64 4 (words V) = row64 4 (words (V % 2 ^ 256)) from row64_congr fun i hi => (words_mod V 4 i hi).symm] at hfw
  generalize V % 2 ^ 256 = Vl at *
  generalize V / 2 ^ 256 = Vh at *
  clear hV hf1 hf2
  generalize a % 2 ^ (64 * (0 + 1)) * b / 2 ^ (64 * (0 + 1)) = H1 at *
  generalize a % 2 ^ (64 * (1 + 1)) * b / 2 ^ (64 * (1 + 1)) = H2 at *
  generalize a % 2 ^ (64 * (2 + 1)) * b / 2 ^ (64 * (2 + 1)) = H3 at *
  have VH := Lib.hid (And.intro v1 (And.intro v2 (And.intro v3 (And.intro v4 hfw))))
  clear v1 v2 v3 v4 hfw
  have RH := Lib.hid (And.intro r1 (And.intro r2 (And.intro r3 (And.intro r4 rf))))
  clear r1 r2 r3 r4 rf
  generalize hV64 : V / 18446744073709551616 = V64 at *
  clear hV64
  go_enter Tryz.func74, Tryz.ntmps74
  go_upto_region 2 with (fail)
  rw [zeroNb]
  have hall := five_new w 103 (words a) (words b) (fun _ => 0) (fun _ => 0) (fun _ => 0)
  revert hall
  generalize ((((w.alloc (.cells (row64 4 (words a)) 103)).alloc (.cells (row64 4 (words b)) 103)).alloc (.cells (row64 4 fun _ => 0) 103)).alloc (.cells (row64 4 fun _ => 0) 103)).alloc (.cells (row64 4 fun _ => 0) 103) = w0
  rintro ⟨ha, hb, hr, hl, hh, hB⟩
  have hh := hh.congr (f' := words 0) fun i _ => by rw [words_zero]
  have c0 := ha.cellW 0 (by omega)
  clear c0
  have c0 := ha.cellW 0 (by omega)
  have rr := r0
  go_upto_region 3 with (first | (refine wpList_load_Blk rfl 103 _ rfl (w.heap.size + 1 + 1 + 1 + 1) rfl 103 _ hh isRowNb (sizeNbR _) ?_) | (refine wpList_load_Blk rfl 103 _ rfl (w.heap.size + 1) rfl 103 _ hb isRowNb (sizeNbR _) ?_) | (go_at_call 87; refine (rr _).mono ?_; rintro e w5 ⟨rfl, hw5⟩; have ha := ha.below hw5 ha.lt; have hb := hb.below hw5 hb.lt; have hr := hr.below hw5 hr.lt; have hl := hl.below hw5 hl.lt; have hh := hh.below hw5 hh.lt; have hB := hB.trans (hw5.mono hB.size); have cl := hl.cell 0 (by omega); have dl := hl.frozen 0) | (refine wpList_store_Row64 rfl 103 _ _ rfl (w.heap.size + 1 + 1 + 1 + 1) rfl 103 4 _ _ rfl (hh.far (by first | (simp; done) | (simp; omega)) _) sizeNb ?_))
  have hall := And.intro ((ha.far (p := ⟨(w.heap.size + 1 + 1 + 1), 0, none⟩) (by first | (simp; done) | (simp; omega)) (.int .u64 (wd L 0 : Int))).setRow_far (k := (w.heap.size + 1 + 1 + 1 + 1)) (by omega) (row64 4 (words H1))) (And.intro ((hb.far (p := ⟨(w.heap.size + 1 + 1 + 1), 0, none⟩) (by first | (simp; done) | (simp; omega)) (.int .u64 (wd L 0 : Int))).setRow_far (k := (w.heap.size + 1 + 1 + 1 + 1)) (by omega) (row64 4 (words H1))) (And.intro ((hr.far (p := ⟨(w.heap.size + 1 + 1 + 1), 0, none⟩) (by first | (simp; done) | (simp; omega)) (.int .u64 (wd L 0 : Int))).setRow_far (k := (w.heap.size + 1 + 1 + 1 + 1)) (by omega) (row64 4 (words H1))) (And.intro ((hl.setW 0 L 0).setRow_far (k := (w.heap.size + 1 + 1 + 1 + 1)) (by omega) (row64 4 (words H1))) (And.intro ((hh.far (p := ⟨(w.heap.size + 1 + 1 + 1), 0, none⟩) (by first | (simp; done) | (simp; omega)) (.int .u64 (wd L 0 : Int))).setRow (words H1)) (below_setRow8 (hB.setCell (p := ⟨(w.heap.size + 1 + 1 + 1), 0, none⟩) (by first | (simp; done) | (simp; omega)) (.int .u64 (wd L 0 : Int))) (k := (w.heap.size + 1 + 1 + 1 + 1)) (by omega) (row64 4 (words H1)))))))
  clear ha hb hr hl hh hB cl dl rr
  (try simp only [Act.put])
  revert hall
  generalize (w5.setCell ⟨(w.heap.size + 1 + 1 + 1), 0, none⟩ (.int .u64 (wd L 0 : Int))).setRow (w.heap.size + 1 + 1 + 1 + 1) (row64 4 (words H1)) = w1
  rintro ⟨ha, hb, hr, hl, hh, hB⟩
  clear c0
  have c0 := ha.cellW 1 (by omega)
  have rr := RH.out.1
  go_upto_region 4 with (first | (refine wpList_load_Blk rfl 103 _ rfl (w.heap.size + 1 + 1 + 1 + 1) rfl 103 _ hh isRowNb (sizeNbR _) ?_) | (refine wpList_load_Blk rfl 103 _ rfl (w.heap.size + 1) rfl 103 _ hb isRowNb (sizeNbR _) ?_) | (go_at_call 87; refine (rr _).mono ?_; rintro e w5 ⟨rfl, hw5⟩; have ha := ha.below hw5 ha.lt; have hb := hb.below hw5 hb.lt; have hr := hr.below hw5 hr.lt; have hl := hl.below hw5 hl.lt; have hh := hh.below hw5 hh.lt; have hB := hB.trans (hw5.mono hB.size); have cl := hl.cell 1 (by omega); have dl := hl.frozen 1) | (refine wpList_store_Row64 rfl 103 _ _ rfl (w.heap.size + 1 + 1 + 1 + 1) rfl 103 4 _ _ rfl (hh.far (by first | (simp; done) | (simp; omega)) _) sizeNb ?_))
  have hall := And.intro ((ha.far (p := ⟨(w.heap.size + 1 + 1 + 1), 1, none⟩) (by first | (simp; done) | (simp; omega)) (.int .u64 (wd L 1 : Int))).setRow_far (k := (w.heap.size + 1 + 1 + 1 + 1)) (by omega) (row64 4 (words H2))) (And.intro ((hb.far (p := ⟨(w.heap.size + 1 + 1 + 1), 1, none⟩) (by first | (simp; done) | (simp; omega)) (.int .u64 (wd L 1 : Int))).setRow_far (k := (w.heap.size + 1 + 1 + 1 + 1)) (by omega) (row64 4 (words H2))) (And.intro ((hr.far (p := ⟨(w.heap.size + 1 + 1 + 1), 1, none⟩) (by first | (simp; done) | (simp; omega)) (.int .u64 (wd L 1 : Int))).setRow_far (k := (w.heap.size + 1 + 1 + 1 + 1)) (by omega) (row64 4 (words H2))) (And.intro ((hl.setW 1 L 1).setRow_far (k := (w.heap.size + 1 + 1 + 1 + 1)) (by omega) (row64 4 (words H2))) (And.intro ((hh.far (p := ⟨(w.heap.size + 1 + 1 + 1), 1, none⟩) (by first | (simp; done) | (simp; omega)) (.int .u64 (wd L 1 : Int))).setRow (words H2)) (below_setRow8 (hB.setCell (p := ⟨(w.heap.size + 1 + 1 + 1), 1, none⟩) (by first | (simp; done) | (simp; omega)) (.int .u64 (wd L 1 : Int))) (k := (w.heap.size + 1 + 1 + 1 + 1)) (by omega) (row64 4 (words H2)))))))
  clear ha hb hr hl hh hB cl dl rr
  (try simp only [Act.put])
  revert hall
  generalize (w5.setCell ⟨(w.heap.size + 1 + 1 + 1), 1, none⟩ (.int .u64 (wd L 1 : Int))).setRow (w.heap.size + 1 + 1 + 1 + 1) (row64 4 (words H2)) = w2
  rintro ⟨ha, hb, hr, hl, hh, hB⟩
  clear c0
  have c0 := ha.cellW 2 (by omega)
  have rr := RH.out.2.1
  go_upto_region 5 with (first | (refine wpList_load_Blk rfl 103 _ rfl (w.heap.size + 1 + 1 + 1 + 1) rfl 103 _ hh isRowNb (sizeNbR _) ?_) | (refine wpList_load_Blk rfl 103 _ rfl (w.heap.size + 1) rfl 103 _ hb isRowNb (sizeNbR _) ?_) | (go_at_call 87; refine (rr _).mono ?_; rintro e w5 ⟨rfl, hw5⟩; have ha := ha.below hw5 ha.lt; have hb := hb.below hw5 hb.lt; have hr := hr.below hw5 hr.lt; have hl := hl.below hw5 hl.lt; have hh := hh.below hw5 hh.lt; have hB := hB.trans (hw5.mono hB.size); have cl := hl.cell 2 (by omega); have dl := hl.frozen 2) | (refine wpList_store_Row64 rfl 103 _ _ rfl (w.heap.size + 1 + 1 + 1 + 1) rfl 103 4 _ _ rfl (hh.far (by first | (simp; done) | (simp; omega)) _) sizeNb ?_))
  have hall := And.intro ((ha.far (p := ⟨(w.heap.size + 1 + 1 + 1), 2, none⟩) (by first | (simp; done) | (simp; omega)) (.int .u64 (wd L 2 : Int))).setRow_far (k := (w.heap.size + 1 + 1 + 1 + 1)) (by omega) (row64 4 (words H3))) (And.intro ((hb.far (p := ⟨(w.heap.size + 1 + 1 + 1), 2, none⟩) (by first | (simp; done) | (simp; omega)) (.int .u64 (wd L 2 : Int))).setRow_far (k := (w.heap.size + 1 + 1 + 1 + 1)) (by omega) (row64 4 (words H3))) (And.intro ((hr.far (p := ⟨(w.heap.size + 1 + 1 + 1), 2, none⟩) (by first | (simp; done) | (simp; omega)) (.int .u64 (wd L 2 : Int))).setRow_far (k := (w.heap.size + 1 + 1 + 1 + 1)) (by omega) (row64 4 (words H3))) (And.intro ((hl.setW 2 L 2).setRow_far (k := (w.heap.size + 1 + 1 + 1 + 1)) (by omega) (row64 4 (words H3))) (And.intro ((hh.far (p := ⟨(w.heap.size + 1 + 1 + 1), 2, none⟩) (by first | (simp; done) | (simp; omega)) (.int .u64 (wd L 2 : Int))).setRow (words H3)) (below_setRow8 (hB.setCell (p := ⟨(w.heap.size + 1 + 1 + 1), 2, none⟩) (by first | (simp; done) | (simp; omega)) (.int .u64 (wd L 2 : Int))) (k := (w.heap.size + 1 + 1 + 1 + 1)) (by omega) (row64 4 (words H3)))))))
  clear ha hb hr hl hh hB cl dl rr
  (try simp only [Act.put])
  revert hall
  generalize (w5.setCell ⟨(w.heap.size + 1 + 1 + 1), 2, none⟩ (.int .u64 (wd L 2 : Int))).setRow (w.heap.size + 1 + 1 + 1 + 1) (row64 4 (words H3)) = w3
  rintro ⟨ha, hb, hr, hl, hh, hB⟩
  clear c0
  have c0 := ha.cellW 3 (by omega)
  have rr := RH.out.2.2.1
  go_upto_region 6 with (first | (refine wpList_load_Blk rfl 103 _ rfl (w.heap.size + 1 + 1 + 1 + 1) rfl 103 _ hh isRowNb (sizeNbR _) ?_) | (refine wpList_load_Blk rfl 103 _ rfl (w.heap.size + 1) rfl 103 _ hb isRowNb (sizeNbR _) ?_) | (go_at_call 87; refine (rr _).mono ?_; rintro e w5 ⟨rfl, hw5⟩; have ha := ha.below hw5 ha.lt; have hb := hb.below hw5 hb.lt; have hr := hr.below hw5 hr.lt; have hl := hl.below hw5 hl.lt; have hh := hh.below hw5 hh.lt; have hB := hB.trans (hw5.mono hB.size); have cl := hl.cell 3 (by omega); have dl := hl.frozen 3) | (refine wpList_store_Row64 rfl 103 _ _ rfl (w.heap.size + 1 + 1 + 1 + 1) rfl 103 4 _ _ rfl (hh.far (by first | (simp; done) | (simp; omega)) _) sizeNb ?_))
  have hall := And.intro ((ha.far (p := ⟨(w.heap.size + 1 + 1 + 1), 3, none⟩) (by first | (simp; done) | (simp; omega)) (.int .u64 (wd L 3 : Int))).setRow_far (k := (w.heap.size + 1 + 1 + 1 + 1)) (by omega) (row64 4 (words H4))) (And.intro ((hb.far (p := ⟨(w.heap.size + 1 + 1 + 1), 3, none⟩) (by first | (simp; done) | (simp; omega)) (.int .u64 (wd L 3 : Int))).setRow_far (k := (w.heap.size + 1 + 1 + 1 + 1)) (by omega) (row64 4 (words H4))) (And.intro ((hr.far (p := ⟨(w.heap.size + 1 + 1 + 1), 3, none⟩) (by first | (simp; done) | (simp; omega)) (.int .u64 (wd L 3 : Int))).setRow_far (k := (w.heap.size + 1 + 1 + 1 + 1)) (by omega) (row64 4 (words H4))) (And.intro ((hl.setW 3 L 3).setRow_far (k := (w.heap.size + 1 + 1 + 1 + 1)) (by omega) (row64 4 (words H4))) (And.intro ((hh.far (p := ⟨(w.heap.size + 1 + 1 + 1), 3, none⟩) (by first | (simp; done) | (simp; omega)) (.int .u64 (wd L 3 : Int))).setRow (words H4)) (below_setRow8 (hB.setCell (p := ⟨(w.heap.size + 1 + 1 + 1), 3, none⟩) (by first | (simp; done) | (simp; omega)) (.int .u64 (wd L 3 : Int))) (k := (w.heap.size + 1 + 1 + 1 + 1)) (by omega) (row64 4 (words H4)))))))
  clear ha hb hr hl hh hB cl dl rr
  (try simp only [Act.put])
  revert hall
  generalize (w5.setCell ⟨(w.heap.size + 1 + 1 + 1), 3, none⟩ (.int .u64 (wd L 3 : Int))).setRow (w.heap.size + 1 + 1 + 1 + 1) (row64 4 (words H4)) = w4
  rintro ⟨ha, hb, hr, hl, hh, hB⟩
  have hl := hl.congr (f' := words (L % 2 ^ 256)) fun i hi => by
    rw [show (2 : Nat) ^ 256 = 2 ^ (64 * 4) from rfl, words_mod _ 4 i hi]
    have : i = 0 ∨ i = 1 ∨ i = 2 ∨ i = 3 := by omega
    rcases this with rfl | rfl | rfl | rfl <;> rfl
  clear ha hb c0
  generalize L % 2 ^ 256 = Ll at *
  have rr := RH.out.2.2.2.1
  go_upto_region 7 with (first | (refine wpList_load_Blk rfl 103 _ rfl (w.heap.size + 1 + 1 + 1) rfl 103 _ hl isRowNb (sizeNbR _) ?_) | (refine wpList_load_Blk rfl 103 _ rfl (w.heap.size + 1 + 1 + 1 + 1) rfl 103 _ hh isRowNb (sizeNbR _) ?_) | (go_at_call 87; refine (rr _).mono ?_; rintro e w6 ⟨rfl, hw6⟩; have hgl := (hr.below hw6 hr.lt).lt; have hr := (hr.below hw6 hr.lt).alloc (.cells (row64 4 fun _ => 0) 103); have hB := hB.trans (hw6.mono hB.size); have hB' := hB.alloc hB.size (.cells (row64 4 fun _ => 0) 103); have hnew := Row64.new w6 103 4 fun _ => 0) | (refine wpList_alloc_Row64 rfl 103 rfl 4 zNb ?_) | (refine wpList_store_Row64 rfl 103 _ _ rfl w6.heap.size rfl 103 4 _ _ rfl hnew sizeNb ?_))
  have hwB : w.heap.size ≤ w6.heap.size := by omega
  have hall := And.intro (hr.setRow_far (k := w6.heap.size) (by omega) (row64 4 (words V64))) (And.intro (hnew.setRow (words V64)) (below_setRow8 hB' (k := w6.heap.size) hwB (row64 4 (words V64))))
  clear hr hl hh hB hB' hnew rr hwB
  (try simp only [Act.put])
  revert hall hgl
  generalize (w6.alloc (.cells (row64 4 fun _ => 0) 103)).setRow w6.heap.size (row64 4 (words V64)) = w7
  generalize w6.heap.size = g
  rintro hgl ⟨hr, hn, hB⟩
  obtain ⟨v1, v2, v3, v4, hfw⟩ := VH.out
  have k0 := hn.cellW 0 (by omega)
  have k1 := hn.cellW 1 (by omega)
  have k2 := hn.cellW 2 (by omega)
  have k3 := hn.cellW 3 (by omega)
  rw [v1] at k0
  rw [v2] at k1
  rw [v3] at k2
  rw [v4] at k3
  clear v1 v2 v3 v4
  have rr := RH.out.2.2.2.2
  go_wp2_with (first | (go_at_call 88; refine (rr _).mono ?_; rintro e w8 ⟨rfl, hw8⟩; have hr := hr.below hw8 hr.lt; have hB := hB.trans (hw8.mono hB.size)) | (refine wpList_store_Row64 rfl 103 _ _ rfl (w.heap.size + 1 + 1) rfl 103 4 _ _ rfl hr sizeNb ?_))
  exact ret_W4 rfl rfl (w.heap.size + 1 + 1) 103 _ rfl (hr.setRow _) isRowNb (sizeNbR _) ⟨by rw [HT.out], below_setRow8 hB (by omega) _⟩
end Go.Proofs.YtbbegnfopdihaaaGreatDoor

namespace Go.Proofs.YtbbegnfopdihaaaGreatDoor
open Go Go.RowKit
set_option maxRecDepth 100000

/-- Squared k times. -/
def rs (n : Nat) : Nat → Nat
  | 0 => n
  | m + 1 => tm (rs n m) (rs n m)
theorem rs_lt {n : Nat} (hn : n < 2 ^ 256) : ∀ k, rs n k < 2 ^ 256
  | 0 => hn
  | k + 1 => tm_lt (rs_lt hn k) (rs_lt hn k)

set_option maxHeartbeats 4000000 in
theorem raise_c (n k : Nat) (hn : n < 2 ^ 256) (hk : k < 1000000) (w : World) : Calls Tryz.prog 90 #[.agg (row64 4 (words n)), .int .i64 (k : Int)] w fun e w' =>
    e = .returned (.agg (row64 4 (words (rs n k)))) ∧ Below w.heap.size w w' := by
  go_enter Tryz.func90, Tryz.ntmps90
  go_wp2
  rw [zeroNb]
  have h1 := (Row64.new w 103 4 (words n)).alloc (.cells (row64 4 fun _ => 0) 103)
  have h2 := Row64.new (w.alloc (.cells (row64 4 (words n)) 103)) 103 4 fun _ => 0
  have hb : Below w.heap.size w ((w.alloc (.cells (row64 4 (words n)) 103)).alloc (.cells (row64 4 fun _ => 0) 103)) := ((Below.refl _ _).alloc (Nat.le_refl _) _).alloc (by simp) _
  simp only [World.size_alloc] at h2
  have hall := And.intro h1 (And.intro h2 hb)
  clear h1 h2 hb
  revert hall
  generalize (w.alloc (.cells (row64 4 (words n)) 103)).alloc (.cells (row64 4 fun _ => 0) 103) = w1
  intro hall
  go_loopw [6] (fun i_ wr => ∃ m : Nat, m ≤ k ∧ i_ = .int .i64 m ∧ Row64 wr w.heap.size 103 4 (words (rs n m)) ∧ Row64 wr (w.heap.size + 1) 103 4 (fun _ => 0) ∧ Below w.heap.size w wr) (fun i_ _ => k - (intOf i_).toNat)
  case atStart =>
    obtain ⟨h1, h2, hb⟩ := hall
    exact ⟨0, by omega, rfl, h1, h2, hb⟩
  case round =>
    clear hall
    obtain ⟨m, hm, rfl, h1, h2, hb⟩ := hrel
    have ht := fun W => times_c (rs n m) (rs n m) (rs_lt hn m) (rs_lt hn m) W
    by_cases hmk : m < k
    · have i1 : (m : Int) < (k : Int) := by omega
      have hstep : rs n (m + 1) = tm (rs n m) (rs n m) := rfl
      generalize hv : tm (rs n m) (rs n m) = v at *
      have HV := Lib.hid hstep
      clear hstep hv
      generalize rs n m = u at *
      go_wp2_with (first | (refine wpList_load_Blk rfl 103 _ rfl w.heap.size rfl 103 _ h1 isRowNb (sizeNbR _) ?_) | (go_at_call 74; refine (ht _).mono ?_; rintro e w5 ⟨rfl, hw5⟩; have h1 := h1.below hw5 h1.lt; have h2 := h2.below hw5 h2.lt; have hb := hb.trans (hw5.mono hb.size)) | (refine wpList_store_Row64 rfl 103 _ _ rfl w.heap.size rfl 103 4 _ _ rfl h1 sizeNb ?_))
      refine ⟨⟨m + 1, by omega, by go_num, by rw [HV.out]; exact h1.setRow _, h2.setRow_far (by omega) _, below_setRow8 hb (by omega) _⟩, ?_⟩
      first | (simp [intOf]; done) | (simp [intOf]; omega)
    · obtain rfl : m = k := by omega
      have i1 : ¬ (m : Int) < (m : Int) := by omega
      go_wp2_with (first | (refine wpList_load_Blk rfl 103 _ rfl w.heap.size rfl 103 _ h1 isRowNb (sizeNbR _) ?_) | (refine wpList_store_Row64 rfl 103 _ _ rfl (w.heap.size + 1) rfl 103 4 _ _ rfl h2 sizeNb ?_))
      exact ret_W4 rfl rfl (w.heap.size + 1) 103 _ rfl (h2.setRow _) isRowNb (sizeNbR _) ⟨rfl, below_setRow8 hb (by omega) _⟩
end Go.Proofs.YtbbegnfopdihaaaGreatDoor

namespace Go.Proofs.YtbbegnfopdihaaaGreatDoor
open Go Go.RowKit
section
variable {P : Program} {ops : Array Oper} {Q : Exit → Act → World → Prop} {S : World → Prop}
/-- S holds, and T of what is made, once it is. -/
def SN (S : World → Prop) (T : Nat → World → Prop) (og : Option Nat) (w : World) : Prop := S w ∧ ∀ g, og = some g → T g w
theorem MakesN.blk {o : Oper} {a : Act} (hwant : Region.wanted o (yielded ops a.tmps) = true) (ty : TypeId) (ho : o.op = .alloc ty) (cs : Array Value) (hz : (P.info? ty).bind (·.zero) = some (.agg cs)) (B : Nat) (hB : ∀ w, S w → B ≤ w.heap.size)
    (hS : ∀ w, S w → S (w.alloc (.cells cs ty))) : Makes P ops (SN S fun g w => Blk w g ty cs ∧ B ≤ g) o a :=
  ⟨hwant, fun w hw => ⟨w.heap.size, w.alloc (.cells cs ty), by unfold execOp; simp only [ho, Sem.run_bind, Sem.run_pure, Result.andThen_ok, run_alloc_Blk ty cs hz], hS w hw.1, fun g e => by
    obtain rfl := Option.some.inj e
    exact ⟨Blk.new _ _ _, hB w hw.1⟩⟩⟩
theorem SureN.call {ty : TypeId} {cs : Array Value} {B : Nat} {og : Option Nat} {o : Oper} {v : Value} {a : Act} {f : FuncId} {args : Array Value} (hwant : Region.wanted o (yielded ops a.tmps) = true) (hr : ∀ w, (execOp a.eval o).run P w = .ok (.enter f args) w)
    (h : ∀ w, S w → Calls P f args w fun e w' => e = .returned v ∧ Below w.heap.size w w' ∧ S w') : Sure P ops (SN S (fun g w => Blk w g ty cs ∧ B ≤ g) og) o v a :=
  Sure.call hwant hr fun w hw => (h w hw.1).mono fun _ _ ⟨he, hb, hs⟩ => ⟨he, hs, fun g e => ⟨(hw.2 g e).1.below hb (hw.2 g e).1.lt, (hw.2 g e).2⟩⟩
theorem Sure.load_W4 {S : World → Prop} {o : Oper} {a : Act} (hwant : Region.wanted o (yielded ops a.tmps) = true) (ty : TypeId) (x : Operand) (ho : o.op = .load ty x)
    (g : Nat) (hx : a.eval x = .pointer (some ⟨g, 0, none⟩)) (t : TypeId) (cs : Array Value) (hg : ∀ w, S w → Blk w g t cs) (hdd : (P.underlying ty).map (·.isRow) = some true) (hi : (P.info? ty).map (·.size) = some cs.size) :
    Sure P ops S o (.agg cs) a := by
  obtain ⟨d, hu, hdr⟩ := isRow_desc hdd
  exact Sure.val hwant fun w hw => by
    unfold execOp
    simp only [ho, hx, Instr.loadAt, Instr.sureAddr, Sem.run_bind, Sem.run_pure, Result.andThen_ok, run_loadVar_row w g t ty _ _ d (hg w hw) hu (by cases d <;> first | rfl | cases hdr) hi]
theorem SeqG.store_N {SS : Option Nat → World → Prop} {o : Oper} {A : Nat → Act} (hwant : ∀ g, Region.wanted o (yielded ops (A g).tmps) = true) (ty : TypeId) (x y : Operand) (ho : o.op = .store ty x y)
    (hx : ∀ g, (A g).eval x = .pointer (some ⟨g, 0, none⟩)) (t : TypeId) (old cells : Array Value) (hy : ∀ g, (A g).eval y = .agg cells) (hg : ∀ g w, SS (some g) w → Blk w g t old) (hi : (P.info? ty).map (·.size) = some cells.size) (hold : old.size = cells.size) (h1 : cells.all (·.oneCell') = true)
    (h : ∀ g w, SS (some g) w → Q .normal ((A g).put o.dst undef) (w.setRow g cells)) : SeqG P ops Q SS [o] A true :=
  SeqG.last hwant fun g w hS => wp_store_row ty x y ho g cells (hx g) (hy g) t old (hg g w hS) hi hold h1 (h g w hS)
end
end Go.Proofs.YtbbegnfopdihaaaGreatDoor

namespace Go.Proofs.YtbbegnfopdihaaaGreatDoor
open Go Go.RowKit
set_option maxRecDepth 100000

theorem zNb3 : (Tryz.prog.info? 103).bind (·.zero) = some (.agg (row64 4 fun _ => 0)) := by kernel_rfl
theorem isSh (f : Nat → UInt64) : (Tryz.prog.info? 103).map (·.size) = some (row64 4 f).size := sizeNbR f
def o2 (n : Nat) : Nat := tm (rs n 1) n
def o4 (n : Nat) : Nat := tm (rs (o2 n) 2) (o2 n)
def o5 (n : Nat) : Nat := tm (rs (o4 n) 1) n
def o10 (n : Nat) : Nat := tm (rs (o5 n) 5) (o5 n)
def o20 (n : Nat) : Nat := tm (rs (o10 n) 10) (o10 n)
def o40 (n : Nat) : Nat := tm (rs (o20 n) 20) (o20 n)
def o50 (n : Nat) : Nat := tm (rs (o40 n) 10) (o10 n)
def o100 (n : Nat) : Nat := tm (rs (o50 n) 50) (o50 n)
def o200 (n : Nat) : Nat := tm (rs (o100 n) 100) (o100 n)
def o250 (n : Nat) : Nat := tm (rs (o200 n) 50) (o50 n)
theorem o2_lt {n : Nat} (h : n < 2 ^ 256) : o2 n < 2 ^ 256 := tm_lt (rs_lt h 1) h
theorem o4_lt {n : Nat} (h : n < 2 ^ 256) : o4 n < 2 ^ 256 := tm_lt (rs_lt (o2_lt h) 2) (o2_lt h)
theorem o5_lt {n : Nat} (h : n < 2 ^ 256) : o5 n < 2 ^ 256 := tm_lt (rs_lt (o4_lt h) 1) h
theorem o10_lt {n : Nat} (h : n < 2 ^ 256) : o10 n < 2 ^ 256 := tm_lt (rs_lt (o5_lt h) 5) (o5_lt h)
theorem o20_lt {n : Nat} (h : n < 2 ^ 256) : o20 n < 2 ^ 256 := tm_lt (rs_lt (o10_lt h) 10) (o10_lt h)
theorem o40_lt {n : Nat} (h : n < 2 ^ 256) : o40 n < 2 ^ 256 := tm_lt (rs_lt (o20_lt h) 20) (o20_lt h)
theorem o50_lt {n : Nat} (h : n < 2 ^ 256) : o50 n < 2 ^ 256 := tm_lt (rs_lt (o40_lt h) 10) (o10_lt h)
theorem o100_lt {n : Nat} (h : n < 2 ^ 256) : o100 n < 2 ^ 256 := tm_lt (rs_lt (o50_lt h) 50) (o50_lt h)
theorem o200_lt {n : Nat} (h : n < 2 ^ 256) : o200 n < 2 ^ 256 := tm_lt (rs_lt (o100_lt h) 100) (o100_lt h)
theorem o250_lt {n : Nat} (h : n < 2 ^ 256) : o250 n < 2 ^ 256 := tm_lt (rs_lt (o200_lt h) 50) (o50_lt h)

set_option maxHeartbeats 16000000 in
theorem ones_c (n : Nat) (hn : n < 2 ^ 256) (w : World) : Calls Tryz.prog 91 #[(.agg (row64 4 (words n)))] w fun e w' =>
    e = .returned (.agg (row64 4 (words (o250 n)))) ∧ Below w.heap.size w w' := by
  have p0 : ∀ W, Calls Tryz.prog 90 #[(.agg (row64 4 (words n))), .int .i64 1] W fun e w' => e = .returned (.agg (row64 4 (words (rs n 1)))) ∧ Below W.heap.size W w' := fun W => raise_c n 1 hn (by omega) W
  have q0 : ∀ W, Calls Tryz.prog 74 #[(.agg (row64 4 (words (rs n 1)))), (.agg (row64 4 (words n)))] W fun e w' => e = .returned (.agg (row64 4 (words (o2 n)))) ∧ Below W.heap.size W w' := fun W => times_c (rs n 1) n (rs_lt hn 1) hn W
  have p1 : ∀ W, Calls Tryz.prog 90 #[(.agg (row64 4 (words (o2 n)))), .int .i64 2] W fun e w' => e = .returned (.agg (row64 4 (words (rs (o2 n) 2)))) ∧ Below W.heap.size W w' := fun W => raise_c (o2 n) 2 (o2_lt hn) (by omega) W
  have q1 : ∀ W, Calls Tryz.prog 74 #[(.agg (row64 4 (words (rs (o2 n) 2)))), (.agg (row64 4 (words (o2 n))))] W fun e w' => e = .returned (.agg (row64 4 (words (o4 n)))) ∧ Below W.heap.size W w' := fun W => times_c (rs (o2 n) 2) (o2 n) (rs_lt (o2_lt hn) 2) (o2_lt hn) W
  have p2 : ∀ W, Calls Tryz.prog 90 #[(.agg (row64 4 (words (o4 n)))), .int .i64 1] W fun e w' => e = .returned (.agg (row64 4 (words (rs (o4 n) 1)))) ∧ Below W.heap.size W w' := fun W => raise_c (o4 n) 1 (o4_lt hn) (by omega) W
  have q2 : ∀ W, Calls Tryz.prog 74 #[(.agg (row64 4 (words (rs (o4 n) 1)))), (.agg (row64 4 (words n)))] W fun e w' => e = .returned (.agg (row64 4 (words (o5 n)))) ∧ Below W.heap.size W w' := fun W => times_c (rs (o4 n) 1) n (rs_lt (o4_lt hn) 1) hn W
  have p3 : ∀ W, Calls Tryz.prog 90 #[(.agg (row64 4 (words (o5 n)))), .int .i64 5] W fun e w' => e = .returned (.agg (row64 4 (words (rs (o5 n) 5)))) ∧ Below W.heap.size W w' := fun W => raise_c (o5 n) 5 (o5_lt hn) (by omega) W
  have q3 : ∀ W, Calls Tryz.prog 74 #[(.agg (row64 4 (words (rs (o5 n) 5)))), (.agg (row64 4 (words (o5 n))))] W fun e w' => e = .returned (.agg (row64 4 (words (o10 n)))) ∧ Below W.heap.size W w' := fun W => times_c (rs (o5 n) 5) (o5 n) (rs_lt (o5_lt hn) 5) (o5_lt hn) W
  have p4 : ∀ W, Calls Tryz.prog 90 #[(.agg (row64 4 (words (o10 n)))), .int .i64 10] W fun e w' => e = .returned (.agg (row64 4 (words (rs (o10 n) 10)))) ∧ Below W.heap.size W w' := fun W => raise_c (o10 n) 10 (o10_lt hn) (by omega) W
  have q4 : ∀ W, Calls Tryz.prog 74 #[(.agg (row64 4 (words (rs (o10 n) 10)))), (.agg (row64 4 (words (o10 n))))] W fun e w' => e = .returned (.agg (row64 4 (words (o20 n)))) ∧ Below W.heap.size W w' := fun W => times_c (rs (o10 n) 10) (o10 n) (rs_lt (o10_lt hn) 10) (o10_lt hn) W
  have p5 : ∀ W, Calls Tryz.prog 90 #[(.agg (row64 4 (words (o20 n)))), .int .i64 20] W fun e w' => e = .returned (.agg (row64 4 (words (rs (o20 n) 20)))) ∧ Below W.heap.size W w' := fun W => raise_c (o20 n) 20 (o20_lt hn) (by omega) W
  have q5 : ∀ W, Calls Tryz.prog 74 #[(.agg (row64 4 (words (rs (o20 n) 20)))), (.agg (row64 4 (words (o20 n))))] W fun e w' => e = .returned (.agg (row64 4 (words (o40 n)))) ∧ Below W.heap.size W w' := fun W => times_c (rs (o20 n) 20) (o20 n) (rs_lt (o20_lt hn) 20) (o20_lt hn) W
  have p6 : ∀ W, Calls Tryz.prog 90 #[(.agg (row64 4 (words (o40 n)))), .int .i64 10] W fun e w' => e = .returned (.agg (row64 4 (words (rs (o40 n) 10)))) ∧ Below W.heap.size W w' := fun W => raise_c (o40 n) 10 (o40_lt hn) (by omega) W
  have q6 : ∀ W, Calls Tryz.prog 74 #[(.agg (row64 4 (words (rs (o40 n) 10)))), (.agg (row64 4 (words (o10 n))))] W fun e w' => e = .returned (.agg (row64 4 (words (o50 n)))) ∧ Below W.heap.size W w' := fun W => times_c (rs (o40 n) 10) (o10 n) (rs_lt (o40_lt hn) 10) (o10_lt hn) W
  have p7 : ∀ W, Calls Tryz.prog 90 #[(.agg (row64 4 (words (o50 n)))), .int .i64 50] W fun e w' => e = .returned (.agg (row64 4 (words (rs (o50 n) 50)))) ∧ Below W.heap.size W w' := fun W => raise_c (o50 n) 50 (o50_lt hn) (by omega) W
  have q7 : ∀ W, Calls Tryz.prog 74 #[(.agg (row64 4 (words (rs (o50 n) 50)))), (.agg (row64 4 (words (o50 n))))] W fun e w' => e = .returned (.agg (row64 4 (words (o100 n)))) ∧ Below W.heap.size W w' := fun W => times_c (rs (o50 n) 50) (o50 n) (rs_lt (o50_lt hn) 50) (o50_lt hn) W
  have p8 : ∀ W, Calls Tryz.prog 90 #[(.agg (row64 4 (words (o100 n)))), .int .i64 100] W fun e w' => e = .returned (.agg (row64 4 (words (rs (o100 n) 100)))) ∧ Below W.heap.size W w' := fun W => raise_c (o100 n) 100 (o100_lt hn) (by omega) W
  have q8 : ∀ W, Calls Tryz.prog 74 #[(.agg (row64 4 (words (rs (o100 n) 100)))), (.agg (row64 4 (words (o100 n))))] W fun e w' => e = .returned (.agg (row64 4 (words (o200 n)))) ∧ Below W.heap.size W w' := fun W => times_c (rs (o100 n) 100) (o100 n) (rs_lt (o100_lt hn) 100) (o100_lt hn) W
  have p9 : ∀ W, Calls Tryz.prog 90 #[(.agg (row64 4 (words (o200 n)))), .int .i64 50] W fun e w' => e = .returned (.agg (row64 4 (words (rs (o200 n) 50)))) ∧ Below W.heap.size W w' := fun W => raise_c (o200 n) 50 (o200_lt hn) (by omega) W
  have q9 : ∀ W, Calls Tryz.prog 74 #[(.agg (row64 4 (words (rs (o200 n) 50)))), (.agg (row64 4 (words (o50 n))))] W fun e w' => e = .returned (.agg (row64 4 (words (o250 n)))) ∧ Below W.heap.size W w' := fun W => times_c (rs (o200 n) 50) (o50 n) (rs_lt (o200_lt hn) 50) (o50_lt hn) W
  generalize rs (o200 n) 50 = u9 at *
  generalize rs (o100 n) 100 = u8 at *
  generalize rs (o50 n) 50 = u7 at *
  generalize rs (o40 n) 10 = u6 at *
  generalize rs (o20 n) 20 = u5 at *
  generalize rs (o10 n) 10 = u4 at *
  generalize rs (o5 n) 5 = u3 at *
  generalize rs (o4 n) 1 = u2 at *
  generalize rs (o2 n) 2 = u1 at *
  generalize rs n 1 = u0 at *
  generalize o250 n = v9 at *
  generalize o200 n = v8 at *
  generalize o100 n = v7 at *
  generalize o50 n = v6 at *
  generalize o40 n = v5 at *
  generalize o20 n = v4 at *
  generalize o10 n = v3 at *
  generalize o5 n = v2 at *
  generalize o4 n = v1 at *
  generalize o2 n = v0 at *
  go_enter Tryz.func91, Tryz.ntmps91
  go_upto_region 1 with (fail)
  rw [zeroNb]
  have h1 := (Row64.new w 103 4 (words n)).alloc (.cells (row64 4 fun _ => 0) 103)
  have h2 := Row64.new (w.alloc (.cells (row64 4 (words n)) 103)) 103 4 fun _ => 0
  have hb : Below w.heap.size w ((w.alloc (.cells (row64 4 (words n)) 103)).alloc (.cells (row64 4 fun _ => 0) 103)) := ((Below.refl _ _).alloc (Nat.le_refl _) _).alloc (by simp) _
  simp only [World.size_alloc] at h2
  have hall := And.intro h1 (And.intro h2 hb)
  clear h1 h2 hb
  revert hall
  generalize (w.alloc (.cells (row64 4 (words n)) 103)).alloc (.cells (row64 4 fun _ => 0) 103) = w0
  rintro ⟨ha, hr, hb⟩
  have Lha := ha.lt
  have Lhr := hr.lt
  refine region_made (SN (fun W' => Row64 W' w.heap.size 103 4 (words n) ∧ Row64 W' (w.heap.size + 1) 103 4 (fun _ => 0) ∧ Below w.heap.size w W' ∧ w0.heap.size ≤ W'.heap.size) fun g w' => Blk w' g 103 (row64 4 fun _ => 0) ∧ w0.heap.size ≤ g) mixedOrders (by kernel_rfl) (by simp) ⟨⟨ha.drew, hr.drew, hb.drew, Nat.le_refl _⟩, fun _ h => by cases h⟩ ?_
  clear ha hr hb
  refine SeqG.next (.agg (row64 4 (words n))) (fun g og => Sure.load_W4 rfl 103 _ rfl w.heap.size rfl 103 _ (fun w' hS => hS.1.1) isRowNb (isSh _)) ?_
  simp only [Act.put, List.setIfInBounds_toArray, List.set_cons_zero, List.set_cons_succ]
  refine SeqG.next (.agg (row64 4 (words u0))) (fun g og => SureN.call (f := 90) (args := #[(.agg (row64 4 (words n))), .int .i64 1]) rfl (fun w' => by go_simp) (fun w' hS => (p0 w').mono fun e w'' h => ⟨h.1, h.2, hS.1.below h.2 hS.1.lt, hS.2.1.below h.2 hS.2.1.lt, hS.2.2.1.trans (h.2.mono hS.2.2.1.size), Nat.le_trans hS.2.2.2 h.2.size⟩)) ?_
  simp only [Act.put, List.setIfInBounds_toArray, List.set_cons_zero, List.set_cons_succ]
  refine SeqG.next (.agg (row64 4 (words n))) (fun g og => Sure.load_W4 rfl 103 _ rfl w.heap.size rfl 103 _ (fun w' hS => hS.1.1) isRowNb (isSh _)) ?_
  simp only [Act.put, List.setIfInBounds_toArray, List.set_cons_zero, List.set_cons_succ]
  refine SeqG.next (.agg (row64 4 (words v0))) (fun g og => SureN.call (f := 74) (args := #[(.agg (row64 4 (words u0))), (.agg (row64 4 (words n)))]) rfl (fun w' => by go_simp) (fun w' hS => (q0 w').mono fun e w'' h => ⟨h.1, h.2, hS.1.below h.2 hS.1.lt, hS.2.1.below h.2 hS.2.1.lt, hS.2.2.1.trans (h.2.mono hS.2.2.1.size), Nat.le_trans hS.2.2.2 h.2.size⟩)) ?_
  simp only [Act.put, List.setIfInBounds_toArray, List.set_cons_zero, List.set_cons_succ]
  refine SeqG.make (fun g => MakesN.blk rfl 103 rfl (row64 4 fun _ => 0) zNb3 w0.heap.size (fun w' hS => hS.2.2.2) (fun w' hS => ⟨hS.1.alloc _, hS.2.1.alloc _, hS.2.2.1.alloc hS.2.2.1.size _, Nat.le_trans hS.2.2.2 (by simp)⟩)) ?_
  simp only [Act.put, List.setIfInBounds_toArray, List.set_cons_zero, List.set_cons_succ]
  refine SeqG.store_N (fun _ => rfl) 103 _ _ rfl (fun _ => rfl) 103 (row64 4 fun _ => 0) (row64 4 (words v0)) (fun _ => rfl) (fun g w' hS => (hS.2 g rfl).1) (isSh _) (by rw [row64_size, row64_size]) (row64_one 4 _) fun g0 w' hS => ?_
  have hgl := (hS.2 g0 rfl).2
  have hnew : Row64 w' g0 103 4 (fun _ => 0) := (hS.2 g0 rfl).1
  have hwB : w.heap.size ≤ g0 := by omega
  have hall := And.intro (hnew.setRow (words v0)) (show Row64 (w'.setRow g0 (row64 4 (words v0))) w.heap.size 103 4 (words n) ∧ Row64 (w'.setRow g0 (row64 4 (words v0))) (w.heap.size + 1) 103 4 (fun _ => 0) ∧ Below w.heap.size w (w'.setRow g0 (row64 4 (words v0))) from ⟨hS.1.1.setRow_far (by omega) _, hS.1.2.1.setRow_far (by omega) _, below_setRow8 hS.1.2.2.1 hwB _⟩)
  clear hS hnew hgl hwB Lha Lhr
  simp only [Act.put]
  revert hall
  generalize w'.setRow g0 (row64 4 (words v0)) = w1
  rintro ⟨hv0, ha, hr, hb⟩
  go_wp2_with (fail)
  have Lha := ha.lt
  have Lhr := hr.lt
  have Lhv0 := hv0.lt
  refine region_made (SN (fun W' => Row64 W' w.heap.size 103 4 (words n) ∧ Row64 W' (w.heap.size + 1) 103 4 (fun _ => 0) ∧ Row64 W' g0 103 4 (words v0) ∧ Below w.heap.size w W' ∧ w1.heap.size ≤ W'.heap.size) fun g w' => Blk w' g 103 (row64 4 fun _ => 0) ∧ w1.heap.size ≤ g) mixedOrders (by kernel_rfl) (by simp) ⟨⟨ha.drew, hr.drew, hv0.drew, hb.drew, Nat.le_refl _⟩, fun _ h => by cases h⟩ ?_
  clear ha hr hv0 hb
  refine SeqG.next (.agg (row64 4 (words v0))) (fun g og => Sure.load_W4 rfl 103 _ rfl g0 rfl 103 _ (fun w' hS => hS.1.2.2.1) isRowNb (isSh _)) ?_
  simp only [Act.put, List.setIfInBounds_toArray, List.set_cons_zero, List.set_cons_succ]
  refine SeqG.next (.agg (row64 4 (words u1))) (fun g og => SureN.call (f := 90) (args := #[(.agg (row64 4 (words v0))), .int .i64 2]) rfl (fun w' => by go_simp) (fun w' hS => (p1 w').mono fun e w'' h => ⟨h.1, h.2, hS.1.below h.2 hS.1.lt, hS.2.1.below h.2 hS.2.1.lt, hS.2.2.1.below h.2 hS.2.2.1.lt, hS.2.2.2.1.trans (h.2.mono hS.2.2.2.1.size), Nat.le_trans hS.2.2.2.2 h.2.size⟩)) ?_
  simp only [Act.put, List.setIfInBounds_toArray, List.set_cons_zero, List.set_cons_succ]
  refine SeqG.next (.agg (row64 4 (words v0))) (fun g og => Sure.load_W4 rfl 103 _ rfl g0 rfl 103 _ (fun w' hS => hS.1.2.2.1) isRowNb (isSh _)) ?_
  simp only [Act.put, List.setIfInBounds_toArray, List.set_cons_zero, List.set_cons_succ]
  refine SeqG.next (.agg (row64 4 (words v1))) (fun g og => SureN.call (f := 74) (args := #[(.agg (row64 4 (words u1))), (.agg (row64 4 (words v0)))]) rfl (fun w' => by go_simp) (fun w' hS => (q1 w').mono fun e w'' h => ⟨h.1, h.2, hS.1.below h.2 hS.1.lt, hS.2.1.below h.2 hS.2.1.lt, hS.2.2.1.below h.2 hS.2.2.1.lt, hS.2.2.2.1.trans (h.2.mono hS.2.2.2.1.size), Nat.le_trans hS.2.2.2.2 h.2.size⟩)) ?_
  simp only [Act.put, List.setIfInBounds_toArray, List.set_cons_zero, List.set_cons_succ]
  refine SeqG.make (fun g => MakesN.blk rfl 103 rfl (row64 4 fun _ => 0) zNb3 w1.heap.size (fun w' hS => hS.2.2.2.2) (fun w' hS => ⟨hS.1.alloc _, hS.2.1.alloc _, hS.2.2.1.alloc _, hS.2.2.2.1.alloc hS.2.2.2.1.size _, Nat.le_trans hS.2.2.2.2 (by simp)⟩)) ?_
  simp only [Act.put, List.setIfInBounds_toArray, List.set_cons_zero, List.set_cons_succ]
  refine SeqG.store_N (fun _ => rfl) 103 _ _ rfl (fun _ => rfl) 103 (row64 4 fun _ => 0) (row64 4 (words v1)) (fun _ => rfl) (fun g w' hS => (hS.2 g rfl).1) (isSh _) (by rw [row64_size, row64_size]) (row64_one 4 _) fun g1 w' hS => ?_
  have hgl := (hS.2 g1 rfl).2
  have hnew : Row64 w' g1 103 4 (fun _ => 0) := (hS.2 g1 rfl).1
  have hwB : w.heap.size ≤ g1 := by omega
  have hall := And.intro (hnew.setRow (words v1)) (show Row64 (w'.setRow g1 (row64 4 (words v1))) w.heap.size 103 4 (words n) ∧ Row64 (w'.setRow g1 (row64 4 (words v1))) (w.heap.size + 1) 103 4 (fun _ => 0) ∧ Row64 (w'.setRow g1 (row64 4 (words v1))) g0 103 4 (words v0) ∧ Below w.heap.size w (w'.setRow g1 (row64 4 (words v1))) from ⟨hS.1.1.setRow_far (by omega) _, hS.1.2.1.setRow_far (by omega) _, hS.1.2.2.1.setRow_far (by omega) _, below_setRow8 hS.1.2.2.2.1 hwB _⟩)
  clear hS hnew hgl hwB Lha Lhr Lhv0
  simp only [Act.put]
  revert hall
  generalize w'.setRow g1 (row64 4 (words v1)) = w2
  rintro ⟨hv1, ha, hr, hv0, hb⟩
  go_wp2_with (fail)
  have Lha := ha.lt
  have Lhr := hr.lt
  have Lhv0 := hv0.lt
  have Lhv1 := hv1.lt
  refine region_made (SN (fun W' => Row64 W' w.heap.size 103 4 (words n) ∧ Row64 W' (w.heap.size + 1) 103 4 (fun _ => 0) ∧ Row64 W' g0 103 4 (words v0) ∧ Row64 W' g1 103 4 (words v1) ∧ Below w.heap.size w W' ∧ w2.heap.size ≤ W'.heap.size) fun g w' => Blk w' g 103 (row64 4 fun _ => 0) ∧ w2.heap.size ≤ g) mixedOrders (by kernel_rfl) (by simp) ⟨⟨ha.drew, hr.drew, hv0.drew, hv1.drew, hb.drew, Nat.le_refl _⟩, fun _ h => by cases h⟩ ?_
  clear ha hr hv0 hv1 hb
  refine SeqG.next (.agg (row64 4 (words v1))) (fun g og => Sure.load_W4 rfl 103 _ rfl g1 rfl 103 _ (fun w' hS => hS.1.2.2.2.1) isRowNb (isSh _)) ?_
  simp only [Act.put, List.setIfInBounds_toArray, List.set_cons_zero, List.set_cons_succ]
  refine SeqG.next (.agg (row64 4 (words u2))) (fun g og => SureN.call (f := 90) (args := #[(.agg (row64 4 (words v1))), .int .i64 1]) rfl (fun w' => by go_simp) (fun w' hS => (p2 w').mono fun e w'' h => ⟨h.1, h.2, hS.1.below h.2 hS.1.lt, hS.2.1.below h.2 hS.2.1.lt, hS.2.2.1.below h.2 hS.2.2.1.lt, hS.2.2.2.1.below h.2 hS.2.2.2.1.lt, hS.2.2.2.2.1.trans (h.2.mono hS.2.2.2.2.1.size), Nat.le_trans hS.2.2.2.2.2 h.2.size⟩)) ?_
  simp only [Act.put, List.setIfInBounds_toArray, List.set_cons_zero, List.set_cons_succ]
  refine SeqG.next (.agg (row64 4 (words n))) (fun g og => Sure.load_W4 rfl 103 _ rfl w.heap.size rfl 103 _ (fun w' hS => hS.1.1) isRowNb (isSh _)) ?_
  simp only [Act.put, List.setIfInBounds_toArray, List.set_cons_zero, List.set_cons_succ]
  refine SeqG.next (.agg (row64 4 (words v2))) (fun g og => SureN.call (f := 74) (args := #[(.agg (row64 4 (words u2))), (.agg (row64 4 (words n)))]) rfl (fun w' => by go_simp) (fun w' hS => (q2 w').mono fun e w'' h => ⟨h.1, h.2, hS.1.below h.2 hS.1.lt, hS.2.1.below h.2 hS.2.1.lt, hS.2.2.1.below h.2 hS.2.2.1.lt, hS.2.2.2.1.below h.2 hS.2.2.2.1.lt, hS.2.2.2.2.1.trans (h.2.mono hS.2.2.2.2.1.size), Nat.le_trans hS.2.2.2.2.2 h.2.size⟩)) ?_
  simp only [Act.put, List.setIfInBounds_toArray, List.set_cons_zero, List.set_cons_succ]
  refine SeqG.make (fun g => MakesN.blk rfl 103 rfl (row64 4 fun _ => 0) zNb3 w2.heap.size (fun w' hS => hS.2.2.2.2.2) (fun w' hS => ⟨hS.1.alloc _, hS.2.1.alloc _, hS.2.2.1.alloc _, hS.2.2.2.1.alloc _, hS.2.2.2.2.1.alloc hS.2.2.2.2.1.size _, Nat.le_trans hS.2.2.2.2.2 (by simp)⟩)) ?_
  simp only [Act.put, List.setIfInBounds_toArray, List.set_cons_zero, List.set_cons_succ]
  refine SeqG.store_N (fun _ => rfl) 103 _ _ rfl (fun _ => rfl) 103 (row64 4 fun _ => 0) (row64 4 (words v2)) (fun _ => rfl) (fun g w' hS => (hS.2 g rfl).1) (isSh _) (by rw [row64_size, row64_size]) (row64_one 4 _) fun g2 w' hS => ?_
  have hgl := (hS.2 g2 rfl).2
  have hnew : Row64 w' g2 103 4 (fun _ => 0) := (hS.2 g2 rfl).1
  have hwB : w.heap.size ≤ g2 := by omega
  have hall := And.intro (hnew.setRow (words v2)) (show Row64 (w'.setRow g2 (row64 4 (words v2))) w.heap.size 103 4 (words n) ∧ Row64 (w'.setRow g2 (row64 4 (words v2))) (w.heap.size + 1) 103 4 (fun _ => 0) ∧ Row64 (w'.setRow g2 (row64 4 (words v2))) g0 103 4 (words v0) ∧ Row64 (w'.setRow g2 (row64 4 (words v2))) g1 103 4 (words v1) ∧ Below w.heap.size w (w'.setRow g2 (row64 4 (words v2))) from ⟨hS.1.1.setRow_far (by omega) _, hS.1.2.1.setRow_far (by omega) _, hS.1.2.2.1.setRow_far (by omega) _, hS.1.2.2.2.1.setRow_far (by omega) _, below_setRow8 hS.1.2.2.2.2.1 hwB _⟩)
  clear hS hnew hgl hwB Lha Lhr Lhv0 Lhv1
  simp only [Act.put]
  revert hall
  generalize w'.setRow g2 (row64 4 (words v2)) = w3
  rintro ⟨hv2, ha, hr, hv0, hv1, hb⟩
  go_wp2_with (fail)
  have Lha := ha.lt
  have Lhr := hr.lt
  have Lhv0 := hv0.lt
  have Lhv1 := hv1.lt
  have Lhv2 := hv2.lt
  refine region_made (SN (fun W' => Row64 W' w.heap.size 103 4 (words n) ∧ Row64 W' (w.heap.size + 1) 103 4 (fun _ => 0) ∧ Row64 W' g0 103 4 (words v0) ∧ Row64 W' g1 103 4 (words v1) ∧ Row64 W' g2 103 4 (words v2) ∧ Below w.heap.size w W' ∧ w3.heap.size ≤ W'.heap.size) fun g w' => Blk w' g 103 (row64 4 fun _ => 0) ∧ w3.heap.size ≤ g) mixedOrders (by kernel_rfl) (by simp) ⟨⟨ha.drew, hr.drew, hv0.drew, hv1.drew, hv2.drew, hb.drew, Nat.le_refl _⟩, fun _ h => by cases h⟩ ?_
  clear ha hr hv0 hv1 hv2 hb
  refine SeqG.next (.agg (row64 4 (words v2))) (fun g og => Sure.load_W4 rfl 103 _ rfl g2 rfl 103 _ (fun w' hS => hS.1.2.2.2.2.1) isRowNb (isSh _)) ?_
  simp only [Act.put, List.setIfInBounds_toArray, List.set_cons_zero, List.set_cons_succ]
  refine SeqG.next (.agg (row64 4 (words u3))) (fun g og => SureN.call (f := 90) (args := #[(.agg (row64 4 (words v2))), .int .i64 5]) rfl (fun w' => by go_simp) (fun w' hS => (p3 w').mono fun e w'' h => ⟨h.1, h.2, hS.1.below h.2 hS.1.lt, hS.2.1.below h.2 hS.2.1.lt, hS.2.2.1.below h.2 hS.2.2.1.lt, hS.2.2.2.1.below h.2 hS.2.2.2.1.lt, hS.2.2.2.2.1.below h.2 hS.2.2.2.2.1.lt, hS.2.2.2.2.2.1.trans (h.2.mono hS.2.2.2.2.2.1.size), Nat.le_trans hS.2.2.2.2.2.2 h.2.size⟩)) ?_
  simp only [Act.put, List.setIfInBounds_toArray, List.set_cons_zero, List.set_cons_succ]
  refine SeqG.next (.agg (row64 4 (words v2))) (fun g og => Sure.load_W4 rfl 103 _ rfl g2 rfl 103 _ (fun w' hS => hS.1.2.2.2.2.1) isRowNb (isSh _)) ?_
  simp only [Act.put, List.setIfInBounds_toArray, List.set_cons_zero, List.set_cons_succ]
  refine SeqG.next (.agg (row64 4 (words v3))) (fun g og => SureN.call (f := 74) (args := #[(.agg (row64 4 (words u3))), (.agg (row64 4 (words v2)))]) rfl (fun w' => by go_simp) (fun w' hS => (q3 w').mono fun e w'' h => ⟨h.1, h.2, hS.1.below h.2 hS.1.lt, hS.2.1.below h.2 hS.2.1.lt, hS.2.2.1.below h.2 hS.2.2.1.lt, hS.2.2.2.1.below h.2 hS.2.2.2.1.lt, hS.2.2.2.2.1.below h.2 hS.2.2.2.2.1.lt, hS.2.2.2.2.2.1.trans (h.2.mono hS.2.2.2.2.2.1.size), Nat.le_trans hS.2.2.2.2.2.2 h.2.size⟩)) ?_
  simp only [Act.put, List.setIfInBounds_toArray, List.set_cons_zero, List.set_cons_succ]
  refine SeqG.make (fun g => MakesN.blk rfl 103 rfl (row64 4 fun _ => 0) zNb3 w3.heap.size (fun w' hS => hS.2.2.2.2.2.2) (fun w' hS => ⟨hS.1.alloc _, hS.2.1.alloc _, hS.2.2.1.alloc _, hS.2.2.2.1.alloc _, hS.2.2.2.2.1.alloc _, hS.2.2.2.2.2.1.alloc hS.2.2.2.2.2.1.size _, Nat.le_trans hS.2.2.2.2.2.2 (by simp)⟩)) ?_
  simp only [Act.put, List.setIfInBounds_toArray, List.set_cons_zero, List.set_cons_succ]
  refine SeqG.store_N (fun _ => rfl) 103 _ _ rfl (fun _ => rfl) 103 (row64 4 fun _ => 0) (row64 4 (words v3)) (fun _ => rfl) (fun g w' hS => (hS.2 g rfl).1) (isSh _) (by rw [row64_size, row64_size]) (row64_one 4 _) fun g3 w' hS => ?_
  have hgl := (hS.2 g3 rfl).2
  have hnew : Row64 w' g3 103 4 (fun _ => 0) := (hS.2 g3 rfl).1
  have hwB : w.heap.size ≤ g3 := by omega
  have hall := And.intro (hnew.setRow (words v3)) (show Row64 (w'.setRow g3 (row64 4 (words v3))) w.heap.size 103 4 (words n) ∧ Row64 (w'.setRow g3 (row64 4 (words v3))) (w.heap.size + 1) 103 4 (fun _ => 0) ∧ Row64 (w'.setRow g3 (row64 4 (words v3))) g0 103 4 (words v0) ∧ Row64 (w'.setRow g3 (row64 4 (words v3))) g1 103 4 (words v1) ∧ Row64 (w'.setRow g3 (row64 4 (words v3))) g2 103 4 (words v2) ∧ Below w.heap.size w (w'.setRow g3 (row64 4 (words v3))) from ⟨hS.1.1.setRow_far (by omega) _, hS.1.2.1.setRow_far (by omega) _, hS.1.2.2.1.setRow_far (by omega) _, hS.1.2.2.2.1.setRow_far (by omega) _, hS.1.2.2.2.2.1.setRow_far (by omega) _, below_setRow8 hS.1.2.2.2.2.2.1 hwB _⟩)
  clear hS hnew hgl hwB Lha Lhr Lhv0 Lhv1 Lhv2
  simp only [Act.put]
  revert hall
  generalize w'.setRow g3 (row64 4 (words v3)) = w4
  rintro ⟨hv3, ha, hr, hv0, hv1, hv2, hb⟩
  go_wp2_with (fail)
  have Lha := ha.lt
  have Lhr := hr.lt
  have Lhv0 := hv0.lt
  have Lhv1 := hv1.lt
  have Lhv2 := hv2.lt
  have Lhv3 := hv3.lt
  refine region_made (SN (fun W' => Row64 W' w.heap.size 103 4 (words n) ∧ Row64 W' (w.heap.size + 1) 103 4 (fun _ => 0) ∧ Row64 W' g0 103 4 (words v0) ∧ Row64 W' g1 103 4 (words v1) ∧ Row64 W' g2 103 4 (words v2) ∧ Row64 W' g3 103 4 (words v3) ∧ Below w.heap.size w W' ∧ w4.heap.size ≤ W'.heap.size) fun g w' => Blk w' g 103 (row64 4 fun _ => 0) ∧ w4.heap.size ≤ g) mixedOrders (by kernel_rfl) (by simp) ⟨⟨ha.drew, hr.drew, hv0.drew, hv1.drew, hv2.drew, hv3.drew, hb.drew, Nat.le_refl _⟩, fun _ h => by cases h⟩ ?_
  clear ha hr hv0 hv1 hv2 hv3 hb
  refine SeqG.next (.agg (row64 4 (words v3))) (fun g og => Sure.load_W4 rfl 103 _ rfl g3 rfl 103 _ (fun w' hS => hS.1.2.2.2.2.2.1) isRowNb (isSh _)) ?_
  simp only [Act.put, List.setIfInBounds_toArray, List.set_cons_zero, List.set_cons_succ]
  refine SeqG.next (.agg (row64 4 (words u4))) (fun g og => SureN.call (f := 90) (args := #[(.agg (row64 4 (words v3))), .int .i64 10]) rfl (fun w' => by go_simp) (fun w' hS => (p4 w').mono fun e w'' h => ⟨h.1, h.2, hS.1.below h.2 hS.1.lt, hS.2.1.below h.2 hS.2.1.lt, hS.2.2.1.below h.2 hS.2.2.1.lt, hS.2.2.2.1.below h.2 hS.2.2.2.1.lt, hS.2.2.2.2.1.below h.2 hS.2.2.2.2.1.lt, hS.2.2.2.2.2.1.below h.2 hS.2.2.2.2.2.1.lt, hS.2.2.2.2.2.2.1.trans (h.2.mono hS.2.2.2.2.2.2.1.size), Nat.le_trans hS.2.2.2.2.2.2.2 h.2.size⟩)) ?_
  simp only [Act.put, List.setIfInBounds_toArray, List.set_cons_zero, List.set_cons_succ]
  refine SeqG.next (.agg (row64 4 (words v3))) (fun g og => Sure.load_W4 rfl 103 _ rfl g3 rfl 103 _ (fun w' hS => hS.1.2.2.2.2.2.1) isRowNb (isSh _)) ?_
  simp only [Act.put, List.setIfInBounds_toArray, List.set_cons_zero, List.set_cons_succ]
  refine SeqG.next (.agg (row64 4 (words v4))) (fun g og => SureN.call (f := 74) (args := #[(.agg (row64 4 (words u4))), (.agg (row64 4 (words v3)))]) rfl (fun w' => by go_simp) (fun w' hS => (q4 w').mono fun e w'' h => ⟨h.1, h.2, hS.1.below h.2 hS.1.lt, hS.2.1.below h.2 hS.2.1.lt, hS.2.2.1.below h.2 hS.2.2.1.lt, hS.2.2.2.1.below h.2 hS.2.2.2.1.lt, hS.2.2.2.2.1.below h.2 hS.2.2.2.2.1.lt, hS.2.2.2.2.2.1.below h.2 hS.2.2.2.2.2.1.lt, hS.2.2.2.2.2.2.1.trans (h.2.mono hS.2.2.2.2.2.2.1.size), Nat.le_trans hS.2.2.2.2.2.2.2 h.2.size⟩)) ?_
  simp only [Act.put, List.setIfInBounds_toArray, List.set_cons_zero, List.set_cons_succ]
  refine SeqG.make (fun g => MakesN.blk rfl 103 rfl (row64 4 fun _ => 0) zNb3 w4.heap.size (fun w' hS => hS.2.2.2.2.2.2.2) (fun w' hS => ⟨hS.1.alloc _, hS.2.1.alloc _, hS.2.2.1.alloc _, hS.2.2.2.1.alloc _, hS.2.2.2.2.1.alloc _, hS.2.2.2.2.2.1.alloc _, hS.2.2.2.2.2.2.1.alloc hS.2.2.2.2.2.2.1.size _, Nat.le_trans hS.2.2.2.2.2.2.2 (by simp)⟩)) ?_
  simp only [Act.put, List.setIfInBounds_toArray, List.set_cons_zero, List.set_cons_succ]
  refine SeqG.store_N (fun _ => rfl) 103 _ _ rfl (fun _ => rfl) 103 (row64 4 fun _ => 0) (row64 4 (words v4)) (fun _ => rfl) (fun g w' hS => (hS.2 g rfl).1) (isSh _) (by rw [row64_size, row64_size]) (row64_one 4 _) fun g4 w' hS => ?_
  have hgl := (hS.2 g4 rfl).2
  have hnew : Row64 w' g4 103 4 (fun _ => 0) := (hS.2 g4 rfl).1
  have hwB : w.heap.size ≤ g4 := by omega
  have hall := And.intro (hnew.setRow (words v4)) (show Row64 (w'.setRow g4 (row64 4 (words v4))) w.heap.size 103 4 (words n) ∧ Row64 (w'.setRow g4 (row64 4 (words v4))) (w.heap.size + 1) 103 4 (fun _ => 0) ∧ Row64 (w'.setRow g4 (row64 4 (words v4))) g0 103 4 (words v0) ∧ Row64 (w'.setRow g4 (row64 4 (words v4))) g1 103 4 (words v1) ∧ Row64 (w'.setRow g4 (row64 4 (words v4))) g2 103 4 (words v2) ∧ Row64 (w'.setRow g4 (row64 4 (words v4))) g3 103 4 (words v3) ∧ Below w.heap.size w (w'.setRow g4 (row64 4 (words v4))) from ⟨hS.1.1.setRow_far (by omega) _, hS.1.2.1.setRow_far (by omega) _, hS.1.2.2.1.setRow_far (by omega) _, hS.1.2.2.2.1.setRow_far (by omega) _, hS.1.2.2.2.2.1.setRow_far (by omega) _, hS.1.2.2.2.2.2.1.setRow_far (by omega) _, below_setRow8 hS.1.2.2.2.2.2.2.1 hwB _⟩)
  clear hS hnew hgl hwB Lha Lhr Lhv0 Lhv1 Lhv2 Lhv3
  simp only [Act.put]
  revert hall
  generalize w'.setRow g4 (row64 4 (words v4)) = w5
  rintro ⟨hv4, ha, hr, hv0, hv1, hv2, hv3, hb⟩
  go_wp2_with (fail)
  have Lha := ha.lt
  have Lhr := hr.lt
  have Lhv0 := hv0.lt
  have Lhv1 := hv1.lt
  have Lhv2 := hv2.lt
  have Lhv3 := hv3.lt
  have Lhv4 := hv4.lt
  refine region_made (SN (fun W' => Row64 W' w.heap.size 103 4 (words n) ∧ Row64 W' (w.heap.size + 1) 103 4 (fun _ => 0) ∧ Row64 W' g0 103 4 (words v0) ∧ Row64 W' g1 103 4 (words v1) ∧ Row64 W' g2 103 4 (words v2) ∧ Row64 W' g3 103 4 (words v3) ∧ Row64 W' g4 103 4 (words v4) ∧ Below w.heap.size w W' ∧ w5.heap.size ≤ W'.heap.size) fun g w' => Blk w' g 103 (row64 4 fun _ => 0) ∧ w5.heap.size ≤ g) mixedOrders (by kernel_rfl) (by simp) ⟨⟨ha.drew, hr.drew, hv0.drew, hv1.drew, hv2.drew, hv3.drew, hv4.drew, hb.drew, Nat.le_refl _⟩, fun _ h => by cases h⟩ ?_
  clear ha hr hv0 hv1 hv2 hv3 hv4 hb
  refine SeqG.next (.agg (row64 4 (words v4))) (fun g og => Sure.load_W4 rfl 103 _ rfl g4 rfl 103 _ (fun w' hS => hS.1.2.2.2.2.2.2.1) isRowNb (isSh _)) ?_
  simp only [Act.put, List.setIfInBounds_toArray, List.set_cons_zero, List.set_cons_succ]
  refine SeqG.next (.agg (row64 4 (words u5))) (fun g og => SureN.call (f := 90) (args := #[(.agg (row64 4 (words v4))), .int .i64 20]) rfl (fun w' => by go_simp) (fun w' hS => (p5 w').mono fun e w'' h => ⟨h.1, h.2, hS.1.below h.2 hS.1.lt, hS.2.1.below h.2 hS.2.1.lt, hS.2.2.1.below h.2 hS.2.2.1.lt, hS.2.2.2.1.below h.2 hS.2.2.2.1.lt, hS.2.2.2.2.1.below h.2 hS.2.2.2.2.1.lt, hS.2.2.2.2.2.1.below h.2 hS.2.2.2.2.2.1.lt, hS.2.2.2.2.2.2.1.below h.2 hS.2.2.2.2.2.2.1.lt, hS.2.2.2.2.2.2.2.1.trans (h.2.mono hS.2.2.2.2.2.2.2.1.size), Nat.le_trans hS.2.2.2.2.2.2.2.2 h.2.size⟩)) ?_
  simp only [Act.put, List.setIfInBounds_toArray, List.set_cons_zero, List.set_cons_succ]
  refine SeqG.next (.agg (row64 4 (words v4))) (fun g og => Sure.load_W4 rfl 103 _ rfl g4 rfl 103 _ (fun w' hS => hS.1.2.2.2.2.2.2.1) isRowNb (isSh _)) ?_
  simp only [Act.put, List.setIfInBounds_toArray, List.set_cons_zero, List.set_cons_succ]
  refine SeqG.next (.agg (row64 4 (words v5))) (fun g og => SureN.call (f := 74) (args := #[(.agg (row64 4 (words u5))), (.agg (row64 4 (words v4)))]) rfl (fun w' => by go_simp) (fun w' hS => (q5 w').mono fun e w'' h => ⟨h.1, h.2, hS.1.below h.2 hS.1.lt, hS.2.1.below h.2 hS.2.1.lt, hS.2.2.1.below h.2 hS.2.2.1.lt, hS.2.2.2.1.below h.2 hS.2.2.2.1.lt, hS.2.2.2.2.1.below h.2 hS.2.2.2.2.1.lt, hS.2.2.2.2.2.1.below h.2 hS.2.2.2.2.2.1.lt, hS.2.2.2.2.2.2.1.below h.2 hS.2.2.2.2.2.2.1.lt, hS.2.2.2.2.2.2.2.1.trans (h.2.mono hS.2.2.2.2.2.2.2.1.size), Nat.le_trans hS.2.2.2.2.2.2.2.2 h.2.size⟩)) ?_
  simp only [Act.put, List.setIfInBounds_toArray, List.set_cons_zero, List.set_cons_succ]
  refine SeqG.make (fun g => MakesN.blk rfl 103 rfl (row64 4 fun _ => 0) zNb3 w5.heap.size (fun w' hS => hS.2.2.2.2.2.2.2.2) (fun w' hS => ⟨hS.1.alloc _, hS.2.1.alloc _, hS.2.2.1.alloc _, hS.2.2.2.1.alloc _, hS.2.2.2.2.1.alloc _, hS.2.2.2.2.2.1.alloc _, hS.2.2.2.2.2.2.1.alloc _, hS.2.2.2.2.2.2.2.1.alloc hS.2.2.2.2.2.2.2.1.size _, Nat.le_trans hS.2.2.2.2.2.2.2.2 (by simp)⟩)) ?_
  simp only [Act.put, List.setIfInBounds_toArray, List.set_cons_zero, List.set_cons_succ]
  refine SeqG.store_N (fun _ => rfl) 103 _ _ rfl (fun _ => rfl) 103 (row64 4 fun _ => 0) (row64 4 (words v5)) (fun _ => rfl) (fun g w' hS => (hS.2 g rfl).1) (isSh _) (by rw [row64_size, row64_size]) (row64_one 4 _) fun g5 w' hS => ?_
  have hgl := (hS.2 g5 rfl).2
  have hnew : Row64 w' g5 103 4 (fun _ => 0) := (hS.2 g5 rfl).1
  have hwB : w.heap.size ≤ g5 := by omega
  have hall := And.intro (hnew.setRow (words v5)) (show Row64 (w'.setRow g5 (row64 4 (words v5))) w.heap.size 103 4 (words n) ∧ Row64 (w'.setRow g5 (row64 4 (words v5))) (w.heap.size + 1) 103 4 (fun _ => 0) ∧ Row64 (w'.setRow g5 (row64 4 (words v5))) g0 103 4 (words v0) ∧ Row64 (w'.setRow g5 (row64 4 (words v5))) g1 103 4 (words v1) ∧ Row64 (w'.setRow g5 (row64 4 (words v5))) g2 103 4 (words v2) ∧ Row64 (w'.setRow g5 (row64 4 (words v5))) g3 103 4 (words v3) ∧ Row64 (w'.setRow g5 (row64 4 (words v5))) g4 103 4 (words v4) ∧ Below w.heap.size w (w'.setRow g5 (row64 4 (words v5))) from ⟨hS.1.1.setRow_far (by omega) _, hS.1.2.1.setRow_far (by omega) _, hS.1.2.2.1.setRow_far (by omega) _, hS.1.2.2.2.1.setRow_far (by omega) _, hS.1.2.2.2.2.1.setRow_far (by omega) _, hS.1.2.2.2.2.2.1.setRow_far (by omega) _, hS.1.2.2.2.2.2.2.1.setRow_far (by omega) _, below_setRow8 hS.1.2.2.2.2.2.2.2.1 hwB _⟩)
  clear hS hnew hgl hwB Lha Lhr Lhv0 Lhv1 Lhv2 Lhv3 Lhv4
  simp only [Act.put]
  revert hall
  generalize w'.setRow g5 (row64 4 (words v5)) = w6
  rintro ⟨hv5, ha, hr, hv0, hv1, hv2, hv3, hv4, hb⟩
  go_wp2_with (fail)
  have Lha := ha.lt
  have Lhr := hr.lt
  have Lhv0 := hv0.lt
  have Lhv1 := hv1.lt
  have Lhv2 := hv2.lt
  have Lhv3 := hv3.lt
  have Lhv4 := hv4.lt
  have Lhv5 := hv5.lt
  refine region_made (SN (fun W' => Row64 W' w.heap.size 103 4 (words n) ∧ Row64 W' (w.heap.size + 1) 103 4 (fun _ => 0) ∧ Row64 W' g0 103 4 (words v0) ∧ Row64 W' g1 103 4 (words v1) ∧ Row64 W' g2 103 4 (words v2) ∧ Row64 W' g3 103 4 (words v3) ∧ Row64 W' g4 103 4 (words v4) ∧ Row64 W' g5 103 4 (words v5) ∧ Below w.heap.size w W' ∧ w6.heap.size ≤ W'.heap.size) fun g w' => Blk w' g 103 (row64 4 fun _ => 0) ∧ w6.heap.size ≤ g) mixedOrders (by kernel_rfl) (by simp) ⟨⟨ha.drew, hr.drew, hv0.drew, hv1.drew, hv2.drew, hv3.drew, hv4.drew, hv5.drew, hb.drew, Nat.le_refl _⟩, fun _ h => by cases h⟩ ?_
  clear ha hr hv0 hv1 hv2 hv3 hv4 hv5 hb
  refine SeqG.next (.agg (row64 4 (words v5))) (fun g og => Sure.load_W4 rfl 103 _ rfl g5 rfl 103 _ (fun w' hS => hS.1.2.2.2.2.2.2.2.1) isRowNb (isSh _)) ?_
  simp only [Act.put, List.setIfInBounds_toArray, List.set_cons_zero, List.set_cons_succ]
  refine SeqG.next (.agg (row64 4 (words u6))) (fun g og => SureN.call (f := 90) (args := #[(.agg (row64 4 (words v5))), .int .i64 10]) rfl (fun w' => by go_simp) (fun w' hS => (p6 w').mono fun e w'' h => ⟨h.1, h.2, hS.1.below h.2 hS.1.lt, hS.2.1.below h.2 hS.2.1.lt, hS.2.2.1.below h.2 hS.2.2.1.lt, hS.2.2.2.1.below h.2 hS.2.2.2.1.lt, hS.2.2.2.2.1.below h.2 hS.2.2.2.2.1.lt, hS.2.2.2.2.2.1.below h.2 hS.2.2.2.2.2.1.lt, hS.2.2.2.2.2.2.1.below h.2 hS.2.2.2.2.2.2.1.lt, hS.2.2.2.2.2.2.2.1.below h.2 hS.2.2.2.2.2.2.2.1.lt, hS.2.2.2.2.2.2.2.2.1.trans (h.2.mono hS.2.2.2.2.2.2.2.2.1.size), Nat.le_trans hS.2.2.2.2.2.2.2.2.2 h.2.size⟩)) ?_
  simp only [Act.put, List.setIfInBounds_toArray, List.set_cons_zero, List.set_cons_succ]
  refine SeqG.next (.agg (row64 4 (words v3))) (fun g og => Sure.load_W4 rfl 103 _ rfl g3 rfl 103 _ (fun w' hS => hS.1.2.2.2.2.2.1) isRowNb (isSh _)) ?_
  simp only [Act.put, List.setIfInBounds_toArray, List.set_cons_zero, List.set_cons_succ]
  refine SeqG.next (.agg (row64 4 (words v6))) (fun g og => SureN.call (f := 74) (args := #[(.agg (row64 4 (words u6))), (.agg (row64 4 (words v3)))]) rfl (fun w' => by go_simp) (fun w' hS => (q6 w').mono fun e w'' h => ⟨h.1, h.2, hS.1.below h.2 hS.1.lt, hS.2.1.below h.2 hS.2.1.lt, hS.2.2.1.below h.2 hS.2.2.1.lt, hS.2.2.2.1.below h.2 hS.2.2.2.1.lt, hS.2.2.2.2.1.below h.2 hS.2.2.2.2.1.lt, hS.2.2.2.2.2.1.below h.2 hS.2.2.2.2.2.1.lt, hS.2.2.2.2.2.2.1.below h.2 hS.2.2.2.2.2.2.1.lt, hS.2.2.2.2.2.2.2.1.below h.2 hS.2.2.2.2.2.2.2.1.lt, hS.2.2.2.2.2.2.2.2.1.trans (h.2.mono hS.2.2.2.2.2.2.2.2.1.size), Nat.le_trans hS.2.2.2.2.2.2.2.2.2 h.2.size⟩)) ?_
  simp only [Act.put, List.setIfInBounds_toArray, List.set_cons_zero, List.set_cons_succ]
  refine SeqG.make (fun g => MakesN.blk rfl 103 rfl (row64 4 fun _ => 0) zNb3 w6.heap.size (fun w' hS => hS.2.2.2.2.2.2.2.2.2) (fun w' hS => ⟨hS.1.alloc _, hS.2.1.alloc _, hS.2.2.1.alloc _, hS.2.2.2.1.alloc _, hS.2.2.2.2.1.alloc _, hS.2.2.2.2.2.1.alloc _, hS.2.2.2.2.2.2.1.alloc _, hS.2.2.2.2.2.2.2.1.alloc _, hS.2.2.2.2.2.2.2.2.1.alloc hS.2.2.2.2.2.2.2.2.1.size _, Nat.le_trans hS.2.2.2.2.2.2.2.2.2 (by simp)⟩)) ?_
  simp only [Act.put, List.setIfInBounds_toArray, List.set_cons_zero, List.set_cons_succ]
  refine SeqG.store_N (fun _ => rfl) 103 _ _ rfl (fun _ => rfl) 103 (row64 4 fun _ => 0) (row64 4 (words v6)) (fun _ => rfl) (fun g w' hS => (hS.2 g rfl).1) (isSh _) (by rw [row64_size, row64_size]) (row64_one 4 _) fun g6 w' hS => ?_
  have hgl := (hS.2 g6 rfl).2
  have hnew : Row64 w' g6 103 4 (fun _ => 0) := (hS.2 g6 rfl).1
  have hwB : w.heap.size ≤ g6 := by omega
  have hall := And.intro (hnew.setRow (words v6)) (show Row64 (w'.setRow g6 (row64 4 (words v6))) w.heap.size 103 4 (words n) ∧ Row64 (w'.setRow g6 (row64 4 (words v6))) (w.heap.size + 1) 103 4 (fun _ => 0) ∧ Row64 (w'.setRow g6 (row64 4 (words v6))) g0 103 4 (words v0) ∧ Row64 (w'.setRow g6 (row64 4 (words v6))) g1 103 4 (words v1) ∧ Row64 (w'.setRow g6 (row64 4 (words v6))) g2 103 4 (words v2) ∧ Row64 (w'.setRow g6 (row64 4 (words v6))) g3 103 4 (words v3) ∧ Row64 (w'.setRow g6 (row64 4 (words v6))) g4 103 4 (words v4) ∧ Row64 (w'.setRow g6 (row64 4 (words v6))) g5 103 4 (words v5) ∧ Below w.heap.size w (w'.setRow g6 (row64 4 (words v6))) from ⟨hS.1.1.setRow_far (by omega) _, hS.1.2.1.setRow_far (by omega) _, hS.1.2.2.1.setRow_far (by omega) _, hS.1.2.2.2.1.setRow_far (by omega) _, hS.1.2.2.2.2.1.setRow_far (by omega) _, hS.1.2.2.2.2.2.1.setRow_far (by omega) _, hS.1.2.2.2.2.2.2.1.setRow_far (by omega) _, hS.1.2.2.2.2.2.2.2.1.setRow_far (by omega) _, below_setRow8 hS.1.2.2.2.2.2.2.2.2.1 hwB _⟩)
  clear hS hnew hgl hwB Lha Lhr Lhv0 Lhv1 Lhv2 Lhv3 Lhv4 Lhv5
  simp only [Act.put]
  revert hall
  generalize w'.setRow g6 (row64 4 (words v6)) = w7
  rintro ⟨hv6, ha, hr, hv0, hv1, hv2, hv3, hv4, hv5, hb⟩
  go_wp2_with (fail)
  have Lha := ha.lt
  have Lhr := hr.lt
  have Lhv0 := hv0.lt
  have Lhv1 := hv1.lt
  have Lhv2 := hv2.lt
  have Lhv3 := hv3.lt
  have Lhv4 := hv4.lt
  have Lhv5 := hv5.lt
  have Lhv6 := hv6.lt
  refine region_made (SN (fun W' => Row64 W' w.heap.size 103 4 (words n) ∧ Row64 W' (w.heap.size + 1) 103 4 (fun _ => 0) ∧ Row64 W' g0 103 4 (words v0) ∧ Row64 W' g1 103 4 (words v1) ∧ Row64 W' g2 103 4 (words v2) ∧ Row64 W' g3 103 4 (words v3) ∧ Row64 W' g4 103 4 (words v4) ∧ Row64 W' g5 103 4 (words v5) ∧ Row64 W' g6 103 4 (words v6) ∧ Below w.heap.size w W' ∧ w7.heap.size ≤ W'.heap.size) fun g w' => Blk w' g 103 (row64 4 fun _ => 0) ∧ w7.heap.size ≤ g) mixedOrders (by kernel_rfl) (by simp) ⟨⟨ha.drew, hr.drew, hv0.drew, hv1.drew, hv2.drew, hv3.drew, hv4.drew, hv5.drew, hv6.drew, hb.drew, Nat.le_refl _⟩, fun _ h => by cases h⟩ ?_
  clear ha hr hv0 hv1 hv2 hv3 hv4 hv5 hv6 hb
  refine SeqG.next (.agg (row64 4 (words v6))) (fun g og => Sure.load_W4 rfl 103 _ rfl g6 rfl 103 _ (fun w' hS => hS.1.2.2.2.2.2.2.2.2.1) isRowNb (isSh _)) ?_
  simp only [Act.put, List.setIfInBounds_toArray, List.set_cons_zero, List.set_cons_succ]
  refine SeqG.next (.agg (row64 4 (words u7))) (fun g og => SureN.call (f := 90) (args := #[(.agg (row64 4 (words v6))), .int .i64 50]) rfl (fun w' => by go_simp) (fun w' hS => (p7 w').mono fun e w'' h => ⟨h.1, h.2, hS.1.below h.2 hS.1.lt, hS.2.1.below h.2 hS.2.1.lt, hS.2.2.1.below h.2 hS.2.2.1.lt, hS.2.2.2.1.below h.2 hS.2.2.2.1.lt, hS.2.2.2.2.1.below h.2 hS.2.2.2.2.1.lt, hS.2.2.2.2.2.1.below h.2 hS.2.2.2.2.2.1.lt, hS.2.2.2.2.2.2.1.below h.2 hS.2.2.2.2.2.2.1.lt, hS.2.2.2.2.2.2.2.1.below h.2 hS.2.2.2.2.2.2.2.1.lt, hS.2.2.2.2.2.2.2.2.1.below h.2 hS.2.2.2.2.2.2.2.2.1.lt, hS.2.2.2.2.2.2.2.2.2.1.trans (h.2.mono hS.2.2.2.2.2.2.2.2.2.1.size), Nat.le_trans hS.2.2.2.2.2.2.2.2.2.2 h.2.size⟩)) ?_
  simp only [Act.put, List.setIfInBounds_toArray, List.set_cons_zero, List.set_cons_succ]
  refine SeqG.next (.agg (row64 4 (words v6))) (fun g og => Sure.load_W4 rfl 103 _ rfl g6 rfl 103 _ (fun w' hS => hS.1.2.2.2.2.2.2.2.2.1) isRowNb (isSh _)) ?_
  simp only [Act.put, List.setIfInBounds_toArray, List.set_cons_zero, List.set_cons_succ]
  refine SeqG.next (.agg (row64 4 (words v7))) (fun g og => SureN.call (f := 74) (args := #[(.agg (row64 4 (words u7))), (.agg (row64 4 (words v6)))]) rfl (fun w' => by go_simp) (fun w' hS => (q7 w').mono fun e w'' h => ⟨h.1, h.2, hS.1.below h.2 hS.1.lt, hS.2.1.below h.2 hS.2.1.lt, hS.2.2.1.below h.2 hS.2.2.1.lt, hS.2.2.2.1.below h.2 hS.2.2.2.1.lt, hS.2.2.2.2.1.below h.2 hS.2.2.2.2.1.lt, hS.2.2.2.2.2.1.below h.2 hS.2.2.2.2.2.1.lt, hS.2.2.2.2.2.2.1.below h.2 hS.2.2.2.2.2.2.1.lt, hS.2.2.2.2.2.2.2.1.below h.2 hS.2.2.2.2.2.2.2.1.lt, hS.2.2.2.2.2.2.2.2.1.below h.2 hS.2.2.2.2.2.2.2.2.1.lt, hS.2.2.2.2.2.2.2.2.2.1.trans (h.2.mono hS.2.2.2.2.2.2.2.2.2.1.size), Nat.le_trans hS.2.2.2.2.2.2.2.2.2.2 h.2.size⟩)) ?_
  simp only [Act.put, List.setIfInBounds_toArray, List.set_cons_zero, List.set_cons_succ]
  refine SeqG.make (fun g => MakesN.blk rfl 103 rfl (row64 4 fun _ => 0) zNb3 w7.heap.size (fun w' hS => hS.2.2.2.2.2.2.2.2.2.2) (fun w' hS => ⟨hS.1.alloc _, hS.2.1.alloc _, hS.2.2.1.alloc _, hS.2.2.2.1.alloc _, hS.2.2.2.2.1.alloc _, hS.2.2.2.2.2.1.alloc _, hS.2.2.2.2.2.2.1.alloc _, hS.2.2.2.2.2.2.2.1.alloc _, hS.2.2.2.2.2.2.2.2.1.alloc _, hS.2.2.2.2.2.2.2.2.2.1.alloc hS.2.2.2.2.2.2.2.2.2.1.size _, Nat.le_trans hS.2.2.2.2.2.2.2.2.2.2 (by simp)⟩)) ?_
  simp only [Act.put, List.setIfInBounds_toArray, List.set_cons_zero, List.set_cons_succ]
  refine SeqG.store_N (fun _ => rfl) 103 _ _ rfl (fun _ => rfl) 103 (row64 4 fun _ => 0) (row64 4 (words v7)) (fun _ => rfl) (fun g w' hS => (hS.2 g rfl).1) (isSh _) (by rw [row64_size, row64_size]) (row64_one 4 _) fun g7 w' hS => ?_
  have hgl := (hS.2 g7 rfl).2
  have hnew : Row64 w' g7 103 4 (fun _ => 0) := (hS.2 g7 rfl).1
  have hwB : w.heap.size ≤ g7 := by omega
  have hall := And.intro (hnew.setRow (words v7)) (show Row64 (w'.setRow g7 (row64 4 (words v7))) w.heap.size 103 4 (words n) ∧ Row64 (w'.setRow g7 (row64 4 (words v7))) (w.heap.size + 1) 103 4 (fun _ => 0) ∧ Row64 (w'.setRow g7 (row64 4 (words v7))) g0 103 4 (words v0) ∧ Row64 (w'.setRow g7 (row64 4 (words v7))) g1 103 4 (words v1) ∧ Row64 (w'.setRow g7 (row64 4 (words v7))) g2 103 4 (words v2) ∧ Row64 (w'.setRow g7 (row64 4 (words v7))) g3 103 4 (words v3) ∧ Row64 (w'.setRow g7 (row64 4 (words v7))) g4 103 4 (words v4) ∧ Row64 (w'.setRow g7 (row64 4 (words v7))) g5 103 4 (words v5) ∧ Row64 (w'.setRow g7 (row64 4 (words v7))) g6 103 4 (words v6) ∧ Below w.heap.size w (w'.setRow g7 (row64 4 (words v7))) from ⟨hS.1.1.setRow_far (by omega) _, hS.1.2.1.setRow_far (by omega) _, hS.1.2.2.1.setRow_far (by omega) _, hS.1.2.2.2.1.setRow_far (by omega) _, hS.1.2.2.2.2.1.setRow_far (by omega) _, hS.1.2.2.2.2.2.1.setRow_far (by omega) _, hS.1.2.2.2.2.2.2.1.setRow_far (by omega) _, hS.1.2.2.2.2.2.2.2.1.setRow_far (by omega) _, hS.1.2.2.2.2.2.2.2.2.1.setRow_far (by omega) _, below_setRow8 hS.1.2.2.2.2.2.2.2.2.2.1 hwB _⟩)
  clear hS hnew hgl hwB Lha Lhr Lhv0 Lhv1 Lhv2 Lhv3 Lhv4 Lhv5 Lhv6
  simp only [Act.put]
  revert hall
  generalize w'.setRow g7 (row64 4 (words v7)) = w8
  rintro ⟨hv7, ha, hr, hv0, hv1, hv2, hv3, hv4, hv5, hv6, hb⟩
  go_wp2_with (fail)
  have Lha := ha.lt
  have Lhr := hr.lt
  have Lhv0 := hv0.lt
  have Lhv1 := hv1.lt
  have Lhv2 := hv2.lt
  have Lhv3 := hv3.lt
  have Lhv4 := hv4.lt
  have Lhv5 := hv5.lt
  have Lhv6 := hv6.lt
  have Lhv7 := hv7.lt
  refine region_made (SN (fun W' => Row64 W' w.heap.size 103 4 (words n) ∧ Row64 W' (w.heap.size + 1) 103 4 (fun _ => 0) ∧ Row64 W' g0 103 4 (words v0) ∧ Row64 W' g1 103 4 (words v1) ∧ Row64 W' g2 103 4 (words v2) ∧ Row64 W' g3 103 4 (words v3) ∧ Row64 W' g4 103 4 (words v4) ∧ Row64 W' g5 103 4 (words v5) ∧ Row64 W' g6 103 4 (words v6) ∧ Row64 W' g7 103 4 (words v7) ∧ Below w.heap.size w W' ∧ w8.heap.size ≤ W'.heap.size) fun g w' => Blk w' g 103 (row64 4 fun _ => 0) ∧ w8.heap.size ≤ g) mixedOrders (by kernel_rfl) (by simp) ⟨⟨ha.drew, hr.drew, hv0.drew, hv1.drew, hv2.drew, hv3.drew, hv4.drew, hv5.drew, hv6.drew, hv7.drew, hb.drew, Nat.le_refl _⟩, fun _ h => by cases h⟩ ?_
  clear ha hr hv0 hv1 hv2 hv3 hv4 hv5 hv6 hv7 hb
  refine SeqG.next (.agg (row64 4 (words v7))) (fun g og => Sure.load_W4 rfl 103 _ rfl g7 rfl 103 _ (fun w' hS => hS.1.2.2.2.2.2.2.2.2.2.1) isRowNb (isSh _)) ?_
  simp only [Act.put, List.setIfInBounds_toArray, List.set_cons_zero, List.set_cons_succ]
  refine SeqG.next (.agg (row64 4 (words u8))) (fun g og => SureN.call (f := 90) (args := #[(.agg (row64 4 (words v7))), .int .i64 100]) rfl (fun w' => by go_simp) (fun w' hS => (p8 w').mono fun e w'' h => ⟨h.1, h.2, hS.1.below h.2 hS.1.lt, hS.2.1.below h.2 hS.2.1.lt, hS.2.2.1.below h.2 hS.2.2.1.lt, hS.2.2.2.1.below h.2 hS.2.2.2.1.lt, hS.2.2.2.2.1.below h.2 hS.2.2.2.2.1.lt, hS.2.2.2.2.2.1.below h.2 hS.2.2.2.2.2.1.lt, hS.2.2.2.2.2.2.1.below h.2 hS.2.2.2.2.2.2.1.lt, hS.2.2.2.2.2.2.2.1.below h.2 hS.2.2.2.2.2.2.2.1.lt, hS.2.2.2.2.2.2.2.2.1.below h.2 hS.2.2.2.2.2.2.2.2.1.lt, hS.2.2.2.2.2.2.2.2.2.1.below h.2 hS.2.2.2.2.2.2.2.2.2.1.lt, hS.2.2.2.2.2.2.2.2.2.2.1.trans (h.2.mono hS.2.2.2.2.2.2.2.2.2.2.1.size), Nat.le_trans hS.2.2.2.2.2.2.2.2.2.2.2 h.2.size⟩)) ?_
  simp only [Act.put, List.setIfInBounds_toArray, List.set_cons_zero, List.set_cons_succ]
  refine SeqG.next (.agg (row64 4 (words v7))) (fun g og => Sure.load_W4 rfl 103 _ rfl g7 rfl 103 _ (fun w' hS => hS.1.2.2.2.2.2.2.2.2.2.1) isRowNb (isSh _)) ?_
  simp only [Act.put, List.setIfInBounds_toArray, List.set_cons_zero, List.set_cons_succ]
  refine SeqG.next (.agg (row64 4 (words v8))) (fun g og => SureN.call (f := 74) (args := #[(.agg (row64 4 (words u8))), (.agg (row64 4 (words v7)))]) rfl (fun w' => by go_simp) (fun w' hS => (q8 w').mono fun e w'' h => ⟨h.1, h.2, hS.1.below h.2 hS.1.lt, hS.2.1.below h.2 hS.2.1.lt, hS.2.2.1.below h.2 hS.2.2.1.lt, hS.2.2.2.1.below h.2 hS.2.2.2.1.lt, hS.2.2.2.2.1.below h.2 hS.2.2.2.2.1.lt, hS.2.2.2.2.2.1.below h.2 hS.2.2.2.2.2.1.lt, hS.2.2.2.2.2.2.1.below h.2 hS.2.2.2.2.2.2.1.lt, hS.2.2.2.2.2.2.2.1.below h.2 hS.2.2.2.2.2.2.2.1.lt, hS.2.2.2.2.2.2.2.2.1.below h.2 hS.2.2.2.2.2.2.2.2.1.lt, hS.2.2.2.2.2.2.2.2.2.1.below h.2 hS.2.2.2.2.2.2.2.2.2.1.lt, hS.2.2.2.2.2.2.2.2.2.2.1.trans (h.2.mono hS.2.2.2.2.2.2.2.2.2.2.1.size), Nat.le_trans hS.2.2.2.2.2.2.2.2.2.2.2 h.2.size⟩)) ?_
  simp only [Act.put, List.setIfInBounds_toArray, List.set_cons_zero, List.set_cons_succ]
  refine SeqG.make (fun g => MakesN.blk rfl 103 rfl (row64 4 fun _ => 0) zNb3 w8.heap.size (fun w' hS => hS.2.2.2.2.2.2.2.2.2.2.2) (fun w' hS => ⟨hS.1.alloc _, hS.2.1.alloc _, hS.2.2.1.alloc _, hS.2.2.2.1.alloc _, hS.2.2.2.2.1.alloc _, hS.2.2.2.2.2.1.alloc _, hS.2.2.2.2.2.2.1.alloc _, hS.2.2.2.2.2.2.2.1.alloc _, hS.2.2.2.2.2.2.2.2.1.alloc _, hS.2.2.2.2.2.2.2.2.2.1.alloc _, hS.2.2.2.2.2.2.2.2.2.2.1.alloc hS.2.2.2.2.2.2.2.2.2.2.1.size _, Nat.le_trans hS.2.2.2.2.2.2.2.2.2.2.2 (by simp)⟩)) ?_
  simp only [Act.put, List.setIfInBounds_toArray, List.set_cons_zero, List.set_cons_succ]
  refine SeqG.store_N (fun _ => rfl) 103 _ _ rfl (fun _ => rfl) 103 (row64 4 fun _ => 0) (row64 4 (words v8)) (fun _ => rfl) (fun g w' hS => (hS.2 g rfl).1) (isSh _) (by rw [row64_size, row64_size]) (row64_one 4 _) fun g8 w' hS => ?_
  have hgl := (hS.2 g8 rfl).2
  have hnew : Row64 w' g8 103 4 (fun _ => 0) := (hS.2 g8 rfl).1
  have hwB : w.heap.size ≤ g8 := by omega
  have hall := And.intro (hnew.setRow (words v8)) (show Row64 (w'.setRow g8 (row64 4 (words v8))) w.heap.size 103 4 (words n) ∧ Row64 (w'.setRow g8 (row64 4 (words v8))) (w.heap.size + 1) 103 4 (fun _ => 0) ∧ Row64 (w'.setRow g8 (row64 4 (words v8))) g0 103 4 (words v0) ∧ Row64 (w'.setRow g8 (row64 4 (words v8))) g1 103 4 (words v1) ∧ Row64 (w'.setRow g8 (row64 4 (words v8))) g2 103 4 (words v2) ∧ Row64 (w'.setRow g8 (row64 4 (words v8))) g3 103 4 (words v3) ∧ Row64 (w'.setRow g8 (row64 4 (words v8))) g4 103 4 (words v4) ∧ Row64 (w'.setRow g8 (row64 4 (words v8))) g5 103 4 (words v5) ∧ Row64 (w'.setRow g8 (row64 4 (words v8))) g6 103 4 (words v6) ∧ Row64 (w'.setRow g8 (row64 4 (words v8))) g7 103 4 (words v7) ∧ Below w.heap.size w (w'.setRow g8 (row64 4 (words v8))) from ⟨hS.1.1.setRow_far (by omega) _, hS.1.2.1.setRow_far (by omega) _, hS.1.2.2.1.setRow_far (by omega) _, hS.1.2.2.2.1.setRow_far (by omega) _, hS.1.2.2.2.2.1.setRow_far (by omega) _, hS.1.2.2.2.2.2.1.setRow_far (by omega) _, hS.1.2.2.2.2.2.2.1.setRow_far (by omega) _, hS.1.2.2.2.2.2.2.2.1.setRow_far (by omega) _, hS.1.2.2.2.2.2.2.2.2.1.setRow_far (by omega) _, hS.1.2.2.2.2.2.2.2.2.2.1.setRow_far (by omega) _, below_setRow8 hS.1.2.2.2.2.2.2.2.2.2.2.1 hwB _⟩)
  clear hS hnew hgl hwB Lha Lhr Lhv0 Lhv1 Lhv2 Lhv3 Lhv4 Lhv5 Lhv6 Lhv7
  simp only [Act.put]
  revert hall
  generalize w'.setRow g8 (row64 4 (words v8)) = w9
  rintro ⟨hv8, ha, hr, hv0, hv1, hv2, hv3, hv4, hv5, hv6, hv7, hb⟩
  go_wp2_with (fail)
  have Lha := ha.lt
  have Lhr := hr.lt
  have Lhv0 := hv0.lt
  have Lhv1 := hv1.lt
  have Lhv2 := hv2.lt
  have Lhv3 := hv3.lt
  have Lhv4 := hv4.lt
  have Lhv5 := hv5.lt
  have Lhv6 := hv6.lt
  have Lhv7 := hv7.lt
  have Lhv8 := hv8.lt
  refine region_seq (fun W' => Row64 W' w.heap.size 103 4 (words n) ∧ Row64 W' (w.heap.size + 1) 103 4 (fun _ => 0) ∧ Row64 W' g0 103 4 (words v0) ∧ Row64 W' g1 103 4 (words v1) ∧ Row64 W' g2 103 4 (words v2) ∧ Row64 W' g3 103 4 (words v3) ∧ Row64 W' g4 103 4 (words v4) ∧ Row64 W' g5 103 4 (words v5) ∧ Row64 W' g6 103 4 (words v6) ∧ Row64 W' g7 103 4 (words v7) ∧ Row64 W' g8 103 4 (words v8) ∧ Below w.heap.size w W' ∧ w9.heap.size ≤ W'.heap.size) mixedOrders (by kernel_rfl) (by simp) ⟨ha.drew, hr.drew, hv0.drew, hv1.drew, hv2.drew, hv3.drew, hv4.drew, hv5.drew, hv6.drew, hv7.drew, hv8.drew, hb.drew, Nat.le_refl _⟩ ?_
  clear ha hr hv0 hv1 hv2 hv3 hv4 hv5 hv6 hv7 hv8 hb
  refine Seq.next (.agg (row64 4 (words v8))) (Sure.load_W4 rfl 103 _ rfl g8 rfl 103 _ (fun w' hS => hS.2.2.2.2.2.2.2.2.2.2.1) isRowNb (isSh _)) ?_
  simp only [Act.put, List.setIfInBounds_toArray, List.set_cons_zero, List.set_cons_succ]
  refine Seq.next (.agg (row64 4 (words u9))) (Sure.call (f := 90) (args := #[(.agg (row64 4 (words v8))), .int .i64 50]) rfl (fun w' => by go_simp) (fun w' hS => (p9 w').mono fun e w'' h => ⟨h.1, hS.1.below h.2 hS.1.lt, hS.2.1.below h.2 hS.2.1.lt, hS.2.2.1.below h.2 hS.2.2.1.lt, hS.2.2.2.1.below h.2 hS.2.2.2.1.lt, hS.2.2.2.2.1.below h.2 hS.2.2.2.2.1.lt, hS.2.2.2.2.2.1.below h.2 hS.2.2.2.2.2.1.lt, hS.2.2.2.2.2.2.1.below h.2 hS.2.2.2.2.2.2.1.lt, hS.2.2.2.2.2.2.2.1.below h.2 hS.2.2.2.2.2.2.2.1.lt, hS.2.2.2.2.2.2.2.2.1.below h.2 hS.2.2.2.2.2.2.2.2.1.lt, hS.2.2.2.2.2.2.2.2.2.1.below h.2 hS.2.2.2.2.2.2.2.2.2.1.lt, hS.2.2.2.2.2.2.2.2.2.2.1.below h.2 hS.2.2.2.2.2.2.2.2.2.2.1.lt, hS.2.2.2.2.2.2.2.2.2.2.2.1.trans (h.2.mono hS.2.2.2.2.2.2.2.2.2.2.2.1.size), Nat.le_trans hS.2.2.2.2.2.2.2.2.2.2.2.2 h.2.size⟩)) ?_
  simp only [Act.put, List.setIfInBounds_toArray, List.set_cons_zero, List.set_cons_succ]
  refine Seq.next (.agg (row64 4 (words v6))) (Sure.load_W4 rfl 103 _ rfl g6 rfl 103 _ (fun w' hS => hS.2.2.2.2.2.2.2.2.1) isRowNb (isSh _)) ?_
  simp only [Act.put, List.setIfInBounds_toArray, List.set_cons_zero, List.set_cons_succ]
  refine Seq.next (.agg (row64 4 (words v9))) (Sure.call (f := 74) (args := #[(.agg (row64 4 (words u9))), (.agg (row64 4 (words v6)))]) rfl (fun w' => by go_simp) (fun w' hS => (q9 w').mono fun e w'' h => ⟨h.1, hS.1.below h.2 hS.1.lt, hS.2.1.below h.2 hS.2.1.lt, hS.2.2.1.below h.2 hS.2.2.1.lt, hS.2.2.2.1.below h.2 hS.2.2.2.1.lt, hS.2.2.2.2.1.below h.2 hS.2.2.2.2.1.lt, hS.2.2.2.2.2.1.below h.2 hS.2.2.2.2.2.1.lt, hS.2.2.2.2.2.2.1.below h.2 hS.2.2.2.2.2.2.1.lt, hS.2.2.2.2.2.2.2.1.below h.2 hS.2.2.2.2.2.2.2.1.lt, hS.2.2.2.2.2.2.2.2.1.below h.2 hS.2.2.2.2.2.2.2.2.1.lt, hS.2.2.2.2.2.2.2.2.2.1.below h.2 hS.2.2.2.2.2.2.2.2.2.1.lt, hS.2.2.2.2.2.2.2.2.2.2.1.below h.2 hS.2.2.2.2.2.2.2.2.2.2.1.lt, hS.2.2.2.2.2.2.2.2.2.2.2.1.trans (h.2.mono hS.2.2.2.2.2.2.2.2.2.2.2.1.size), Nat.le_trans hS.2.2.2.2.2.2.2.2.2.2.2.2 h.2.size⟩)) ?_
  simp only [Act.put, List.setIfInBounds_toArray, List.set_cons_zero, List.set_cons_succ]
  refine Seq.store_Row64 rfl 103 _ _ rfl (w.heap.size + 1) rfl 103 4 (fun _ => 0) (words v9) rfl (fun w' hS => hS.2.1) sizeNb (fun w' hS => ?_)
  have hr := hS.2.1.setRow (words v9)
  have hb := below_setRow8 hS.2.2.2.2.2.2.2.2.2.2.2.1 (k := w.heap.size + 1) (by omega) (row64 4 (words v9))
  clear hS
  simp only [Act.put]
  revert hr hb
  generalize w'.setRow (w.heap.size + 1) (row64 4 (words v9)) = we
  intro hr hb
  go_wp2
  exact ret_W4 rfl rfl (w.heap.size + 1) 103 _ rfl hr isRowNb (sizeNbR _) ⟨rfl, hb⟩
end Go.Proofs.YtbbegnfopdihaaaGreatDoor

namespace Go.Proofs.YtbbegnfopdihaaaGreatDoor
open Go Go.RowKit
set_option maxRecDepth 100000

def i3 (n : Nat) : Nat := tm (rs n 1) n
def i11 (n : Nat) : Nat := tm (rs n 3) (i3 n)
theorem i3_lt {n : Nat} (h : n < 2 ^ 256) : i3 n < 2 ^ 256 := tm_lt (rs_lt h 1) h
theorem i11_lt {n : Nat} (h : n < 2 ^ 256) : i11 n < 2 ^ 256 := tm_lt (rs_lt h 3) (i3_lt h)
def iv (n : Nat) : Nat := tm (rs (o250 n) 5) (i11 n)
theorem iv_lt {n : Nat} (h : n < 2 ^ 256) : iv n < 2 ^ 256 := tm_lt (rs_lt (o250_lt h) 5) (i11_lt h)

set_option maxHeartbeats 16000000 in
theorem inverse_c (n : Nat) (hn : n < 2 ^ 256) (w : World) : Calls Tryz.prog 76 #[(.agg (row64 4 (words n)))] w fun e w' =>
    e = .returned (.agg (row64 4 (words (iv n)))) ∧ Below w.heap.size w w' := by
  have p0 : ∀ W, Calls Tryz.prog 90 #[(.agg (row64 4 (words n))), .int .i64 1] W fun e w' => e = .returned (.agg (row64 4 (words (rs n 1)))) ∧ Below W.heap.size W w' := fun W => raise_c n 1 hn (by omega) W
  have q0 : ∀ W, Calls Tryz.prog 74 #[(.agg (row64 4 (words (rs n 1)))), (.agg (row64 4 (words n)))] W fun e w' => e = .returned (.agg (row64 4 (words (i3 n)))) ∧ Below W.heap.size W w' := fun W => times_c (rs n 1) n (rs_lt hn 1) hn W
  have p1 : ∀ W, Calls Tryz.prog 90 #[(.agg (row64 4 (words n))), .int .i64 3] W fun e w' => e = .returned (.agg (row64 4 (words (rs n 3)))) ∧ Below W.heap.size W w' := fun W => raise_c n 3 hn (by omega) W
  have q1 : ∀ W, Calls Tryz.prog 74 #[(.agg (row64 4 (words (rs n 3)))), (.agg (row64 4 (words (i3 n))))] W fun e w' => e = .returned (.agg (row64 4 (words (i11 n)))) ∧ Below W.heap.size W w' := fun W => times_c (rs n 3) (i3 n) (rs_lt hn 3) (i3_lt hn) W
  have po : ∀ W, Calls Tryz.prog 91 #[(.agg (row64 4 (words n)))] W fun e w' => e = .returned (.agg (row64 4 (words (o250 n)))) ∧ Below W.heap.size W w' := fun W => ones_c n hn W
  have pr : ∀ W, Calls Tryz.prog 90 #[(.agg (row64 4 (words (o250 n)))), .int .i64 5] W fun e w' => e = .returned (.agg (row64 4 (words (rs (o250 n) 5)))) ∧ Below W.heap.size W w' := fun W => raise_c (o250 n) 5 (o250_lt hn) (by omega) W
  have pt : ∀ W, Calls Tryz.prog 74 #[(.agg (row64 4 (words (rs (o250 n) 5)))), (.agg (row64 4 (words (i11 n))))] W fun e w' => e = .returned (.agg (row64 4 (words (iv n)))) ∧ Below W.heap.size W w' := fun W => times_c (rs (o250 n) 5) (i11 n) (rs_lt (o250_lt hn) 5) (i11_lt hn) W
  generalize iv n = vz at *
  generalize rs (o250 n) 5 = vy at *
  generalize o250 n = vx at *
  generalize rs n 3 = u1 at *
  generalize rs n 1 = u0 at *
  generalize i11 n = v1 at *
  generalize i3 n = v0 at *
  go_enter Tryz.func76, Tryz.ntmps76
  go_upto_region 1 with (fail)
  rw [zeroNb]
  have h1 := (Row64.new w 103 4 (words n)).alloc (.cells (row64 4 fun _ => 0) 103)
  have h2 := Row64.new (w.alloc (.cells (row64 4 (words n)) 103)) 103 4 fun _ => 0
  have hb : Below w.heap.size w ((w.alloc (.cells (row64 4 (words n)) 103)).alloc (.cells (row64 4 fun _ => 0) 103)) := ((Below.refl _ _).alloc (Nat.le_refl _) _).alloc (by simp) _
  simp only [World.size_alloc] at h2
  have hall := And.intro h1 (And.intro h2 hb)
  clear h1 h2 hb
  revert hall
  generalize (w.alloc (.cells (row64 4 (words n)) 103)).alloc (.cells (row64 4 fun _ => 0) 103) = w0
  rintro ⟨ha, hr, hb⟩
  have Lha := ha.lt
  have Lhr := hr.lt
  refine region_made (SN (fun W' => Row64 W' w.heap.size 103 4 (words n) ∧ Row64 W' (w.heap.size + 1) 103 4 (fun _ => 0) ∧ Below w.heap.size w W' ∧ w0.heap.size ≤ W'.heap.size) fun g w' => Blk w' g 103 (row64 4 fun _ => 0) ∧ w0.heap.size ≤ g) mixedOrders (by kernel_rfl) (by simp) ⟨⟨ha.drew, hr.drew, hb.drew, Nat.le_refl _⟩, fun _ h => by cases h⟩ ?_
  clear ha hr hb
  refine SeqG.next (.agg (row64 4 (words n))) (fun g og => Sure.load_W4 rfl 103 _ rfl w.heap.size rfl 103 _ (fun w' hS => hS.1.1) isRowNb (isSh _)) ?_
  simp only [Act.put, List.setIfInBounds_toArray, List.set_cons_zero, List.set_cons_succ]
  refine SeqG.next (.agg (row64 4 (words u0))) (fun g og => SureN.call (f := 90) (args := #[(.agg (row64 4 (words n))), .int .i64 1]) rfl (fun w' => by go_simp) (fun w' hS => (p0 w').mono fun e w'' h => ⟨h.1, h.2, hS.1.below h.2 hS.1.lt, hS.2.1.below h.2 hS.2.1.lt, hS.2.2.1.trans (h.2.mono hS.2.2.1.size), Nat.le_trans hS.2.2.2 h.2.size⟩)) ?_
  simp only [Act.put, List.setIfInBounds_toArray, List.set_cons_zero, List.set_cons_succ]
  refine SeqG.next (.agg (row64 4 (words n))) (fun g og => Sure.load_W4 rfl 103 _ rfl w.heap.size rfl 103 _ (fun w' hS => hS.1.1) isRowNb (isSh _)) ?_
  simp only [Act.put, List.setIfInBounds_toArray, List.set_cons_zero, List.set_cons_succ]
  refine SeqG.next (.agg (row64 4 (words v0))) (fun g og => SureN.call (f := 74) (args := #[(.agg (row64 4 (words u0))), (.agg (row64 4 (words n)))]) rfl (fun w' => by go_simp) (fun w' hS => (q0 w').mono fun e w'' h => ⟨h.1, h.2, hS.1.below h.2 hS.1.lt, hS.2.1.below h.2 hS.2.1.lt, hS.2.2.1.trans (h.2.mono hS.2.2.1.size), Nat.le_trans hS.2.2.2 h.2.size⟩)) ?_
  simp only [Act.put, List.setIfInBounds_toArray, List.set_cons_zero, List.set_cons_succ]
  refine SeqG.make (fun g => MakesN.blk rfl 103 rfl (row64 4 fun _ => 0) zNb3 w0.heap.size (fun w' hS => hS.2.2.2) (fun w' hS => ⟨hS.1.alloc _, hS.2.1.alloc _, hS.2.2.1.alloc hS.2.2.1.size _, Nat.le_trans hS.2.2.2 (by simp)⟩)) ?_
  simp only [Act.put, List.setIfInBounds_toArray, List.set_cons_zero, List.set_cons_succ]
  refine SeqG.store_N (fun _ => rfl) 103 _ _ rfl (fun _ => rfl) 103 (row64 4 fun _ => 0) (row64 4 (words v0)) (fun _ => rfl) (fun g w' hS => (hS.2 g rfl).1) (isSh _) (by rw [row64_size, row64_size]) (row64_one 4 _) fun g0 w' hS => ?_
  have hgl := (hS.2 g0 rfl).2
  have hnew : Row64 w' g0 103 4 (fun _ => 0) := (hS.2 g0 rfl).1
  have hwB : w.heap.size ≤ g0 := by omega
  have hall := And.intro (hnew.setRow (words v0)) (show Row64 (w'.setRow g0 (row64 4 (words v0))) w.heap.size 103 4 (words n) ∧ Row64 (w'.setRow g0 (row64 4 (words v0))) (w.heap.size + 1) 103 4 (fun _ => 0) ∧ Below w.heap.size w (w'.setRow g0 (row64 4 (words v0))) from ⟨hS.1.1.setRow_far (by omega) _, hS.1.2.1.setRow_far (by omega) _, below_setRow8 hS.1.2.2.1 hwB _⟩)
  clear hS hnew hgl hwB Lha Lhr
  simp only [Act.put]
  revert hall
  generalize w'.setRow g0 (row64 4 (words v0)) = w1
  rintro ⟨hv0, ha, hr, hb⟩
  go_wp2_with (fail)
  have Lha := ha.lt
  have Lhr := hr.lt
  have Lhv0 := hv0.lt
  refine region_made (SN (fun W' => Row64 W' w.heap.size 103 4 (words n) ∧ Row64 W' (w.heap.size + 1) 103 4 (fun _ => 0) ∧ Row64 W' g0 103 4 (words v0) ∧ Below w.heap.size w W' ∧ w1.heap.size ≤ W'.heap.size) fun g w' => Blk w' g 103 (row64 4 fun _ => 0) ∧ w1.heap.size ≤ g) mixedOrders (by kernel_rfl) (by simp) ⟨⟨ha.drew, hr.drew, hv0.drew, hb.drew, Nat.le_refl _⟩, fun _ h => by cases h⟩ ?_
  clear ha hr hv0 hb
  refine SeqG.next (.agg (row64 4 (words n))) (fun g og => Sure.load_W4 rfl 103 _ rfl w.heap.size rfl 103 _ (fun w' hS => hS.1.1) isRowNb (isSh _)) ?_
  simp only [Act.put, List.setIfInBounds_toArray, List.set_cons_zero, List.set_cons_succ]
  refine SeqG.next (.agg (row64 4 (words u1))) (fun g og => SureN.call (f := 90) (args := #[(.agg (row64 4 (words n))), .int .i64 3]) rfl (fun w' => by go_simp) (fun w' hS => (p1 w').mono fun e w'' h => ⟨h.1, h.2, hS.1.below h.2 hS.1.lt, hS.2.1.below h.2 hS.2.1.lt, hS.2.2.1.below h.2 hS.2.2.1.lt, hS.2.2.2.1.trans (h.2.mono hS.2.2.2.1.size), Nat.le_trans hS.2.2.2.2 h.2.size⟩)) ?_
  simp only [Act.put, List.setIfInBounds_toArray, List.set_cons_zero, List.set_cons_succ]
  refine SeqG.next (.agg (row64 4 (words v0))) (fun g og => Sure.load_W4 rfl 103 _ rfl g0 rfl 103 _ (fun w' hS => hS.1.2.2.1) isRowNb (isSh _)) ?_
  simp only [Act.put, List.setIfInBounds_toArray, List.set_cons_zero, List.set_cons_succ]
  refine SeqG.next (.agg (row64 4 (words v1))) (fun g og => SureN.call (f := 74) (args := #[(.agg (row64 4 (words u1))), (.agg (row64 4 (words v0)))]) rfl (fun w' => by go_simp) (fun w' hS => (q1 w').mono fun e w'' h => ⟨h.1, h.2, hS.1.below h.2 hS.1.lt, hS.2.1.below h.2 hS.2.1.lt, hS.2.2.1.below h.2 hS.2.2.1.lt, hS.2.2.2.1.trans (h.2.mono hS.2.2.2.1.size), Nat.le_trans hS.2.2.2.2 h.2.size⟩)) ?_
  simp only [Act.put, List.setIfInBounds_toArray, List.set_cons_zero, List.set_cons_succ]
  refine SeqG.make (fun g => MakesN.blk rfl 103 rfl (row64 4 fun _ => 0) zNb3 w1.heap.size (fun w' hS => hS.2.2.2.2) (fun w' hS => ⟨hS.1.alloc _, hS.2.1.alloc _, hS.2.2.1.alloc _, hS.2.2.2.1.alloc hS.2.2.2.1.size _, Nat.le_trans hS.2.2.2.2 (by simp)⟩)) ?_
  simp only [Act.put, List.setIfInBounds_toArray, List.set_cons_zero, List.set_cons_succ]
  refine SeqG.store_N (fun _ => rfl) 103 _ _ rfl (fun _ => rfl) 103 (row64 4 fun _ => 0) (row64 4 (words v1)) (fun _ => rfl) (fun g w' hS => (hS.2 g rfl).1) (isSh _) (by rw [row64_size, row64_size]) (row64_one 4 _) fun g1 w' hS => ?_
  have hgl := (hS.2 g1 rfl).2
  have hnew : Row64 w' g1 103 4 (fun _ => 0) := (hS.2 g1 rfl).1
  have hwB : w.heap.size ≤ g1 := by omega
  have hall := And.intro (hnew.setRow (words v1)) (show Row64 (w'.setRow g1 (row64 4 (words v1))) w.heap.size 103 4 (words n) ∧ Row64 (w'.setRow g1 (row64 4 (words v1))) (w.heap.size + 1) 103 4 (fun _ => 0) ∧ Row64 (w'.setRow g1 (row64 4 (words v1))) g0 103 4 (words v0) ∧ Below w.heap.size w (w'.setRow g1 (row64 4 (words v1))) from ⟨hS.1.1.setRow_far (by omega) _, hS.1.2.1.setRow_far (by omega) _, hS.1.2.2.1.setRow_far (by omega) _, below_setRow8 hS.1.2.2.2.1 hwB _⟩)
  clear hS hnew hgl hwB Lha Lhr Lhv0
  simp only [Act.put]
  revert hall
  generalize w'.setRow g1 (row64 4 (words v1)) = w2
  rintro ⟨hv1, ha, hr, hv0, hb⟩
  go_wp2_with (fail)
  refine region_seq (fun W' => Row64 W' w.heap.size 103 4 (words n) ∧ Row64 W' (w.heap.size + 1) 103 4 (fun _ => 0) ∧ Row64 W' g0 103 4 (words v0) ∧ Row64 W' g1 103 4 (words v1) ∧ Below w.heap.size w W' ∧ w2.heap.size ≤ W'.heap.size) mixedOrders (by kernel_rfl) (by simp) ⟨ha.drew, hr.drew, hv0.drew, hv1.drew, hb.drew, Nat.le_refl _⟩ ?_
  clear ha hr hv0 hv1 hb
  refine Seq.next (.agg (row64 4 (words n))) (Sure.load_W4 rfl 103 _ rfl w.heap.size rfl 103 _ (fun w' hS => hS.1) isRowNb (isSh _)) ?_
  simp only [Act.put, List.setIfInBounds_toArray, List.set_cons_zero, List.set_cons_succ]
  refine Seq.next (.agg (row64 4 (words vx))) (Sure.call (f := 91) (args := #[(.agg (row64 4 (words n)))]) rfl (fun w' => by go_simp) (fun w' hS => (po w').mono fun e w'' h => ⟨h.1, hS.1.below h.2 hS.1.lt, hS.2.1.below h.2 hS.2.1.lt, hS.2.2.1.below h.2 hS.2.2.1.lt, hS.2.2.2.1.below h.2 hS.2.2.2.1.lt, hS.2.2.2.2.1.trans (h.2.mono hS.2.2.2.2.1.size), Nat.le_trans hS.2.2.2.2.2 h.2.size⟩)) ?_
  simp only [Act.put, List.setIfInBounds_toArray, List.set_cons_zero, List.set_cons_succ]
  refine Seq.next (.agg (row64 4 (words vy))) (Sure.call (f := 90) (args := #[(.agg (row64 4 (words vx))), .int .i64 5]) rfl (fun w' => by go_simp) (fun w' hS => (pr w').mono fun e w'' h => ⟨h.1, hS.1.below h.2 hS.1.lt, hS.2.1.below h.2 hS.2.1.lt, hS.2.2.1.below h.2 hS.2.2.1.lt, hS.2.2.2.1.below h.2 hS.2.2.2.1.lt, hS.2.2.2.2.1.trans (h.2.mono hS.2.2.2.2.1.size), Nat.le_trans hS.2.2.2.2.2 h.2.size⟩)) ?_
  simp only [Act.put, List.setIfInBounds_toArray, List.set_cons_zero, List.set_cons_succ]
  refine Seq.next (.agg (row64 4 (words v1))) (Sure.load_W4 rfl 103 _ rfl g1 rfl 103 _ (fun w' hS => hS.2.2.2.1) isRowNb (isSh _)) ?_
  simp only [Act.put, List.setIfInBounds_toArray, List.set_cons_zero, List.set_cons_succ]
  refine Seq.next (.agg (row64 4 (words vz))) (Sure.call (f := 74) (args := #[(.agg (row64 4 (words vy))), (.agg (row64 4 (words v1)))]) rfl (fun w' => by go_simp) (fun w' hS => (pt w').mono fun e w'' h => ⟨h.1, hS.1.below h.2 hS.1.lt, hS.2.1.below h.2 hS.2.1.lt, hS.2.2.1.below h.2 hS.2.2.1.lt, hS.2.2.2.1.below h.2 hS.2.2.2.1.lt, hS.2.2.2.2.1.trans (h.2.mono hS.2.2.2.2.1.size), Nat.le_trans hS.2.2.2.2.2 h.2.size⟩)) ?_
  simp only [Act.put, List.setIfInBounds_toArray, List.set_cons_zero, List.set_cons_succ]
  refine Seq.store_Row64 rfl 103 _ _ rfl (w.heap.size + 1) rfl 103 4 (fun _ => 0) (words vz) rfl (fun w' hS => hS.2.1) sizeNb (fun w' hS => ?_)
  have hr := hS.2.1.setRow (words vz)
  have hb := below_setRow8 hS.2.2.2.2.1 (k := w.heap.size + 1) (by omega) (row64 4 (words vz))
  clear hS
  simp only [Act.put]
  revert hr hb
  generalize w'.setRow (w.heap.size + 1) (row64 4 (words vz)) = we
  intro hr hb
  go_wp2
  exact ret_W4 rfl rfl (w.heap.size + 1) 103 _ rfl hr isRowNb (sizeNbR _) ⟨rfl, hb⟩
end Go.Proofs.YtbbegnfopdihaaaGreatDoor

namespace Go.Proofs.YtbbegnfopdihaaaGreatDoor
open Go Go.RowKit
set_option maxRecDepth 100000

theorem zNb' : (Tryz.prog.info? 103).bind (·.zero) = some (.agg (row64 4 fun _ => 0)) := by kernel_rfl
/-- The steps, as numbers. -/
theorem canon_nat (n : Nat) (hn : n < 2 ^ 256) :
    wd n 3 / 9223372036854775808 = n / 2 ^ 255 ∧ n / 2 ^ 255 ≤ 1 ∧ (n % 2 ^ 255 + 19 * (n / 2 ^ 255)) < 2 ^ 255 + 19 ∧
    ((n % 2 ^ 255 + 19 * (n / 2 ^ 255)) + 19 * ((n % 2 ^ 255 + 19 * (n / 2 ^ 255) + 19) / 2 ^ 255)) % 2 ^ 255 = n % pN := by
  have p255 : 2 ^ 255 = pN + 19 := by decide
  have h1 : wd n 3 / 9223372036854775808 = n / 2 ^ 255 := by unfold wd; omega
  have h2 : n / 2 ^ 255 ≤ 1 := by omega
  refine ⟨h1, h2, by omega, ?_⟩
  clear h1
  have hP0 : 40 < pN := by decide
  generalize pN = P at *
  generalize hq : n / 2 ^ 255 = q at *
  generalize hr : n % 2 ^ 255 = r at *
  have hr2 : r < 2 ^ 255 := by omega
  obtain ⟨m, hm⟩ : ∃ m, m = r + 19 * q := ⟨_, rfl⟩
  have hnn : n = m + P * q := by
    have : n = 2 ^ 255 * q + r := by omega
    rw [this, p255, hm, Nat.add_mul]; omega
  have hml : m < 2 ^ 255 + 19 := by omega
  rw [← hm, hnn, Nat.add_mul_mod_self_left]
  clear hnn hm hq hr hr2 h2 hn
  rw [p255] at *
  by_cases hs : m + 19 < P + 19
  · rw [Nat.div_eq_of_lt hs, Nat.mul_zero, Nat.add_zero, Nat.mod_eq_of_lt (by omega), Nat.mod_eq_of_lt (by omega)]
  · have e : (m + 19) / (P + 19) = 1 := by
      apply Nat.div_eq_of_lt_le <;> omega
    rw [e, Nat.mul_one, Nat.mod_eq_sub_mod (by omega), Nat.mod_eq_of_lt (by omega), Nat.mod_eq_sub_mod (show P ≤ m by omega), Nat.mod_eq_of_lt (by omega)]
    omega
/-- A number's upper word without its highest bit. -/
theorem top_and (n : Nat) : bits .and .u64 (wd n 3 : Int) 9223372036854775807 = ((wd n 3 % 9223372036854775808 : Nat) : Int) := by
  have h := bits_and_u64_nat (wd n 3) 9223372036854775807 (wd_lt n 3) (by decide)
  have e : wd n 3 &&& 9223372036854775807 = wd n 3 % 9223372036854775808 := Nat.and_two_pow_sub_one_eq_mod (wd n 3) 63
  rw [e] at h
  exact h
theorem low255 (n : Nat) : wd (n % 2 ^ 255) 3 = wd n 3 % 9223372036854775808 ∧ ∀ i, i < 3 → wd (n % 2 ^ 255) i = wd n i := by
  refine ⟨?_, fun i hi => ?_⟩
  · unfold wd; omega
  · have : i = 0 ∨ i = 1 ∨ i = 2 := by omega
    rcases this with rfl | rfl | rfl <;> (unfold wd; omega)

set_option maxHeartbeats 8000000 in
theorem canonical_c (n : Nat) (hn : n < 2 ^ 256) (w : World) : Calls Tryz.prog 85 #[.agg (row64 4 (words n))] w fun e w' =>
    e = .returned (.agg (row64 4 (words (n % pN)))) ∧ Below w.heap.size w w' := by
  obtain ⟨f1, f2, f3, f4⟩ := canon_nat n hn
  obtain ⟨g1, g2⟩ := low255 n
  have hN1 : n % 2 ^ 255 < 2 ^ 255 := Nat.mod_lt _ (by decide)
  generalize hP : n % pN = P at *
  generalize n / 2 ^ 255 = t at *
  generalize n % 2 ^ 255 = N1 at *
  obtain ⟨m, hm⟩ : ∃ m, m = N1 + 19 * t := ⟨_, rfl⟩
  rw [← hm] at f3 f4
  obtain ⟨u, hu⟩ : ∃ u, u = m + 19 := ⟨_, rfl⟩
  rw [← hu] at f4
  obtain ⟨q, hq⟩ : ∃ q, q = u / 2 ^ 255 := ⟨_, rfl⟩
  rw [← hq] at f4
  obtain ⟨z, hz⟩ : ∃ z, z = m + 19 * q := ⟨_, rfl⟩
  rw [← hz] at f4
  obtain ⟨k1, k2⟩ := low255 z
  rw [f4] at k1 k2
  have hq1 : q ≤ 1 := by omega
  have hu2 : u < 2 ^ 255 + 38 := by omega
  have e3 : wd u 3 / 9223372036854775808 = q := by
    rw [hq]
    clear f1 f2 f3 f4 g1 g2 k1 k2 hN1 hm hu hq hz hP
    unfold wd
    omega
  have p1 := fun W => plusWord_c N1 (19 * t) (by omega) (by omega) W
  rw [← hm, Nat.mod_eq_of_lt (show m < 2 ^ 256 by omega)] at p1
  have p2 := fun W => plusWord_c m 19 (by omega) (by omega) W
  rw [← hu, Nat.mod_eq_of_lt (show u < 2 ^ 256 by omega), show ((19 : Nat) : Int) = 19 from rfl] at p2
  have p3 := fun W => plusWord_c m (19 * q) (by omega) (by omega) W
  rw [← hz, Nat.mod_eq_of_lt (show z < 2 ^ 256 by omega)] at p3
  have a1 := top_and n
  rw [← g1] at a1
  have a2 := top_and z
  rw [← k1] at a2
  have e1 : (wd n 3 : Int) / 9223372036854775808 = (t : Int) := by rw [← f1]; omega
  have e2 : IntKind.u64.wrap (19 * (t : Int)) = ((19 * t : Nat) : Int) := by rw [IntKind.wrap_u64]; omega
  have e4 : (wd u 3 : Int) / 9223372036854775808 = (q : Int) := by rw [← e3]; omega
  have e5 : IntKind.u64.wrap (19 * (q : Int)) = ((19 * q : Nat) : Int) := by rw [IntKind.wrap_u64]; omega
  have LN1 := Lib.hid g2
  have LP := Lib.hid k2
  clear f1 f2 f3 f4 g1 g2 k1 k2 hN1 hq1 e3 hm hu hq hz hP
  generalize m / 2 ^ 256 = o1 at *
  generalize u / 2 ^ 256 = o2 at *
  generalize z / 2 ^ 256 = o3 at *
  generalize 19 * t = t19 at *
  generalize 19 * q = q19 at *
  go_enter Tryz.func85, Tryz.ntmps85
  go_upto_region 1 with (fail)
  rw [zeroNb]
  have h1 := (Row64.new w 103 4 (words n)).alloc (.cells (row64 4 fun _ => 0) 103)
  have h2 := Row64.new (w.alloc (.cells (row64 4 (words n)) 103)) 103 4 fun _ => 0
  have hb : Below w.heap.size w ((w.alloc (.cells (row64 4 (words n)) 103)).alloc (.cells (row64 4 fun _ => 0) 103)) := ((Below.refl _ _).alloc (Nat.le_refl _) _).alloc (by simp) _
  simp only [World.size_alloc] at h2
  have hall := And.intro h1 (And.intro h2 hb)
  clear h1 h2 hb
  revert hall
  generalize (w.alloc (.cells (row64 4 (words n)) 103)).alloc (.cells (row64 4 fun _ => 0) 103) = w1
  rintro ⟨h1, h2, hb⟩
  have c3 := h1.cellW 3 (by omega)
  have d3 := h1.frozen 3
  go_upto_region 3 with (fail)
  have h1' := (h1.setW 3 N1 3).congr (f' := words N1) fun i hi => by
    by_cases h3 : i = 3
    · subst h3; simp
    · simp only [h3, if_false]
      unfold words; rw [LN1.out i (by omega)]
  have h2' := h2.far (p := ⟨w.heap.size, 3, none⟩) (by first | (simp; done) | (simp; omega)) (.int .u64 (wd N1 3 : Int))
  have hb' := hb.setCell (p := ⟨w.heap.size, 3, none⟩) (by first | (simp; done) | (simp; omega)) (.int .u64 (wd N1 3 : Int))
  clear h1 h2 hb c3 d3
  revert h1' h2' hb'
  generalize w1.setCell ⟨w.heap.size, 3, none⟩ (.int .u64 (wd N1 3 : Int)) = w2
  intro h1 h2 hb
  go_upto_region 4 with (first | (refine wpList_load_Blk rfl 103 _ rfl w.heap.size rfl 103 _ h1 isRowNb (sizeNbR _) ?_) | (go_at_call 100; refine (p1 _).mono ?_; rintro e w3 ⟨rfl, hw3⟩; have h1 := h1.below hw3 h1.lt; have h2 := h2.below hw3 h2.lt; have hb := hb.trans (hw3.mono hb.size)) | (refine wpList_store_Row64 rfl 103 _ _ rfl w.heap.size rfl 103 4 _ _ rfl h1 sizeNb ?_))
  have hall := And.intro (h1.setRow (words m)) (And.intro (h2.setRow_far (k := w.heap.size) (by omega) (row64 4 (words m))) (below_setRow8 hb (k := w.heap.size) (by omega) (row64 4 (words m))))
  clear h1 h2 hb
  (try simp only [Act.put])
  revert hall
  generalize w3.setRow w.heap.size (row64 4 (words m)) = w4
  rintro ⟨h1, h2, hb⟩
  go_upto_region 5 with (first | (refine wpList_load_Blk rfl 103 _ rfl w.heap.size rfl 103 _ h1 isRowNb (sizeNbR _) ?_) | (go_at_call 100; refine (p2 _).mono ?_; rintro e w5 ⟨rfl, hw5⟩; have hgl := (h2.below hw5 h2.lt).lt; have hb := hb.trans (hw5.mono hb.size); have h1 := (h1.below hw5 h1.lt).alloc (.cells (row64 4 fun _ => 0) 103); have h2 := (h2.below hw5 h2.lt).alloc (.cells (row64 4 fun _ => 0) 103); have hbb := hb.alloc hb.size (.cells (row64 4 fun _ => 0) 103); have hnew := Row64.new w5 103 4 fun _ => 0) | (refine wpList_alloc_Row64 rfl 103 rfl 4 zNb' ?_) | (refine wpList_store_Row64 rfl 103 _ _ rfl w5.heap.size rfl 103 4 _ _ rfl hnew sizeNb ?_))
  have hwB : w.heap.size ≤ w5.heap.size := hb.size
  have hall := And.intro (h1.setRow_far (k := w5.heap.size) (by omega) (row64 4 (words u))) (And.intro (h2.setRow_far (k := w5.heap.size) (by omega) (row64 4 (words u))) (And.intro (hnew.setRow (words u)) (below_setRow8 hbb (k := w5.heap.size) hwB (row64 4 (words u)))))
  clear h1 h2 hb hbb hnew
  (try simp only [Act.put])
  revert hall hgl hwB
  generalize (w5.alloc (.cells (row64 4 fun _ => 0) 103)).setRow w5.heap.size (row64 4 (words u)) = w6
  generalize w5.heap.size = g
  rintro hwB hgl ⟨h1, h2, hg, hb⟩
  have cu := hg.cellW 3 (by omega)
  go_upto_region 6 with (first | (refine wpList_load_Blk rfl 103 _ rfl w.heap.size rfl 103 _ h1 isRowNb (sizeNbR _) ?_) | (go_at_call 100; refine (p3 _).mono ?_; rintro e w7 ⟨rfl, hw7⟩; have h1 := h1.below hw7 h1.lt; have h2 := h2.below hw7 h2.lt; have hb := hb.trans (hw7.mono hb.size)) | (refine wpList_store_Row64 rfl 103 _ _ rfl w.heap.size rfl 103 4 _ _ rfl h1 sizeNb ?_))
  clear cu hg
  have hall := And.intro (h1.setRow (words z)) (And.intro (h2.setRow_far (k := w.heap.size) (by omega) (row64 4 (words z))) (below_setRow8 hb (k := w.heap.size) (by omega) (row64 4 (words z))))
  clear h1 h2 hb
  (try simp only [Act.put])
  revert hall
  generalize w7.setRow w.heap.size (row64 4 (words z)) = w8
  rintro ⟨h1, h2, hb⟩
  have c3 := h1.cellW 3 (by omega)
  have d3 := h1.frozen 3
  go_upto_region 7 with (fail)
  have h1' := (h1.setW 3 P 3).congr (f' := words P) fun i hi => by
    by_cases h3 : i = 3
    · subst h3; simp
    · simp only [h3, if_false]
      unfold words; rw [LP.out i (by omega)]
  have h2' := h2.far (p := ⟨w.heap.size, 3, none⟩) (by first | (simp; done) | (simp; omega)) (.int .u64 (wd P 3 : Int))
  have hb' := hb.setCell (p := ⟨w.heap.size, 3, none⟩) (by first | (simp; done) | (simp; omega)) (.int .u64 (wd P 3 : Int))
  clear h1 h2 hb c3 d3
  revert h1' h2' hb'
  generalize w8.setCell ⟨w.heap.size, 3, none⟩ (.int .u64 (wd P 3 : Int)) = w9
  intro h1 h2 hb
  go_wp2_with (first | (refine wpList_load_Blk rfl 103 _ rfl w.heap.size rfl 103 _ h1 isRowNb (sizeNbR _) ?_) | (refine wpList_store_Row64 rfl 103 _ _ rfl (w.heap.size + 1) rfl 103 4 _ _ rfl h2 sizeNb ?_))
  exact ret_W4 rfl rfl (w.heap.size + 1) 103 _ rfl (h2.setRow _) isRowNb (sizeNbR _) ⟨rfl, below_setRow8 hb (by omega) _⟩
end Go.Proofs.YtbbegnfopdihaaaGreatDoor

namespace Go.Proofs.YtbbegnfopdihaaaGreatDoor
open Go Go.RowKit
set_option maxRecDepth 100000

theorem wrap8 (x : UInt8) : IntKind.u64.wrap ((x.toNat : Int)) = (x.toNat : Int) := by have := x.toNat_lt; rw [IntKind.wrap_u64]; omega
/-- One byte more beside those below it. -/
theorem or_step (b : Nat → UInt8) (m : Nat) (h : m < 8) : lv b m ||| (b m).toNat * 2 ^ (8 * m) = lv b (m + 1) ∧ lv b m < 18446744073709551616 ∧ (b m).toNat * 2 ^ (8 * m) < 18446744073709551616 := by
  have h1 := lv_lt b m
  have h2 := (b m).toNat_lt
  have e : (256 : Nat) ^ m = 2 ^ (8 * m) := by rw [show (256 : Nat) = 2 ^ 8 from rfl, ← Nat.pow_mul]
  have h3 : (2 : Nat) ^ (8 * m) ≤ 2 ^ 56 := Nat.pow_le_pow_right (by omega) (by omega)
  have h4 : (b m).toNat * 2 ^ (8 * m) ≤ 255 * 2 ^ 56 := Nat.mul_le_mul (by omega) h3
  rw [e] at h1
  refine ⟨?_, by omega, by omega⟩
  have h5 := Nat.shiftLeft_add_eq_or_of_lt h1 (b m).toNat
  rw [Nat.shiftLeft_eq] at h5
  show _ = lv b m + (b m).toNat * 256 ^ m
  rw [Nat.or_comm, ← h5, e, Nat.add_comm]

set_option maxHeartbeats 8000000 in
theorem word_c (b : Nat → UInt8) (g o c : Nat) (w : World) (hc : ∀ j, j < 8 → w.cell? ⟨g, o + j, none⟩ = some (.int .u8 ((b j).toNat : Int))) : Calls Tryz.prog 89 #[.slice (some ⟨g, o, none⟩) 8 c] w fun e w' =>
    e = .returned (.int .u64 (lv b 8 : Int)) ∧ (∀ j, j < 8 → w'.cell? ⟨g, o + j, none⟩ = some (.int .u8 ((b j).toNat : Int))) ∧ Below w.heap.size w w' := by
  go_enter Tryz.func89, Tryz.ntmps89
  go_upto_region 1 with (fail)
  refine region_seq (fun W' => (∀ j, j < 8 → W'.cell? ⟨g, o + j, none⟩ = some (.int .u8 ((b j).toNat : Int))) ∧ Below w.heap.size w W') mixedOrders (by kernel_rfl) (by simp) ⟨hc, (Below.refl _ _).drew⟩ ?_
  clear hc
  refine Seq.next ?_ (Sure.val rfl (fun w' hS => ?_)) ?_
  rotate_left 1
  · clear hS
    go_simp
    rfl
  simp only [Act.put, List.setIfInBounds_toArray, List.set_cons_zero, List.set_cons_succ]
  refine Seq.next ?_ (Sure.val rfl (fun w' hS => ?_)) ?_
  rotate_left 1
  · clear hS
    go_simp
    rfl
  simp only [Act.put, List.setIfInBounds_toArray, List.set_cons_zero, List.set_cons_succ]
  refine Seq.next ?_ (Sure.val rfl (fun w' hS => ?_)) ?_
  rotate_left 1
  · have c := hS.1 0 (by omega)
    rw [Nat.add_zero] at c
    clear hS
    go_simp
    rfl
  simp only [Act.put, List.setIfInBounds_toArray, List.set_cons_zero, List.set_cons_succ]
  refine Seq.next (.int .u64 ((b 0).toNat : Int)) (Sure.val rfl (fun w' hS => ?_)) ?_
  · have e := wrap8 (b 0)
    clear hS
    go_simp
  simp only [Act.put, List.setIfInBounds_toArray, List.set_cons_zero, List.set_cons_succ]
  refine Seq.next ?_ (Sure.val rfl (fun w' hS => ?_)) ?_
  rotate_left 1
  · clear hS
    go_simp
    rfl
  simp only [Act.put, List.setIfInBounds_toArray, List.set_cons_zero, List.set_cons_succ]
  refine Seq.next ?_ (Sure.val rfl (fun w' hS => ?_)) ?_
  rotate_left 1
  · clear hS
    go_simp
    rfl
  simp only [Act.put, List.setIfInBounds_toArray, List.set_cons_zero, List.set_cons_succ]
  refine Seq.next ?_ (Sure.val rfl (fun w' hS => ?_)) ?_
  rotate_left 1
  · have c := hS.1 1 (by omega)
    clear hS
    go_simp
    rfl
  simp only [Act.put, List.setIfInBounds_toArray, List.set_cons_zero, List.set_cons_succ]
  refine Seq.next (.int .u64 ((b 1).toNat : Int)) (Sure.val rfl (fun w' hS => ?_)) ?_
  · have e := wrap8 (b 1)
    clear hS
    go_simp
  simp only [Act.put, List.setIfInBounds_toArray, List.set_cons_zero, List.set_cons_succ]
  refine Seq.next (.int .u64 (((b 1).toNat * 2 ^ 8 : Nat) : Int)) (Sure.val rfl (fun w' hS => ?_)) ?_
  · have hs := (b 1).toNat_lt
    clear hS
    go_simp
    rw [IntKind.wrap_u64]
    omega
  simp only [Act.put, List.setIfInBounds_toArray, List.set_cons_zero, List.set_cons_succ]
  refine Seq.next (.int .u64 (lv b 2 : Int)) (Sure.val rfl (fun w' hS => ?_)) ?_
  · have hs := Lib.hid (or_step b 1 (by omega))
    clear hS
    go_simp
    rw [show ((b 0).toNat : Int) = ((lv b 1 : Nat) : Int) by simp [lv]]
    rw [show ((b 1).toNat : Int) * 256 = (((b 1).toNat * 2 ^ (8 * 1) : Nat) : Int) by omega, u64_or_nat _ _ hs.out.2.1 hs.out.2.2, hs.out.1]
  simp only [Act.put, List.setIfInBounds_toArray, List.set_cons_zero, List.set_cons_succ]
  refine Seq.next ?_ (Sure.val rfl (fun w' hS => ?_)) ?_
  rotate_left 1
  · clear hS
    go_simp
    rfl
  simp only [Act.put, List.setIfInBounds_toArray, List.set_cons_zero, List.set_cons_succ]
  refine Seq.next ?_ (Sure.val rfl (fun w' hS => ?_)) ?_
  rotate_left 1
  · clear hS
    go_simp
    rfl
  simp only [Act.put, List.setIfInBounds_toArray, List.set_cons_zero, List.set_cons_succ]
  refine Seq.next ?_ (Sure.val rfl (fun w' hS => ?_)) ?_
  rotate_left 1
  · have c := hS.1 2 (by omega)
    clear hS
    go_simp
    rfl
  simp only [Act.put, List.setIfInBounds_toArray, List.set_cons_zero, List.set_cons_succ]
  refine Seq.next (.int .u64 ((b 2).toNat : Int)) (Sure.val rfl (fun w' hS => ?_)) ?_
  · have e := wrap8 (b 2)
    clear hS
    go_simp
  simp only [Act.put, List.setIfInBounds_toArray, List.set_cons_zero, List.set_cons_succ]
  refine Seq.next (.int .u64 (((b 2).toNat * 2 ^ 16 : Nat) : Int)) (Sure.val rfl (fun w' hS => ?_)) ?_
  · have hs := (b 2).toNat_lt
    clear hS
    go_simp
    rw [IntKind.wrap_u64]
    omega
  simp only [Act.put, List.setIfInBounds_toArray, List.set_cons_zero, List.set_cons_succ]
  refine Seq.next (.int .u64 (lv b 3 : Int)) (Sure.val rfl (fun w' hS => ?_)) ?_
  · have hs := Lib.hid (or_step b 2 (by omega))
    clear hS
    go_simp
    rw [show ((b 2).toNat : Int) * 65536 = (((b 2).toNat * 2 ^ (8 * 2) : Nat) : Int) by omega, u64_or_nat _ _ hs.out.2.1 hs.out.2.2, hs.out.1]
  simp only [Act.put, List.setIfInBounds_toArray, List.set_cons_zero, List.set_cons_succ]
  refine Seq.next ?_ (Sure.val rfl (fun w' hS => ?_)) ?_
  rotate_left 1
  · clear hS
    go_simp
    rfl
  simp only [Act.put, List.setIfInBounds_toArray, List.set_cons_zero, List.set_cons_succ]
  refine Seq.next ?_ (Sure.val rfl (fun w' hS => ?_)) ?_
  rotate_left 1
  · clear hS
    go_simp
    rfl
  simp only [Act.put, List.setIfInBounds_toArray, List.set_cons_zero, List.set_cons_succ]
  refine Seq.next ?_ (Sure.val rfl (fun w' hS => ?_)) ?_
  rotate_left 1
  · have c := hS.1 3 (by omega)
    clear hS
    go_simp
    rfl
  simp only [Act.put, List.setIfInBounds_toArray, List.set_cons_zero, List.set_cons_succ]
  refine Seq.next (.int .u64 ((b 3).toNat : Int)) (Sure.val rfl (fun w' hS => ?_)) ?_
  · have e := wrap8 (b 3)
    clear hS
    go_simp
  simp only [Act.put, List.setIfInBounds_toArray, List.set_cons_zero, List.set_cons_succ]
  refine Seq.next (.int .u64 (((b 3).toNat * 2 ^ 24 : Nat) : Int)) (Sure.val rfl (fun w' hS => ?_)) ?_
  · have hs := (b 3).toNat_lt
    clear hS
    go_simp
    rw [IntKind.wrap_u64]
    omega
  simp only [Act.put, List.setIfInBounds_toArray, List.set_cons_zero, List.set_cons_succ]
  refine Seq.next (.int .u64 (lv b 4 : Int)) (Sure.val rfl (fun w' hS => ?_)) ?_
  · have hs := Lib.hid (or_step b 3 (by omega))
    clear hS
    go_simp
    rw [show ((b 3).toNat : Int) * 16777216 = (((b 3).toNat * 2 ^ (8 * 3) : Nat) : Int) by omega, u64_or_nat _ _ hs.out.2.1 hs.out.2.2, hs.out.1]
  simp only [Act.put, List.setIfInBounds_toArray, List.set_cons_zero, List.set_cons_succ]
  refine Seq.next ?_ (Sure.val rfl (fun w' hS => ?_)) ?_
  rotate_left 1
  · clear hS
    go_simp
    rfl
  simp only [Act.put, List.setIfInBounds_toArray, List.set_cons_zero, List.set_cons_succ]
  refine Seq.next ?_ (Sure.val rfl (fun w' hS => ?_)) ?_
  rotate_left 1
  · clear hS
    go_simp
    rfl
  simp only [Act.put, List.setIfInBounds_toArray, List.set_cons_zero, List.set_cons_succ]
  refine Seq.next ?_ (Sure.val rfl (fun w' hS => ?_)) ?_
  rotate_left 1
  · have c := hS.1 4 (by omega)
    clear hS
    go_simp
    rfl
  simp only [Act.put, List.setIfInBounds_toArray, List.set_cons_zero, List.set_cons_succ]
  refine Seq.next (.int .u64 ((b 4).toNat : Int)) (Sure.val rfl (fun w' hS => ?_)) ?_
  · have e := wrap8 (b 4)
    clear hS
    go_simp
  simp only [Act.put, List.setIfInBounds_toArray, List.set_cons_zero, List.set_cons_succ]
  refine Seq.next (.int .u64 (((b 4).toNat * 2 ^ 32 : Nat) : Int)) (Sure.val rfl (fun w' hS => ?_)) ?_
  · have hs := (b 4).toNat_lt
    clear hS
    go_simp
    rw [IntKind.wrap_u64]
    omega
  simp only [Act.put, List.setIfInBounds_toArray, List.set_cons_zero, List.set_cons_succ]
  refine Seq.next (.int .u64 (lv b 5 : Int)) (Sure.val rfl (fun w' hS => ?_)) ?_
  · have hs := Lib.hid (or_step b 4 (by omega))
    clear hS
    go_simp
    rw [show ((b 4).toNat : Int) * 4294967296 = (((b 4).toNat * 2 ^ (8 * 4) : Nat) : Int) by omega, u64_or_nat _ _ hs.out.2.1 hs.out.2.2, hs.out.1]
  simp only [Act.put, List.setIfInBounds_toArray, List.set_cons_zero, List.set_cons_succ]
  refine Seq.next ?_ (Sure.val rfl (fun w' hS => ?_)) ?_
  rotate_left 1
  · clear hS
    go_simp
    rfl
  simp only [Act.put, List.setIfInBounds_toArray, List.set_cons_zero, List.set_cons_succ]
  refine Seq.next ?_ (Sure.val rfl (fun w' hS => ?_)) ?_
  rotate_left 1
  · clear hS
    go_simp
    rfl
  simp only [Act.put, List.setIfInBounds_toArray, List.set_cons_zero, List.set_cons_succ]
  refine Seq.next ?_ (Sure.val rfl (fun w' hS => ?_)) ?_
  rotate_left 1
  · have c := hS.1 5 (by omega)
    clear hS
    go_simp
    rfl
  simp only [Act.put, List.setIfInBounds_toArray, List.set_cons_zero, List.set_cons_succ]
  refine Seq.next (.int .u64 ((b 5).toNat : Int)) (Sure.val rfl (fun w' hS => ?_)) ?_
  · have e := wrap8 (b 5)
    clear hS
    go_simp
  simp only [Act.put, List.setIfInBounds_toArray, List.set_cons_zero, List.set_cons_succ]
  refine Seq.next (.int .u64 (((b 5).toNat * 2 ^ 40 : Nat) : Int)) (Sure.val rfl (fun w' hS => ?_)) ?_
  · have hs := (b 5).toNat_lt
    clear hS
    go_simp
    rw [IntKind.wrap_u64]
    omega
  simp only [Act.put, List.setIfInBounds_toArray, List.set_cons_zero, List.set_cons_succ]
  refine Seq.next (.int .u64 (lv b 6 : Int)) (Sure.val rfl (fun w' hS => ?_)) ?_
  · have hs := Lib.hid (or_step b 5 (by omega))
    clear hS
    go_simp
    rw [show ((b 5).toNat : Int) * 1099511627776 = (((b 5).toNat * 2 ^ (8 * 5) : Nat) : Int) by omega, u64_or_nat _ _ hs.out.2.1 hs.out.2.2, hs.out.1]
  simp only [Act.put, List.setIfInBounds_toArray, List.set_cons_zero, List.set_cons_succ]
  refine Seq.next ?_ (Sure.val rfl (fun w' hS => ?_)) ?_
  rotate_left 1
  · clear hS
    go_simp
    rfl
  simp only [Act.put, List.setIfInBounds_toArray, List.set_cons_zero, List.set_cons_succ]
  refine Seq.next ?_ (Sure.val rfl (fun w' hS => ?_)) ?_
  rotate_left 1
  · clear hS
    go_simp
    rfl
  simp only [Act.put, List.setIfInBounds_toArray, List.set_cons_zero, List.set_cons_succ]
  refine Seq.next ?_ (Sure.val rfl (fun w' hS => ?_)) ?_
  rotate_left 1
  · have c := hS.1 6 (by omega)
    clear hS
    go_simp
    rfl
  simp only [Act.put, List.setIfInBounds_toArray, List.set_cons_zero, List.set_cons_succ]
  refine Seq.next (.int .u64 ((b 6).toNat : Int)) (Sure.val rfl (fun w' hS => ?_)) ?_
  · have e := wrap8 (b 6)
    clear hS
    go_simp
  simp only [Act.put, List.setIfInBounds_toArray, List.set_cons_zero, List.set_cons_succ]
  refine Seq.next (.int .u64 (((b 6).toNat * 2 ^ 48 : Nat) : Int)) (Sure.val rfl (fun w' hS => ?_)) ?_
  · have hs := (b 6).toNat_lt
    clear hS
    go_simp
    rw [IntKind.wrap_u64]
    omega
  simp only [Act.put, List.setIfInBounds_toArray, List.set_cons_zero, List.set_cons_succ]
  refine Seq.next (.int .u64 (lv b 7 : Int)) (Sure.val rfl (fun w' hS => ?_)) ?_
  · have hs := Lib.hid (or_step b 6 (by omega))
    clear hS
    go_simp
    rw [show ((b 6).toNat : Int) * 281474976710656 = (((b 6).toNat * 2 ^ (8 * 6) : Nat) : Int) by omega, u64_or_nat _ _ hs.out.2.1 hs.out.2.2, hs.out.1]
  simp only [Act.put, List.setIfInBounds_toArray, List.set_cons_zero, List.set_cons_succ]
  refine Seq.next ?_ (Sure.val rfl (fun w' hS => ?_)) ?_
  rotate_left 1
  · clear hS
    go_simp
    rfl
  simp only [Act.put, List.setIfInBounds_toArray, List.set_cons_zero, List.set_cons_succ]
  refine Seq.next ?_ (Sure.val rfl (fun w' hS => ?_)) ?_
  rotate_left 1
  · clear hS
    go_simp
    rfl
  simp only [Act.put, List.setIfInBounds_toArray, List.set_cons_zero, List.set_cons_succ]
  refine Seq.next ?_ (Sure.val rfl (fun w' hS => ?_)) ?_
  rotate_left 1
  · have c := hS.1 7 (by omega)
    clear hS
    go_simp
    rfl
  simp only [Act.put, List.setIfInBounds_toArray, List.set_cons_zero, List.set_cons_succ]
  refine Seq.next (.int .u64 ((b 7).toNat : Int)) (Sure.val rfl (fun w' hS => ?_)) ?_
  · have e := wrap8 (b 7)
    clear hS
    go_simp
  simp only [Act.put, List.setIfInBounds_toArray, List.set_cons_zero, List.set_cons_succ]
  refine Seq.next (.int .u64 (((b 7).toNat * 2 ^ 56 : Nat) : Int)) (Sure.val rfl (fun w' hS => ?_)) ?_
  · have hs := (b 7).toNat_lt
    clear hS
    go_simp
    rw [IntKind.wrap_u64]
    omega
  simp only [Act.put, List.setIfInBounds_toArray, List.set_cons_zero, List.set_cons_succ]
  refine Seq.next (.int .u64 (lv b 8 : Int)) (Sure.val rfl (fun w' hS => ?_)) ?_
  · have hs := Lib.hid (or_step b 7 (by omega))
    clear hS
    go_simp
    rw [show ((b 7).toNat : Int) * 72057594037927936 = (((b 7).toNat * 2 ^ (8 * 7) : Nat) : Int) by omega, u64_or_nat _ _ hs.out.2.1 hs.out.2.2, hs.out.1]
  simp only [Act.put, List.setIfInBounds_toArray, List.set_cons_zero, List.set_cons_succ]
  refine Seq.last rfl fun w' hS => ?_
  obtain ⟨h1, h2⟩ := hS
  go_simp
  go_wp2
  go_ret
  exact ⟨rfl, h1, h2⟩

theorem fourWb (L : Nat) : (#[Value.int IntKind.u64 (wd L 0 : Int), Value.int IntKind.u64 (wd L 1 : Int), Value.int IntKind.u64 (wd L 2 : Int), Value.int IntKind.u64 (wd L 3 : Int)] : Array Value) = row64 4 (words L) := by
  show _ = #[by64 (words L 0), by64 (words L 1), by64 (words L 2), by64 (words L 3)]
  unfold by64
  rw [words_int, words_int, words_int, words_int]
theorem lv_add (b : Nat → UInt8) (m : Nat) : ∀ n, lv b (m + n) = lv b m + 256 ^ m * lv (fun j => b (m + j)) n
  | 0 => by simp [lv]
  | n + 1 => by
    show lv b (m + n) + (b (m + n)).toNat * 256 ^ (m + n) = lv b m + 256 ^ m * (lv (fun j => b (m + j)) n + (b (m + n)).toNat * 256 ^ n)
    rw [lv_add b m n, Nat.mul_add, Nat.pow_add]
    rw [show (b (m + n)).toNat * (256 ^ m * 256 ^ n) = 256 ^ m * ((b (m + n)).toNat * 256 ^ n) by ac_rfl]
    omega
theorem lv_wd (b : Nat → UInt8) (i : Nat) (hi : i < 4) : lv (fun j => b (8 * i + j)) 8 = wd (lv b 32) i := by
  have h1 := lv_add b (8 * i) (32 - 8 * i)
  rw [show 8 * i + (32 - 8 * i) = 32 by omega] at h1
  have h2 := lv_add (fun j => b (8 * i + j)) 8 (24 - 8 * i)
  rw [show 8 + (24 - 8 * i) = 32 - 8 * i by omega] at h2
  have hl := lv_lt b (8 * i)
  have hl8 := lv_lt (fun j => b (8 * i + j)) 8
  have e : 2 ^ (64 * i) = 256 ^ (8 * i) := by rw [show (256 : Nat) = 2 ^ 8 from rfl, ← Nat.pow_mul]; congr 1; omega
  unfold wd
  rw [e, h1, Nat.add_mul_div_left _ _ (Nat.pow_pos (by decide)), Nat.div_eq_of_lt hl, Nat.zero_add, h2]
  rw [show (256 : Nat) ^ 8 = 18446744073709551616 by decide] at *
  rw [Nat.add_mul_mod_self_left, Nat.mod_eq_of_lt hl8]

set_option maxHeartbeats 4000000 in
theorem read_c (b : Nat → UInt8) (w : World) : Calls Tryz.prog 75 #[.agg (row 32 b)] w fun e w' => e = .returned (.agg (row64 4 (words (lv b 32)))) ∧ Below w.heap.size w w' := by
  go_enter Tryz.func75, Tryz.ntmps75
  go_upto_region 1 with (fail)
  rw [zeroNb]
  have h1 := (Row.new w 23 32 b).alloc (.cells (row64 4 fun _ => 0) 103)
  have h2 := Row64.new (w.alloc (.cells (row 32 b) 23)) 103 4 fun _ => 0
  have hb : Below w.heap.size w ((w.alloc (.cells (row 32 b) 23)).alloc (.cells (row64 4 fun _ => 0) 103)) := ((Below.refl _ _).alloc (Nat.le_refl _) _).alloc (by simp) _
  simp only [World.size_alloc] at h2
  have hall := And.intro h1 (And.intro h2 hb)
  clear h1 h2 hb
  revert hall
  generalize (w.alloc (.cells (row 32 b) 23)).alloc (.cells (row64 4 fun _ => 0) 103) = w1
  rintro ⟨h1, h2, hb⟩
  refine region_seq (fun W' => Row W' w.heap.size 23 32 b ∧ Row64 W' (w.heap.size + 1) 103 4 (fun _ => 0) ∧ Below w.heap.size w W') mixedOrders (by kernel_rfl) (by simp) ⟨h1.drew, h2.drew, hb.drew⟩ ?_
  clear h1 h2 hb
  refine Seq.next ?_ (Sure.val rfl (fun w' hS => ?_)) ?_
  rotate_left 1
  · clear hS
    go_simp
    rfl
  simp only [Act.put, List.setIfInBounds_toArray, List.set_cons_zero, List.set_cons_succ]
  refine Seq.next (.int .u64 (wd (lv b 32) 0 : Int)) (Sure.call (f := 89) (args := #[.slice (some ⟨w.heap.size, 0, none⟩) 8 32]) rfl (fun w' => by go_simp) (fun w' hS => (lv_wd b 0 (by omega)) ▸ (word_c (fun j => b (8 * 0 + j)) w.heap.size 0 32 w' (fun j hj => hS.1.cell (0 + j) (by omega))).mono fun e w'' h => ⟨h.1, hS.1.below h.2.2 hS.1.lt, hS.2.1.below h.2.2 hS.2.1.lt, hS.2.2.trans (h.2.2.mono hS.2.2.size)⟩)) ?_
  simp only [Act.put, List.setIfInBounds_toArray, List.set_cons_zero, List.set_cons_succ]
  refine Seq.next ?_ (Sure.val rfl (fun w' hS => ?_)) ?_
  rotate_left 1
  · clear hS
    go_simp
    rfl
  simp only [Act.put, List.setIfInBounds_toArray, List.set_cons_zero, List.set_cons_succ]
  refine Seq.next (.int .u64 (wd (lv b 32) 1 : Int)) (Sure.call (f := 89) (args := #[.slice (some ⟨w.heap.size, 8, none⟩) 8 24]) rfl (fun w' => by go_simp) (fun w' hS => (lv_wd b 1 (by omega)) ▸ (word_c (fun j => b (8 * 1 + j)) w.heap.size 8 24 w' (fun j hj => hS.1.cell (8 + j) (by omega))).mono fun e w'' h => ⟨h.1, hS.1.below h.2.2 hS.1.lt, hS.2.1.below h.2.2 hS.2.1.lt, hS.2.2.trans (h.2.2.mono hS.2.2.size)⟩)) ?_
  simp only [Act.put, List.setIfInBounds_toArray, List.set_cons_zero, List.set_cons_succ]
  refine Seq.next ?_ (Sure.val rfl (fun w' hS => ?_)) ?_
  rotate_left 1
  · clear hS
    go_simp
    rfl
  simp only [Act.put, List.setIfInBounds_toArray, List.set_cons_zero, List.set_cons_succ]
  refine Seq.next (.int .u64 (wd (lv b 32) 2 : Int)) (Sure.call (f := 89) (args := #[.slice (some ⟨w.heap.size, 16, none⟩) 8 16]) rfl (fun w' => by go_simp) (fun w' hS => (lv_wd b 2 (by omega)) ▸ (word_c (fun j => b (8 * 2 + j)) w.heap.size 16 16 w' (fun j hj => hS.1.cell (16 + j) (by omega))).mono fun e w'' h => ⟨h.1, hS.1.below h.2.2 hS.1.lt, hS.2.1.below h.2.2 hS.2.1.lt, hS.2.2.trans (h.2.2.mono hS.2.2.size)⟩)) ?_
  simp only [Act.put, List.setIfInBounds_toArray, List.set_cons_zero, List.set_cons_succ]
  refine Seq.next ?_ (Sure.val rfl (fun w' hS => ?_)) ?_
  rotate_left 1
  · clear hS
    go_simp
    rfl
  simp only [Act.put, List.setIfInBounds_toArray, List.set_cons_zero, List.set_cons_succ]
  refine Seq.next (.int .u64 (wd (lv b 32) 3 : Int)) (Sure.call (f := 89) (args := #[.slice (some ⟨w.heap.size, 24, none⟩) 8 8]) rfl (fun w' => by go_simp) (fun w' hS => (lv_wd b 3 (by omega)) ▸ (word_c (fun j => b (8 * 3 + j)) w.heap.size 24 8 w' (fun j hj => hS.1.cell (24 + j) (by omega))).mono fun e w'' h => ⟨h.1, hS.1.below h.2.2 hS.1.lt, hS.2.1.below h.2.2 hS.2.1.lt, hS.2.2.trans (h.2.2.mono hS.2.2.size)⟩)) ?_
  simp only [Act.put, List.setIfInBounds_toArray, List.set_cons_zero, List.set_cons_succ]
  refine Seq.next (.agg (row64 4 (words (lv b 32)))) (Sure.val rfl (fun w' hS => ?_)) ?_
  · clear hS
    go_simp
    exact fourWb _
  simp only [Act.put, List.setIfInBounds_toArray, List.set_cons_zero, List.set_cons_succ]
  refine Seq.store_Row64 rfl 103 _ _ rfl (w.heap.size + 1) rfl 103 4 (fun _ => 0) (words (lv b 32)) rfl (fun w' hS => hS.2.1) sizeNb (fun w' hS => ?_)
  have hr := hS.2.1.setRow (words (lv b 32))
  have hb := below_setRow8 hS.2.2 (k := w.heap.size + 1) (by omega) (row64 4 (words (lv b 32)))
  clear hS
  revert hr hb
  generalize w'.setRow (w.heap.size + 1) (row64 4 (words (lv b 32))) = w4
  intro hr hb
  simp only [Act.put]
  go_wp2
  exact ret_W4 rfl rfl (w.heap.size + 1) 103 _ rfl hr isRowNb (sizeNbR _) ⟨rfl, hb⟩
end Go.Proofs.YtbbegnfopdihaaaGreatDoor

namespace Go.Proofs.YtbbegnfopdihaaaGreatDoor
open Go Go.RowKit Go.ChangeShapes Go.WideShapes Go.ChangeAt
set_option maxRecDepth 100000

/-- A call, the last operation of a region. -/
theorem Seq.call_last {P : Program} {ops : Array Oper} {S : World → Prop} {Q : Exit → Act → World → Prop} {o : Oper} {a : Act} (d : Option Tmp) (hd : o.dst = d) (hwant : Region.wanted o (yielded ops a.tmps) = true) (f : FuncId) (args : Array Value)
    (hr : ∀ w, (execOp a.eval o).run P w = .ok (.enter f args) w) (h : ∀ w, S w → Calls P f args w fun e w' => ∃ v, e = .returned v ∧ Q .normal (a.put d v) w') : Seq P ops Q S [o] a := by
  subst hd
  refine Seq.last hwant fun w hS => ?_
  unfold Oper.wp
  rw [hr w]
  refine (h w hS).mono ?_
  rintro e w' ⟨v, rfl, h1⟩
  exact h1

end Go.Proofs.YtbbegnfopdihaaaGreatDoor

namespace Go.Proofs.YtbbegnfopdihaaaGreatDoor
open Go Go.RowKit
set_option maxRecDepth 100000

/-- A byte of a word, as the walk tells it. -/
theorem put_byte (V i k : Nat) (hk : k < 8) : (wd V i : Int) / ((2 ^ (8 * k) : Nat) : Int) % 256 = ((byteN V (8 * i + k)).toNat : Int) := by
  rw [byteN_nat, ← byte_of_word, show (8 * i + k) / 8 = i by omega, show (8 * i + k) % 8 = k by omega]
  omega
/-- Word i of V laid over f. -/
def putW (V i : Nat) (f : Nat → UInt8) : Nat → UInt8 := fun j => if 8 * i ≤ j ∧ j < 8 * i + 8 then byteN V j else f j

set_option maxHeartbeats 8000000 in
theorem putWord_c (V i g c : Nat) (f : Nat → UInt8) (w : World) (hi : i < 4) (hr : Row w g 23 32 f) : Calls Tryz.prog 86 #[.slice (some ⟨g, 8 * i, none⟩) 8 c, .int .u64 (wd V i : Int)] w fun e w' =>
    e = .returned (.tuple #[]) ∧ Row w' g 23 32 (putW V i f) ∧ Beside g w w' := by
  have e0 : (wd V i : Int) % 256 = ((byteN V (8 * i)).toNat : Int) := by have h := put_byte V i 0 (by omega); simpa using h
  have e1 : (wd V i : Int) / 256 % 256 = ((byteN V (8 * i + 1)).toNat : Int) := by have h := put_byte V i 1 (by omega); simpa using h
  have e2 : (wd V i : Int) / 65536 % 256 = ((byteN V (8 * i + 2)).toNat : Int) := by have h := put_byte V i 2 (by omega); simpa using h
  have e3 : (wd V i : Int) / 16777216 % 256 = ((byteN V (8 * i + 3)).toNat : Int) := by have h := put_byte V i 3 (by omega); simpa using h
  have e4 : (wd V i : Int) / 4294967296 % 256 = ((byteN V (8 * i + 4)).toNat : Int) := by have h := put_byte V i 4 (by omega); simpa using h
  have e5 : (wd V i : Int) / 1099511627776 % 256 = ((byteN V (8 * i + 5)).toNat : Int) := by have h := put_byte V i 5 (by omega); simpa using h
  have e6 : (wd V i : Int) / 281474976710656 % 256 = ((byteN V (8 * i + 6)).toNat : Int) := by have h := put_byte V i 6 (by omega); simpa using h
  have e7 : (wd V i : Int) / 72057594037927936 % 256 = ((byteN V (8 * i + 7)).toNat : Int) := by have h := put_byte V i 7 (by omega); simpa using h
  have c0 := hr.cell (8 * i) (by omega)
  have d0 := hr.frozen (8 * i)
  have c1 := hr.cell (8 * i + 1) (by omega)
  have d1 := hr.frozen (8 * i + 1)
  have c2 := hr.cell (8 * i + 2) (by omega)
  have d2 := hr.frozen (8 * i + 2)
  have c3 := hr.cell (8 * i + 3) (by omega)
  have d3 := hr.frozen (8 * i + 3)
  have c4 := hr.cell (8 * i + 4) (by omega)
  have d4 := hr.frozen (8 * i + 4)
  have c5 := hr.cell (8 * i + 5) (by omega)
  have d5 := hr.frozen (8 * i + 5)
  have c6 := hr.cell (8 * i + 6) (by omega)
  have d6 := hr.frozen (8 * i + 6)
  have c7 := hr.cell (8 * i + 7) (by omega)
  have d7 := hr.frozen (8 * i + 7)
  have hs := ((((((((hr.set_ (8 * i) (byteN V (8 * i))).set_ (8 * i + 1) (byteN V (8 * i + 1))).set_ (8 * i + 2) (byteN V (8 * i + 2))).set_ (8 * i + 3) (byteN V (8 * i + 3))).set_ (8 * i + 4) (byteN V (8 * i + 4))).set_ (8 * i + 5) (byteN V (8 * i + 5))).set_ (8 * i + 6) (byteN V (8 * i + 6))).set_ (8 * i + 7) (byteN V (8 * i + 7)))
  have hs := hs.congr (f' := putW V i f) fun j hj => by
    unfold putW
    by_cases h : 8 * i ≤ j ∧ j < 8 * i + 8
    · obtain ⟨k, rfl⟩ : ∃ k, j = 8 * i + k := ⟨j - 8 * i, by omega⟩
      have : k = 0 ∨ k = 1 ∨ k = 2 ∨ k = 3 ∨ k = 4 ∨ k = 5 ∨ k = 6 ∨ k = 7 := by omega
      rw [if_pos h]
      rcases this with rfl | rfl | rfl | rfl | rfl | rfl | rfl | rfl <;> simp
    · rw [if_neg h]
      rw [if_neg (by omega), if_neg (by omega), if_neg (by omega), if_neg (by omega), if_neg (by omega), if_neg (by omega), if_neg (by omega), if_neg (by omega)]
  have hbe := (((((((((Beside.refl g w).setCell (8 * i) (.int .u8 ((byteN V (8 * i)).toNat : Int))).setCell (8 * i + 1) (.int .u8 ((byteN V (8 * i + 1)).toNat : Int))).setCell (8 * i + 2) (.int .u8 ((byteN V (8 * i + 2)).toNat : Int))).setCell (8 * i + 3) (.int .u8 ((byteN V (8 * i + 3)).toNat : Int))).setCell (8 * i + 4) (.int .u8 ((byteN V (8 * i + 4)).toNat : Int))).setCell (8 * i + 5) (.int .u8 ((byteN V (8 * i + 5)).toNat : Int))).setCell (8 * i + 6) (.int .u8 ((byteN V (8 * i + 6)).toNat : Int))).setCell (8 * i + 7) (.int .u8 ((byteN V (8 * i + 7)).toNat : Int)))
  have HS := Lib.hid hs
  have HB := Lib.hid hbe
  clear hs hbe
  go_enter Tryz.func86, Tryz.ntmps86
  go_wp2
  exact bodyPost_end (results_none rfl _ _ _) rfl ⟨rfl, HS.out, HB.out⟩

theorem putWord_o (o V i g c : Nat) (f : Nat → UInt8) (w : World) (hi : i < 4) (ho : o = 8 * i) (hr : Row w g 23 32 f) : Calls Tryz.prog 86 #[.slice (some ⟨g, o, none⟩) 8 c, .int .u64 (wd V i : Int)] w fun e w' =>
    e = .returned (.tuple #[]) ∧ Row w' g 23 32 (putW V i f) ∧ Beside g w w' := by
  subst ho
  exact putWord_c V i g c f w hi hr
theorem put_all (V : Nat) (f : Nat → UInt8) (j : Nat) (hj : j < 32) : putW V 3 (putW V 2 (putW V 1 (putW V 0 f))) j = byteN V j := by
  unfold putW
  by_cases h3 : 8 * 3 ≤ j ∧ j < 8 * 3 + 8
  · rw [if_pos h3]
  · rw [if_neg h3]
    by_cases h2 : 8 * 2 ≤ j ∧ j < 8 * 2 + 8
    · rw [if_pos h2]
    · rw [if_neg h2]
      by_cases h1 : 8 * 1 ≤ j ∧ j < 8 * 1 + 8
      · rw [if_pos h1]
      · rw [if_neg h1, if_pos (by omega)]

set_option maxHeartbeats 8000000 in
theorem bytesOf_c (n : Nat) (hn : n < 2 ^ 256) (w : World) : Calls Tryz.prog 73 #[.agg (row64 4 (words n))] w fun e w' => e = .returned (.agg (row 32 (byteN (n % pN)))) ∧ Below w.heap.size w w' := by
  have hc := fun W => canonical_c n hn W
  generalize n % pN = P at *
  go_enter Tryz.func73, Tryz.ntmps73
  go_upto_region 1 with (first | (refine wpList_alloc_Row rfl 23 rfl 32 z32B ?_))
  have hz1 := (Row64.new w 103 4 (words n)).alloc (.cells (row 32 fun _ => 0) 23)
  have hz2 := Row.new (w.alloc (.cells (row64 4 (words n)) 103)) 23 32 fun _ => 0
  have hb0 : Below w.heap.size w ((w.alloc (.cells (row64 4 (words n)) 103)).alloc (.cells (row 32 fun _ => 0) 23)) := ((Below.refl _ _).alloc (Nat.le_refl _) _).alloc (by simp) _
  simp only [World.size_alloc] at hz2
  have hall := And.intro hz1 (And.intro hz2 hb0)
  clear hz1 hz2 hb0
  revert hall
  generalize (w.alloc (.cells (row64 4 (words n)) 103)).alloc (.cells (row 32 fun _ => 0) 23) = w1
  rintro ⟨h1, h2, h3⟩
  go_upto_region 2 with (first | (refine wpList_load_Blk rfl 103 _ rfl w.heap.size rfl 103 _ h1 isRowNb (sizeNbR _) ?_) | (go_at_call 85; refine (hc _).mono ?_; rintro e w5 ⟨rfl, hw5⟩; have h1 := h1.below hw5 h1.lt; have h2 := h2.below hw5 h2.lt; have h3 := h3.trans (hw5.mono h3.size)) | (refine wpList_store_Row64 rfl 103 _ _ rfl w.heap.size rfl 103 4 _ _ rfl h1 sizeNb ?_))
  clear hc
  have h1 := h1.setRow (words P)
  have h2 := h2.setRow_far (k := w.heap.size) (by omega) (row64 4 (words P))
  have h3 := below_setRow8 h3 (k := w.heap.size) (by omega) (row64 4 (words P))
  (try simp only [Act.put])
  revert h1 h2 h3
  generalize w5.setRow w.heap.size (row64 4 (words P)) = w6
  intro h1 h2 h3
  go_upto_region 3 with (first | (refine wpList_alloc_Row rfl 23 rfl 32 z32B ?_))
  have hg : w.heap.size + 1 < w6.heap.size := h2.lt
  have h4 := Row.new w6 23 32 fun _ => 0
  have h1 := h1.alloc (.cells (row 32 fun _ => 0) 23)
  have h2 := h2.alloc (.cells (row 32 fun _ => 0) 23)
  have h3 := h3.alloc h3.size (.cells (row 32 fun _ => 0) 23)
  have hall := And.intro h1 (And.intro h2 (And.intro h3 h4))
  clear h1 h2 h3 h4
  revert hall hg
  generalize w6.alloc (.cells (row 32 fun _ => 0) 23) = w7
  generalize w6.heap.size = g
  rintro hg ⟨h1, h2, h3, h4⟩
  (try simp only [Act.put])
  refine region_seq (fun W' => Row64 W' w.heap.size 103 4 (words P) ∧ Row W' (w.heap.size + 1) 23 32 (fun _ => 0) ∧ Below w.heap.size w W' ∧ Row W' g 23 32 (fun _ => 0)) mixedOrders (by kernel_rfl) (by simp) ⟨h1.drew, h2.drew, h3.drew, h4.drew⟩ ?_
  clear h1 h2 h3 h4
  refine Seq.next ?_ (Sure.val rfl (fun w' hS => ?_)) ?_
  rotate_left 1
  · clear hS
    go_simp
    rfl
  simp only [Act.put, List.setIfInBounds_toArray, List.set_cons_zero, List.set_cons_succ]
  refine Seq.next ?_ (Sure.val rfl (fun w' hS => ?_)) ?_
  rotate_left 1
  · clear hS
    go_simp
    rfl
  simp only [Act.put, List.setIfInBounds_toArray, List.set_cons_zero, List.set_cons_succ]
  refine Seq.next ?_ (Sure.val rfl (fun w' hS => ?_)) ?_
  rotate_left 1
  · have c := hS.1.cellW 0 (by omega)
    clear hS
    go_simp
    rfl
  simp only [Act.put, List.setIfInBounds_toArray, List.set_cons_zero, List.set_cons_succ]
  refine Seq.call_last (some 9) rfl rfl 86 #[.slice (some ⟨g, 0, none⟩) 8 32, .int .u64 (wd P 0 : Int)] (fun w' => by go_simp) fun w' hS => (putWord_o 0 P 0 g 32 (fun _ => 0) w' (by omega) (by omega) hS.2.2.2).mono ?_
  rintro e w8 ⟨rfl, h4, hbe⟩
  obtain ⟨h1, h2, h3, _⟩ := hS
  have h1 : Row64 w8 w.heap.size 103 4 (words P) := (hbe.2 _ h1.lt (by omega)).trans h1
  have h2 : Row w8 (w.heap.size + 1) 23 32 (fun _ => 0) := (hbe.2 _ h2.lt (by omega)).trans h2
  have h3 := h3.trans (hbe.1.mono (by omega))
  clear hbe
  refine ⟨_, rfl, ?_⟩
  simp only [Act.put, List.setIfInBounds_toArray, List.set_cons_zero, List.set_cons_succ]
  go_wp2_with (fail)
  refine region_seq (fun W' => Row64 W' w.heap.size 103 4 (words P) ∧ Row W' (w.heap.size + 1) 23 32 (fun _ => 0) ∧ Below w.heap.size w W' ∧ Row W' g 23 32 (putW P 0 (fun _ => 0))) mixedOrders (by kernel_rfl) (by simp) ⟨h1.drew, h2.drew, h3.drew, h4.drew⟩ ?_
  clear h1 h2 h3 h4
  refine Seq.next ?_ (Sure.val rfl (fun w' hS => ?_)) ?_
  rotate_left 1
  · clear hS
    go_simp
    rfl
  simp only [Act.put, List.setIfInBounds_toArray, List.set_cons_zero, List.set_cons_succ]
  refine Seq.next ?_ (Sure.val rfl (fun w' hS => ?_)) ?_
  rotate_left 1
  · clear hS
    go_simp
    rfl
  simp only [Act.put, List.setIfInBounds_toArray, List.set_cons_zero, List.set_cons_succ]
  refine Seq.next ?_ (Sure.val rfl (fun w' hS => ?_)) ?_
  rotate_left 1
  · have c := hS.1.cellW 1 (by omega)
    clear hS
    go_simp
    rfl
  simp only [Act.put, List.setIfInBounds_toArray, List.set_cons_zero, List.set_cons_succ]
  refine Seq.call_last (some 13) rfl rfl 86 #[.slice (some ⟨g, 8, none⟩) 8 24, .int .u64 (wd P 1 : Int)] (fun w' => by go_simp) fun w' hS => (putWord_o 8 P 1 g 24 (putW P 0 (fun _ => 0)) w' (by omega) (by omega) hS.2.2.2).mono ?_
  rintro e w8 ⟨rfl, h4, hbe⟩
  obtain ⟨h1, h2, h3, _⟩ := hS
  have h1 : Row64 w8 w.heap.size 103 4 (words P) := (hbe.2 _ h1.lt (by omega)).trans h1
  have h2 : Row w8 (w.heap.size + 1) 23 32 (fun _ => 0) := (hbe.2 _ h2.lt (by omega)).trans h2
  have h3 := h3.trans (hbe.1.mono (by omega))
  clear hbe
  refine ⟨_, rfl, ?_⟩
  simp only [Act.put, List.setIfInBounds_toArray, List.set_cons_zero, List.set_cons_succ]
  go_wp2_with (fail)
  refine region_seq (fun W' => Row64 W' w.heap.size 103 4 (words P) ∧ Row W' (w.heap.size + 1) 23 32 (fun _ => 0) ∧ Below w.heap.size w W' ∧ Row W' g 23 32 (putW P 1 (putW P 0 (fun _ => 0)))) mixedOrders (by kernel_rfl) (by simp) ⟨h1.drew, h2.drew, h3.drew, h4.drew⟩ ?_
  clear h1 h2 h3 h4
  refine Seq.next ?_ (Sure.val rfl (fun w' hS => ?_)) ?_
  rotate_left 1
  · clear hS
    go_simp
    rfl
  simp only [Act.put, List.setIfInBounds_toArray, List.set_cons_zero, List.set_cons_succ]
  refine Seq.next ?_ (Sure.val rfl (fun w' hS => ?_)) ?_
  rotate_left 1
  · clear hS
    go_simp
    rfl
  simp only [Act.put, List.setIfInBounds_toArray, List.set_cons_zero, List.set_cons_succ]
  refine Seq.next ?_ (Sure.val rfl (fun w' hS => ?_)) ?_
  rotate_left 1
  · have c := hS.1.cellW 2 (by omega)
    clear hS
    go_simp
    rfl
  simp only [Act.put, List.setIfInBounds_toArray, List.set_cons_zero, List.set_cons_succ]
  refine Seq.call_last (some 17) rfl rfl 86 #[.slice (some ⟨g, 16, none⟩) 8 16, .int .u64 (wd P 2 : Int)] (fun w' => by go_simp) fun w' hS => (putWord_o 16 P 2 g 16 (putW P 1 (putW P 0 (fun _ => 0))) w' (by omega) (by omega) hS.2.2.2).mono ?_
  rintro e w8 ⟨rfl, h4, hbe⟩
  obtain ⟨h1, h2, h3, _⟩ := hS
  have h1 : Row64 w8 w.heap.size 103 4 (words P) := (hbe.2 _ h1.lt (by omega)).trans h1
  have h2 : Row w8 (w.heap.size + 1) 23 32 (fun _ => 0) := (hbe.2 _ h2.lt (by omega)).trans h2
  have h3 := h3.trans (hbe.1.mono (by omega))
  clear hbe
  refine ⟨_, rfl, ?_⟩
  simp only [Act.put, List.setIfInBounds_toArray, List.set_cons_zero, List.set_cons_succ]
  go_wp2_with (fail)
  refine region_seq (fun W' => Row64 W' w.heap.size 103 4 (words P) ∧ Row W' (w.heap.size + 1) 23 32 (fun _ => 0) ∧ Below w.heap.size w W' ∧ Row W' g 23 32 (putW P 2 (putW P 1 (putW P 0 (fun _ => 0))))) mixedOrders (by kernel_rfl) (by simp) ⟨h1.drew, h2.drew, h3.drew, h4.drew⟩ ?_
  clear h1 h2 h3 h4
  refine Seq.next ?_ (Sure.val rfl (fun w' hS => ?_)) ?_
  rotate_left 1
  · clear hS
    go_simp
    rfl
  simp only [Act.put, List.setIfInBounds_toArray, List.set_cons_zero, List.set_cons_succ]
  refine Seq.next ?_ (Sure.val rfl (fun w' hS => ?_)) ?_
  rotate_left 1
  · clear hS
    go_simp
    rfl
  simp only [Act.put, List.setIfInBounds_toArray, List.set_cons_zero, List.set_cons_succ]
  refine Seq.next ?_ (Sure.val rfl (fun w' hS => ?_)) ?_
  rotate_left 1
  · have c := hS.1.cellW 3 (by omega)
    clear hS
    go_simp
    rfl
  simp only [Act.put, List.setIfInBounds_toArray, List.set_cons_zero, List.set_cons_succ]
  refine Seq.call_last (some 21) rfl rfl 86 #[.slice (some ⟨g, 24, none⟩) 8 8, .int .u64 (wd P 3 : Int)] (fun w' => by go_simp) fun w' hS => (putWord_o 24 P 3 g 8 (putW P 2 (putW P 1 (putW P 0 (fun _ => 0)))) w' (by omega) (by omega) hS.2.2.2).mono ?_
  rintro e w8 ⟨rfl, h4, hbe⟩
  obtain ⟨h1, h2, h3, _⟩ := hS
  have h1 : Row64 w8 w.heap.size 103 4 (words P) := (hbe.2 _ h1.lt (by omega)).trans h1
  have h2 : Row w8 (w.heap.size + 1) 23 32 (fun _ => 0) := (hbe.2 _ h2.lt (by omega)).trans h2
  have h3 := h3.trans (hbe.1.mono (by omega))
  clear hbe
  refine ⟨_, rfl, ?_⟩
  simp only [Act.put, List.setIfInBounds_toArray, List.set_cons_zero, List.set_cons_succ]
  have h4 := h4.congr (f' := byteN P) fun j hj => put_all P _ j hj
  go_wp2_with (first | (refine wpList_load_Row rfl 23 _ rfl g rfl 23 32 _ _ h4 und32B size32B ?_) | (refine wpList_store_Row rfl 23 _ _ rfl (w.heap.size + 1) rfl 23 32 _ _ rfl h2 size32B ?_))
  exact ret_Row rfl rfl _ _ 32 _ _ rfl (h2.setRow _) und32B size32B ⟨rfl, below_setRow8 h3 (by omega) _⟩
end Go.Proofs.YtbbegnfopdihaaaGreatDoor

namespace Go.Proofs.YtbbegnfopdihaaaGreatDoor
open Go Go.RowKit
set_option maxRecDepth 100000

/-! ### Powers modulo p -/
theorem tm_pow {n a b x y : Nat} (hx : x % pN = n ^ a % pN) (hy : y % pN = n ^ b % pN) : tm x y % pN = n ^ (a + b) % pN := by
  rw [tm_mod, Nat.mul_mod, hx, hy, ← Nat.mul_mod, ← Nat.pow_add]
theorem rs_pow {n a x : Nat} (hx : x % pN = n ^ a % pN) : ∀ k, rs x k % pN = n ^ (a * 2 ^ k) % pN
  | 0 => by rw [Nat.pow_zero, Nat.mul_one]; exact hx
  | k + 1 => by
    have h := tm_pow (rs_pow hx k) (rs_pow hx k)
    rw [show a * 2 ^ (k + 1) = a * 2 ^ k + a * 2 ^ k by rw [Nat.pow_succ, ← Nat.mul_assoc, Nat.mul_two]]
    exact h
theorem iv_pow (n : Nat) : iv n % pN = n ^ (pN - 2) % pN := by
  have h1 : n % pN = n ^ 1 % pN := by rw [Nat.pow_one]
  have h2 := tm_pow (rs_pow h1 1) h1
  have h4 := tm_pow (rs_pow h2 2) h2
  have h5 := tm_pow (rs_pow h4 1) h1
  have h10 := tm_pow (rs_pow h5 5) h5
  have h20 := tm_pow (rs_pow h10 10) h10
  have h40 := tm_pow (rs_pow h20 20) h20
  have h50 := tm_pow (rs_pow h40 10) h10
  have h100 := tm_pow (rs_pow h50 50) h50
  have h200 := tm_pow (rs_pow h100 100) h100
  have h250 := tm_pow (rs_pow h200 50) h50
  have g11 := tm_pow (rs_pow h1 3) h2
  have h := tm_pow (rs_pow h250 5) g11
  refine Eq.trans h ?_
  congr 2

set_option maxHeartbeats 4000000 in
theorem inv_c (a : Nat → UInt8) (w : World) : Calls Tryz.prog 55 #[.agg (row 32 a)] w fun e w' => e = .returned (.agg (row 32 (byteN (iv (lv a 32) % pN)))) ∧ Below w.heap.size w w' := by
  have hr := fun W => read_c a W
  have hi := fun W => inverse_c (lv a 32) (lv_lt32 a) W
  have hb := fun W => bytesOf_c (iv (lv a 32)) (iv_lt (lv_lt32 a)) W
  generalize byteN (iv (lv a 32) % pN) = z at *
  generalize iv (lv a 32) = y at *
  generalize lv a 32 = x at *
  go_enter Tryz.func55, Tryz.ntmps55
  go_upto_region 1 with (first | (refine wpList_alloc_Row rfl 23 rfl 32 z32B ?_))
  have h1 := (Row.new w 23 32 a).alloc (.cells (row 32 fun _ => 0) 23)
  have h2 := Row.new (w.alloc (.cells (row 32 a) 23)) 23 32 fun _ => 0
  have h3 : Below w.heap.size w ((w.alloc (.cells (row 32 a) 23)).alloc (.cells (row 32 fun _ => 0) 23)) := ((Below.refl _ _).alloc (Nat.le_refl _) _).alloc (by simp) _
  simp only [World.size_alloc] at h2
  have hall := And.intro h1 (And.intro h2 h3)
  clear h1 h2 h3
  revert hall
  generalize (w.alloc (.cells (row 32 a) 23)).alloc (.cells (row 32 fun _ => 0) 23) = w1
  rintro ⟨h1, h2, h3⟩
  go_wp2_with (first | (refine wpList_load_Row rfl 23 _ rfl w.heap.size rfl 23 32 _ _ h1 und32B size32B ?_) | (go_at_call 75; refine (hr _).mono ?_; rintro e w5 ⟨rfl, hw5⟩; have h2 := h2.below hw5 h2.lt; have h3 := h3.trans (hw5.mono h3.size)) | (go_at_call 76; refine (hi _).mono ?_; rintro e w6 ⟨rfl, hw6⟩; have h2 := h2.below hw6 h2.lt; have h3 := h3.trans (hw6.mono h3.size)) | (go_at_call 73; refine (hb _).mono ?_; rintro e w7 ⟨rfl, hw7⟩; have h2 := h2.below hw7 h2.lt; have h3 := h3.trans (hw7.mono h3.size)) | (refine wpList_store_Row rfl 23 _ _ rfl (w.heap.size + 1) rfl 23 32 _ _ rfl h2 size32B ?_))
  exact ret_Row rfl rfl _ _ 32 _ _ rfl (h2.setRow _) und32B size32B ⟨rfl, below_setRow8 h3 (by omega) _⟩
end Go.Proofs.YtbbegnfopdihaaaGreatDoor

namespace Go.Proofs.YtbbegnfopdihaaaGreatDoor

/-- Numbers modulo n are a field in which 2 isn't 0, iv tells inverses, and d times a square is a square only at 0. -/
structure Edw {n : Nat} [NeZero n] (d : Fin n) (iv : Fin n → Fin n) : Prop where
  dom : ∀ x y : Fin n, x * y = 0 → x = 0 ∨ y = 0
  two : (1 : Fin n) + 1 ≠ 0
  inv : ∀ x : Fin n, x ≠ 0 → x * iv x = 1
  nsq : ∀ s t : Fin n, s * s = d * (t * t) → t = 0

section
variable {n : Nat} [NeZero n] {d : Fin n} {iv : Fin n → Fin n}

end
end Go.Proofs.YtbbegnfopdihaaaGreatDoor

namespace Go.Proofs.YtbbegnfopdihaaaGreatDoor

/-- 2^255 - 19, and the group's order. -/
def pF : Nat := 57896044618658097711785492504343953926634992332820282019728792003956564819949
end Go.Proofs.YtbbegnfopdihaaaGreatDoor

namespace Go.Proofs.YtbbegnfopdihaaaGreatDoor

theorem pF_pos : 0 < pF := by decide +kernel
instance : NeZero pF := ⟨by decide +kernel⟩
/-- Powers, one factor at a time. -/
def pw {n : Nat} [NeZero n] (x : Fin n) : Nat → Fin n
  | 0 => 1
  | e + 1 => pw x e * x
theorem pw_val {n : Nat} [NeZero n] (x : Fin n) : ∀ e, (pw x e).val = x.val ^ e % n
  | 0 => by
    show (1 : Fin n).val = _
    rw [Nat.pow_zero]; rfl
  | e + 1 => by
    show (pw x e * x).val = _
    rw [Fin.val_mul, pw_val x e, Nat.pow_succ, Nat.mod_mul_mod]
def ivF (x : Fin pF) : Fin pF := pw x (pF - 2)
/-- Half of p - 1: of a square it tells 1. -/
def hF : Nat := (pF - 1) / 2
/-! ### What is never 0 -/
section
variable {n : Nat} [NeZero n] {d : Fin n} {iv : Fin n → Fin n}
end
end Go.Proofs.YtbbegnfopdihaaaGreatDoor

namespace Go.Proofs.YtbbegnfopdihaaaGreatDoor

/-- What a number is modulo p. -/
def toF (v : Nat) : Fin pF := ⟨v % pF, Nat.mod_lt _ pF_pos⟩
theorem toF_eq {u v : Nat} (h : u % pN = v % pN) : toF u = toF v := Fin.ext h
theorem toF_add (u v : Nat) : toF (u + v) = toF u + toF v := by
  refine Fin.ext ?_
  rw [Fin.val_add]
  show (u + v) % pF = (u % pF + v % pF) % pF
  rw [← Nat.add_mod]
theorem toF_mul (u v : Nat) : toF (u * v) = toF u * toF v := by
  refine Fin.ext ?_
  rw [Fin.val_mul]
  show (u * v) % pF = (u % pF * (v % pF)) % pF
  rw [← Nat.mul_mod]
theorem toF_fv (v : Nat) : toF (fv v) = toF v := toF_eq (fv_mod v)
theorem toF_tm (u v : Nat) : toF (tm u v) = toF u * toF v := by rw [← toF_mul]; exact toF_eq (tm_mod u v)
theorem toF_mi (u v : Nat) (hu : u < 2 ^ 256) (hv : v < 2 ^ 256) : toF (mi u v) = toF u - toF v := by
  have h := toF_eq (mi_facts u v hu hv).2.2
  rw [toF_add] at h
  generalize toF (mi u v) = x at *
  rw [← h]; grind
theorem toF_iv (n : Nat) : toF (iv n) = ivF (toF n) := by
  refine Fin.ext ?_
  unfold ivF
  rw [pw_val]
  show iv n % pN = (n % pF) ^ (pF - 2) % pF
  rw [iv_pow, ← Nat.pow_mod]
  rfl
/-- The bytes that are told stand for the number. -/
theorem lv_bytes (v : Nat) : lv (byteN (v % pN)) 32 = v % pN := by
  rw [lv_byteN]
  exact Nat.mod_eq_of_lt (Nat.lt_of_lt_of_le (Nat.mod_lt _ (by decide)) (by decide))
end Go.Proofs.YtbbegnfopdihaaaGreatDoor

namespace Go.Proofs.YtbbegnfopdihaaaGreatDoor
open Go Go.RowKit
set_option maxRecDepth 100000

theorem three_newF (w : World) (t : TypeId) (f g k : Nat → UInt8) :
    Row (((w.alloc (.cells (row 32 f) t)).alloc (.cells (row 32 g) t)).alloc (.cells (row 32 k) t)) w.heap.size t 32 f ∧ Row (((w.alloc (.cells (row 32 f) t)).alloc (.cells (row 32 g) t)).alloc (.cells (row 32 k) t)) (w.heap.size + 1) t 32 g ∧
      Row (((w.alloc (.cells (row 32 f) t)).alloc (.cells (row 32 g) t)).alloc (.cells (row 32 k) t)) (w.heap.size + 1 + 1) t 32 k ∧ Below w.heap.size w (((w.alloc (.cells (row 32 f) t)).alloc (.cells (row 32 g) t)).alloc (.cells (row 32 k) t)) := by
  have h1 := Row.new (w.alloc (.cells (row 32 f) t)) t 32 g
  have h2 := Row.new ((w.alloc (.cells (row 32 f) t)).alloc (.cells (row 32 g) t)) t 32 k
  simp only [World.size_alloc] at h1 h2
  exact ⟨((Row.new w t 32 f).alloc _).alloc _, h1.alloc _, h2, (((Below.refl _ _).alloc (Nat.le_refl _) _).alloc (by simp) _).alloc (by simp; omega) _⟩

set_option maxHeartbeats 4000000 in
theorem add_c (a b : Nat → UInt8) (w : World) : Calls Tryz.prog 70 #[.agg (row 32 a), .agg (row 32 b)] w fun e w' => e = .returned (.agg (row 32 (byteN (fv (lv a 32 + lv b 32) % pN)))) ∧ Below w.heap.size w w' := by
  have hlt : fv (lv a 32 + lv b 32) < 2 ^ 256 := fv_lt (by have := lv_lt32 a; have := lv_lt32 b; omega)
  go_enter Tryz.func70, Tryz.ntmps70
  go_upto_region 1 with (first | (refine wpList_alloc_Row rfl 23 rfl 32 z32B ?_))
  have hz := three_newF w 23 a b (fun _ => 0)
  revert hz
  generalize ((w.alloc (.cells (row 32 a) 23)).alloc (.cells (row 32 b) 23)).alloc (.cells (row 32 fun _ => 0) 23) = w1
  rintro ⟨h1, h2, h3, h4⟩
  (try simp only [Act.put, List.setIfInBounds_toArray, List.set_cons_zero, List.set_cons_succ, World.size_alloc])
  refine region_seq (fun W' => Row W' w.heap.size 23 32 a ∧ Row W' (w.heap.size + 1) 23 32 b ∧ Row W' (w.heap.size + 1 + 1) 23 32 (fun _ => 0) ∧ Below w.heap.size w W') mixedOrders (by kernel_rfl) (by simp) ⟨h1.drew, h2.drew, h3.drew, h4.drew⟩ ?_
  clear h1 h2 h3 h4
  refine Seq.next (.agg (row 32 a)) (Sure.load_Row rfl 23 _ rfl w.heap.size rfl 23 32 _ _ (fun w' hS => hS.1) und32B size32B) ?_
  simp only [Act.put, List.setIfInBounds_toArray, List.set_cons_zero, List.set_cons_succ]
  refine Seq.next (.agg (row64 4 (words (lv a 32)))) (Sure.call (f := 75) (args := #[.agg (row 32 a)]) rfl (fun w' => by go_simp) (fun w' hS => (read_c a w').mono fun e w'' h => ⟨h.1, hS.1.below h.2 hS.1.lt, hS.2.1.below h.2 hS.2.1.lt, hS.2.2.1.below h.2 hS.2.2.1.lt, hS.2.2.2.trans (h.2.mono hS.2.2.2.size)⟩)) ?_
  simp only [Act.put, List.setIfInBounds_toArray, List.set_cons_zero, List.set_cons_succ]
  refine Seq.next (.agg (row 32 b)) (Sure.load_Row rfl 23 _ rfl (w.heap.size + 1) rfl 23 32 _ _ (fun w' hS => hS.2.1) und32B size32B) ?_
  simp only [Act.put, List.setIfInBounds_toArray, List.set_cons_zero, List.set_cons_succ]
  refine Seq.next (.agg (row64 4 (words (lv b 32)))) (Sure.call (f := 75) (args := #[.agg (row 32 b)]) rfl (fun w' => by go_simp) (fun w' hS => (read_c b w').mono fun e w'' h => ⟨h.1, hS.1.below h.2 hS.1.lt, hS.2.1.below h.2 hS.2.1.lt, hS.2.2.1.below h.2 hS.2.2.1.lt, hS.2.2.2.trans (h.2.mono hS.2.2.2.size)⟩)) ?_
  simp only [Act.put, List.setIfInBounds_toArray, List.set_cons_zero, List.set_cons_succ]
  refine Seq.next (.agg (row64 4 (words (fv (lv a 32 + lv b 32))))) (Sure.call (f := 84) (args := #[(.agg (row64 4 (words (lv a 32)))), (.agg (row64 4 (words (lv b 32))))]) rfl (fun w' => by go_simp) (fun w' hS => (plus_c (lv a 32) (lv b 32) (lv_lt32 a) (lv_lt32 b) w').mono fun e w'' h => ⟨h.1, hS.1.below h.2 hS.1.lt, hS.2.1.below h.2 hS.2.1.lt, hS.2.2.1.below h.2 hS.2.2.1.lt, hS.2.2.2.trans (h.2.mono hS.2.2.2.size)⟩)) ?_
  simp only [Act.put, List.setIfInBounds_toArray, List.set_cons_zero, List.set_cons_succ]
  refine Seq.next (.agg (row 32 (byteN (fv (lv a 32 + lv b 32) % pN)))) (Sure.call (f := 73) (args := #[(.agg (row64 4 (words (fv (lv a 32 + lv b 32)))))]) rfl (fun w' => by go_simp) (fun w' hS => (bytesOf_c (fv (lv a 32 + lv b 32)) hlt w').mono fun e w'' h => ⟨h.1, hS.1.below h.2 hS.1.lt, hS.2.1.below h.2 hS.2.1.lt, hS.2.2.1.below h.2 hS.2.2.1.lt, hS.2.2.2.trans (h.2.mono hS.2.2.2.size)⟩)) ?_
  simp only [Act.put, List.setIfInBounds_toArray, List.set_cons_zero, List.set_cons_succ]
  refine Seq.store_Row rfl 23 _ _ rfl (w.heap.size + 1 + 1) rfl 23 32 (fun _ => 0) (byteN (fv (lv a 32 + lv b 32) % pN)) rfl (fun w' hS => hS.2.2.1) size32B (fun w' hS => ?_)
  have hr := hS.2.2.1.setRow (byteN (fv (lv a 32 + lv b 32) % pN))
  have hb := below_setRow8 hS.2.2.2 (k := w.heap.size + 1 + 1) (by omega) (row 32 (byteN (fv (lv a 32 + lv b 32) % pN)))
  clear hS
  revert hr hb
  generalize w'.setRow (w.heap.size + 1 + 1) (row 32 (byteN (fv (lv a 32 + lv b 32) % pN))) = w4
  intro hr hb
  simp only [Act.put]
  go_wp2
  exact ret_Row rfl rfl _ _ 32 _ _ rfl hr und32B size32B ⟨rfl, hb⟩

set_option maxHeartbeats 4000000 in
theorem sub_c (a b : Nat → UInt8) (w : World) : Calls Tryz.prog 63 #[.agg (row 32 a), .agg (row 32 b)] w fun e w' => e = .returned (.agg (row 32 (byteN (mi (lv a 32) (lv b 32) % pN)))) ∧ Below w.heap.size w w' := by
  have hlt : mi (lv a 32) (lv b 32) < 2 ^ 256 := (mi_facts _ _ (lv_lt32 a) (lv_lt32 b)).2.1
  go_enter Tryz.func63, Tryz.ntmps63
  go_upto_region 1 with (first | (refine wpList_alloc_Row rfl 23 rfl 32 z32B ?_))
  have hz := three_newF w 23 a b (fun _ => 0)
  revert hz
  generalize ((w.alloc (.cells (row 32 a) 23)).alloc (.cells (row 32 b) 23)).alloc (.cells (row 32 fun _ => 0) 23) = w1
  rintro ⟨h1, h2, h3, h4⟩
  (try simp only [Act.put, List.setIfInBounds_toArray, List.set_cons_zero, List.set_cons_succ, World.size_alloc])
  refine region_seq (fun W' => Row W' w.heap.size 23 32 a ∧ Row W' (w.heap.size + 1) 23 32 b ∧ Row W' (w.heap.size + 1 + 1) 23 32 (fun _ => 0) ∧ Below w.heap.size w W') mixedOrders (by kernel_rfl) (by simp) ⟨h1.drew, h2.drew, h3.drew, h4.drew⟩ ?_
  clear h1 h2 h3 h4
  refine Seq.next (.agg (row 32 a)) (Sure.load_Row rfl 23 _ rfl w.heap.size rfl 23 32 _ _ (fun w' hS => hS.1) und32B size32B) ?_
  simp only [Act.put, List.setIfInBounds_toArray, List.set_cons_zero, List.set_cons_succ]
  refine Seq.next (.agg (row64 4 (words (lv a 32)))) (Sure.call (f := 75) (args := #[.agg (row 32 a)]) rfl (fun w' => by go_simp) (fun w' hS => (read_c a w').mono fun e w'' h => ⟨h.1, hS.1.below h.2 hS.1.lt, hS.2.1.below h.2 hS.2.1.lt, hS.2.2.1.below h.2 hS.2.2.1.lt, hS.2.2.2.trans (h.2.mono hS.2.2.2.size)⟩)) ?_
  simp only [Act.put, List.setIfInBounds_toArray, List.set_cons_zero, List.set_cons_succ]
  refine Seq.next (.agg (row 32 b)) (Sure.load_Row rfl 23 _ rfl (w.heap.size + 1) rfl 23 32 _ _ (fun w' hS => hS.2.1) und32B size32B) ?_
  simp only [Act.put, List.setIfInBounds_toArray, List.set_cons_zero, List.set_cons_succ]
  refine Seq.next (.agg (row64 4 (words (lv b 32)))) (Sure.call (f := 75) (args := #[.agg (row 32 b)]) rfl (fun w' => by go_simp) (fun w' hS => (read_c b w').mono fun e w'' h => ⟨h.1, hS.1.below h.2 hS.1.lt, hS.2.1.below h.2 hS.2.1.lt, hS.2.2.1.below h.2 hS.2.2.1.lt, hS.2.2.2.trans (h.2.mono hS.2.2.2.size)⟩)) ?_
  simp only [Act.put, List.setIfInBounds_toArray, List.set_cons_zero, List.set_cons_succ]
  refine Seq.next (.agg (row64 4 (words (mi (lv a 32) (lv b 32))))) (Sure.call (f := 82) (args := #[(.agg (row64 4 (words (lv a 32)))), (.agg (row64 4 (words (lv b 32))))]) rfl (fun w' => by go_simp) (fun w' hS => (minus_c (lv a 32) (lv b 32) (lv_lt32 a) (lv_lt32 b) w').mono fun e w'' h => ⟨h.1, hS.1.below h.2 hS.1.lt, hS.2.1.below h.2 hS.2.1.lt, hS.2.2.1.below h.2 hS.2.2.1.lt, hS.2.2.2.trans (h.2.mono hS.2.2.2.size)⟩)) ?_
  simp only [Act.put, List.setIfInBounds_toArray, List.set_cons_zero, List.set_cons_succ]
  refine Seq.next (.agg (row 32 (byteN (mi (lv a 32) (lv b 32) % pN)))) (Sure.call (f := 73) (args := #[(.agg (row64 4 (words (mi (lv a 32) (lv b 32)))))]) rfl (fun w' => by go_simp) (fun w' hS => (bytesOf_c (mi (lv a 32) (lv b 32)) hlt w').mono fun e w'' h => ⟨h.1, hS.1.below h.2 hS.1.lt, hS.2.1.below h.2 hS.2.1.lt, hS.2.2.1.below h.2 hS.2.2.1.lt, hS.2.2.2.trans (h.2.mono hS.2.2.2.size)⟩)) ?_
  simp only [Act.put, List.setIfInBounds_toArray, List.set_cons_zero, List.set_cons_succ]
  refine Seq.store_Row rfl 23 _ _ rfl (w.heap.size + 1 + 1) rfl 23 32 (fun _ => 0) (byteN (mi (lv a 32) (lv b 32) % pN)) rfl (fun w' hS => hS.2.2.1) size32B (fun w' hS => ?_)
  have hr := hS.2.2.1.setRow (byteN (mi (lv a 32) (lv b 32) % pN))
  have hb := below_setRow8 hS.2.2.2 (k := w.heap.size + 1 + 1) (by omega) (row 32 (byteN (mi (lv a 32) (lv b 32) % pN)))
  clear hS
  revert hr hb
  generalize w'.setRow (w.heap.size + 1 + 1) (row 32 (byteN (mi (lv a 32) (lv b 32) % pN))) = w4
  intro hr hb
  simp only [Act.put]
  go_wp2
  exact ret_Row rfl rfl _ _ 32 _ _ rfl hr und32B size32B ⟨rfl, hb⟩

set_option maxHeartbeats 4000000 in
theorem mul_c (a b : Nat → UInt8) (w : World) : Calls Tryz.prog 54 #[.agg (row 32 a), .agg (row 32 b)] w fun e w' => e = .returned (.agg (row 32 (byteN (tm (lv a 32) (lv b 32) % pN)))) ∧ Below w.heap.size w w' := by
  have hlt : tm (lv a 32) (lv b 32) < 2 ^ 256 := tm_lt (lv_lt32 a) (lv_lt32 b)
  go_enter Tryz.func54, Tryz.ntmps54
  go_upto_region 1 with (first | (refine wpList_alloc_Row rfl 23 rfl 32 z32B ?_))
  have hz := three_newF w 23 a b (fun _ => 0)
  revert hz
  generalize ((w.alloc (.cells (row 32 a) 23)).alloc (.cells (row 32 b) 23)).alloc (.cells (row 32 fun _ => 0) 23) = w1
  rintro ⟨h1, h2, h3, h4⟩
  (try simp only [Act.put, List.setIfInBounds_toArray, List.set_cons_zero, List.set_cons_succ, World.size_alloc])
  refine region_seq (fun W' => Row W' w.heap.size 23 32 a ∧ Row W' (w.heap.size + 1) 23 32 b ∧ Row W' (w.heap.size + 1 + 1) 23 32 (fun _ => 0) ∧ Below w.heap.size w W') mixedOrders (by kernel_rfl) (by simp) ⟨h1.drew, h2.drew, h3.drew, h4.drew⟩ ?_
  clear h1 h2 h3 h4
  refine Seq.next (.agg (row 32 a)) (Sure.load_Row rfl 23 _ rfl w.heap.size rfl 23 32 _ _ (fun w' hS => hS.1) und32B size32B) ?_
  simp only [Act.put, List.setIfInBounds_toArray, List.set_cons_zero, List.set_cons_succ]
  refine Seq.next (.agg (row64 4 (words (lv a 32)))) (Sure.call (f := 75) (args := #[.agg (row 32 a)]) rfl (fun w' => by go_simp) (fun w' hS => (read_c a w').mono fun e w'' h => ⟨h.1, hS.1.below h.2 hS.1.lt, hS.2.1.below h.2 hS.2.1.lt, hS.2.2.1.below h.2 hS.2.2.1.lt, hS.2.2.2.trans (h.2.mono hS.2.2.2.size)⟩)) ?_
  simp only [Act.put, List.setIfInBounds_toArray, List.set_cons_zero, List.set_cons_succ]
  refine Seq.next (.agg (row 32 b)) (Sure.load_Row rfl 23 _ rfl (w.heap.size + 1) rfl 23 32 _ _ (fun w' hS => hS.2.1) und32B size32B) ?_
  simp only [Act.put, List.setIfInBounds_toArray, List.set_cons_zero, List.set_cons_succ]
  refine Seq.next (.agg (row64 4 (words (lv b 32)))) (Sure.call (f := 75) (args := #[.agg (row 32 b)]) rfl (fun w' => by go_simp) (fun w' hS => (read_c b w').mono fun e w'' h => ⟨h.1, hS.1.below h.2 hS.1.lt, hS.2.1.below h.2 hS.2.1.lt, hS.2.2.1.below h.2 hS.2.2.1.lt, hS.2.2.2.trans (h.2.mono hS.2.2.2.size)⟩)) ?_
  simp only [Act.put, List.setIfInBounds_toArray, List.set_cons_zero, List.set_cons_succ]
  refine Seq.next (.agg (row64 4 (words (tm (lv a 32) (lv b 32))))) (Sure.call (f := 74) (args := #[(.agg (row64 4 (words (lv a 32)))), (.agg (row64 4 (words (lv b 32))))]) rfl (fun w' => by go_simp) (fun w' hS => (times_c (lv a 32) (lv b 32) (lv_lt32 a) (lv_lt32 b) w').mono fun e w'' h => ⟨h.1, hS.1.below h.2 hS.1.lt, hS.2.1.below h.2 hS.2.1.lt, hS.2.2.1.below h.2 hS.2.2.1.lt, hS.2.2.2.trans (h.2.mono hS.2.2.2.size)⟩)) ?_
  simp only [Act.put, List.setIfInBounds_toArray, List.set_cons_zero, List.set_cons_succ]
  refine Seq.next (.agg (row 32 (byteN (tm (lv a 32) (lv b 32) % pN)))) (Sure.call (f := 73) (args := #[(.agg (row64 4 (words (tm (lv a 32) (lv b 32)))))]) rfl (fun w' => by go_simp) (fun w' hS => (bytesOf_c (tm (lv a 32) (lv b 32)) hlt w').mono fun e w'' h => ⟨h.1, hS.1.below h.2 hS.1.lt, hS.2.1.below h.2 hS.2.1.lt, hS.2.2.1.below h.2 hS.2.2.1.lt, hS.2.2.2.trans (h.2.mono hS.2.2.2.size)⟩)) ?_
  simp only [Act.put, List.setIfInBounds_toArray, List.set_cons_zero, List.set_cons_succ]
  refine Seq.store_Row rfl 23 _ _ rfl (w.heap.size + 1 + 1) rfl 23 32 (fun _ => 0) (byteN (tm (lv a 32) (lv b 32) % pN)) rfl (fun w' hS => hS.2.2.1) size32B (fun w' hS => ?_)
  have hr := hS.2.2.1.setRow (byteN (tm (lv a 32) (lv b 32) % pN))
  have hb := below_setRow8 hS.2.2.2 (k := w.heap.size + 1 + 1) (by omega) (row 32 (byteN (tm (lv a 32) (lv b 32) % pN)))
  clear hS
  revert hr hb
  generalize w'.setRow (w.heap.size + 1 + 1) (row 32 (byteN (tm (lv a 32) (lv b 32) % pN))) = w4
  intro hr hb
  simp only [Act.put]
  go_wp2
  exact ret_Row rfl rfl _ _ 32 _ _ rfl hr und32B size32B ⟨rfl, hb⟩
end Go.Proofs.YtbbegnfopdihaaaGreatDoor

namespace Go.Proofs.YtbbegnfopdihaaaGreatDoor
open Go Go.RowKit
set_option maxRecDepth 100000

/-- The canonical bytes of a number modulo p; the number that 32 bytes are. -/
def bF (x : Fin pF) : Nat → UInt8 := byteN x.val
def nF (b : Nat → UInt8) : Fin pF := toF (lv b 32)
theorem bF_toF (v : Nat) : bF (toF v) = byteN (v % pN) := rfl
/-- Sum, difference, product, inverse of 32 bytes. -/
def fA (a b : Nat → UInt8) : Nat → UInt8 := bF (nF a + nF b)
def fS (a b : Nat → UInt8) : Nat → UInt8 := bF (nF a - nF b)
def fM (a b : Nat → UInt8) : Nat → UInt8 := bF (nF a * nF b)
def fI (a : Nat → UInt8) : Nat → UInt8 := bF (ivF (nF a))
theorem fA_c (a b : Nat → UInt8) : Pure Tryz.prog 70 #[(cArr 32).val a, (cArr 32).val b] (fun _ => True) ((cArr 32).val (fA a b)) := fun w _ => by
  have h := add_c a b w
  rw [← bF_toF, toF_fv, toF_add] at h
  exact h
theorem fS_c (a b : Nat → UInt8) : Pure Tryz.prog 63 #[(cArr 32).val a, (cArr 32).val b] (fun _ => True) ((cArr 32).val (fS a b)) := fun w _ => by
  have h := sub_c a b w
  rw [← bF_toF, toF_mi _ _ (lv_lt32 a) (lv_lt32 b)] at h
  exact h
theorem fM_c (a b : Nat → UInt8) : Pure Tryz.prog 54 #[(cArr 32).val a, (cArr 32).val b] (fun _ => True) ((cArr 32).val (fM a b)) := fun w _ => by
  have h := mul_c a b w
  rw [← bF_toF, toF_tm] at h
  exact h
theorem fI_c (a : Nat → UInt8) : Pure Tryz.prog 55 #[(cArr 32).val a] (fun _ => True) ((cArr 32).val (fI a)) := fun w _ => by
  have h := inv_c a w
  rw [← bF_toF, toF_iv] at h
  exact h
/-! ### A pair, a place, a step -/
abbrev Bt := Nat → UInt8
abbrev cPr : Cod (Bt × Bt) := cPair (cArr 32) (cArr 32)
abbrev cPl : Cod (Bt × Bt × Bt × Bt) := cPair (cArr 32) (cPair (cArr 32) (cPair (cArr 32) (cArr 32)))
abbrev cSt : Cod (Bt × Bt × Bt) := cPair (cArr 32) (cPair (cArr 32) (cArr 32))
def oneB : Bt := fun i => if i = 0 then 1 else 0
def dB : Bt := fun i => [163, 120, 89, 19, 202, 77, 235, 117, 171, 216, 65, 65, 77, 10, 112, 0, 152, 232, 121, 119, 121, 64, 199, 140, 115, 254, 111, 43, 238, 108, 3, 82].getD i 0
def plOf (a : Bt × Bt) : Bt × Bt × Bt × Bt := (a.1, a.2, oneB, fM a.1 a.2)
def stOf (a : Bt × Bt) : Bt × Bt × Bt := (fS a.2 a.1, fA a.2 a.1, fA (fM dB (fM a.1 a.2)) (fM dB (fM a.1 a.2)))
def plAt (e f g h : Bt) : Bt × Bt × Bt × Bt := (fM e f, fM g h, fM f g, fM e h)
def ptA (a : Bt × Bt × Bt × Bt) (b : Bt × Bt × Bt) : Bt × Bt × Bt × Bt :=
  plAt (fS (fM (fA a.2.1 a.1) b.2.1) (fM (fS a.2.1 a.1) b.1)) (fS (fA a.2.2.1 a.2.2.1) (fM a.2.2.2 b.2.2)) (fA (fA a.2.2.1 a.2.2.1) (fM a.2.2.2 b.2.2)) (fA (fM (fA a.2.1 a.1) b.2.1) (fM (fS a.2.1 a.1) b.1))
def ptD (a : Bt × Bt × Bt × Bt) : Bt × Bt × Bt × Bt :=
  plAt (fS (fA (fM a.1 a.1) (fM a.2.1 a.2.1)) (fM (fA a.1 a.2.1) (fA a.1 a.2.1))) (fA (fA (fM a.2.2.1 a.2.2.1) (fM a.2.2.1 a.2.2.1)) (fS (fM a.1 a.1) (fM a.2.1 a.2.1))) (fS (fM a.1 a.1) (fM a.2.1 a.2.1)) (fA (fM a.1 a.1) (fM a.2.1 a.2.1))
end Go.Proofs.YtbbegnfopdihaaaGreatDoor
