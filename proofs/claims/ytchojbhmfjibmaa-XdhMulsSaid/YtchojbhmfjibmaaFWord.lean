/- The program's numbers: a word added or taken away, what is over folded, sums. -/
import Derived.Test.YtchojbhmfjibmaaRPlus
import Derived.Test.YtchojbhmfjibmaaNmB
import Derived.Test.YtchojbhmfjibmaaBes
namespace Go.Proofs.Ytchojbhmfjibmaa
open Go Go.RowKit
set_option maxRecDepth 100000

theorem isRowNb : (Try.prog.underlying 59).map (·.isRow) = some true := by kernel_rfl
theorem sizeNb : (Try.prog.info? 59).map (·.size) = some 4 := by kernel_rfl
theorem sizeNbR (f : Nat → UInt64) : (Try.prog.info? 59).map (·.size) = some (row64 4 f).size := by rw [sizeNb, row64_size]

section
variable {P : Program} {w : World}
/-- Structs of four words as results: alone, or with a word behind. -/
theorem ret_W4 {fn : Func} {R : Ending → World → Prop} {a : Act} {p : Tmp} {ty : TypeId} (h : fn.results = #[.cell p ty]) (hd : a.defers = []) (g : Nat) (t : TypeId) (cs : Array Value)
    (hp : a.tmps.getD p undef = .pointer (some ⟨g, 0, none⟩)) (hg : Blk w g t cs) (hdd : (P.underlying ty).map (·.isRow) = some true) (hi : (P.info? ty).map (·.size) = some cs.size)
    (hR : R (.returned (.agg cs)) w) : bodyPost P fn R .ret a w := by
  obtain ⟨d, hu, hdr⟩ := isRow_desc hdd
  exact bodyPost_ret (results_cell_row h _ _ g t cs (0, 0) d hp hg hu (by cases d <;> first | rfl | cases hdr) hi) hd hR
theorem ret_W4_tmp {fn : Func} {R : Ending → World → Prop} {a : Act} {p t3 : Tmp} {ty : TypeId} (h : fn.results = #[.cell p ty, .tmp t3]) (hd : a.defers = []) (g : Nat) (t : TypeId) (cs : Array Value) (u : Value)
    (hp : a.tmps.getD p undef = .pointer (some ⟨g, 0, none⟩)) (hu3 : a.tmps.getD t3 undef = u) (hg : Blk w g t cs) (hdd : (P.underlying ty).map (·.isRow) = some true) (hi : (P.info? ty).map (·.size) = some cs.size)
    (hR : R (.returned (.tuple #[.agg cs, u])) w) : bodyPost P fn R .ret a w := by
  obtain ⟨d, hu, hdr⟩ := isRow_desc hdd
  have hl := run_loadVar_row w g t ty cs (0, 0) d hg hu (by cases d <;> first | rfl | cases hdr) hi
  have hp' : a.tmps[p]?.getD undef = .pointer (some ⟨g, 0, none⟩) := by simpa using hp
  have hu' : a.tmps[t3]?.getD undef = u := by simpa using hu3
  exact bodyPost_ret (v := .tuple #[.agg cs, u]) (by simp [results, h, hp', hu', asAddr, hl]) hd hR
end
theorem zeroNb : (#[Value.int IntKind.u64 0, Value.int IntKind.u64 0, Value.int IntKind.u64 0, Value.int IntKind.u64 0] : Array Value) = row64 4 (fun _ => 0) := by rfl

/-- The first word: the other one is no more than a word. -/
theorem wd_zero {k : Nat} (h : k < 18446744073709551616) : wd k 0 = k := by unfold wd; omega
theorem wd_more {k : Nat} (h : k < 18446744073709551616) (m : Nat) (hm : 0 < m) : wd k m = 0 := by
  refine wd_small (Nat.lt_of_lt_of_le h ?_)
  rw [show (18446744073709551616 : Nat) = 2 ^ 64 from rfl]
  exact Nat.pow_le_pow_right (by omega) (by omega)
theorem add64_wp (n k : Nat) (hk : k < 18446744073709551616) (w : World) : (callFunc 35 #[.int .u64 (wd n 0 : Int), .int .u64 (k : Int), .int .u64 0]).run Try.prog w =
    .ok (.value (.tuple #[.int .u64 (wd (n + k) 0 : Int), .int .u64 (cry n k 1 : Int)])) w := by
  have := add64_w0 (n) (k) w
  rw [wd_zero hk] at this
  exact this
/-- Four cells set, one behind the other. -/
theorem Row64.set4 {w : World} {g : Nat} {t : TypeId} {f : Nat → UInt64} (h : Row64 w g t 4 f) (v : Nat) :
    Row64 ((((w.setCell ⟨g, 0, none⟩ (.int .u64 (wd v 0 : Int))).setCell ⟨g, 1, none⟩ (.int .u64 (wd v 1 : Int))).setCell ⟨g, 2, none⟩ (.int .u64 (wd v 2 : Int))).setCell ⟨g, 3, none⟩ (.int .u64 (wd v 3 : Int))) g t 4 (words (v % 2 ^ 256)) := by
  refine ((((h.setW 0 v 0).setW 1 v 1).setW 2 v 2).setW 3 v 3).congr fun i hi => ?_
  rw [show (2 : Nat) ^ 256 = 2 ^ (64 * 4) from rfl, words_mod _ 4 i hi]
  have : i = 0 ∨ i = 1 ∨ i = 2 ∨ i = 3 := by omega
  rcases this with rfl | rfl | rfl | rfl <;> rfl

set_option maxHeartbeats 4000000 in
theorem plusWord_c (n k : Nat) (hn : n < 2 ^ 256) (hk : k < 18446744073709551616) (w : World) : Calls Try.prog 60 #[.agg (row64 4 (words n)), .int .u64 (k : Int)] w fun e w' =>
    e = .returned (.tuple #[.agg (row64 4 (words ((n + k) % 2 ^ 256))), .int .u64 (((n + k) / 2 ^ 256 : Nat) : Int)]) ∧ Below w.heap.size w w' := by
  go_enter Try.func60, Try.ntmps60
  go_upto_region 2 with (fail)
  rw [zeroNb]
  have h1 := (Row64.new w 59 4 (words n)).alloc (.cells (row64 4 fun _ => 0) 59)
  have h2 := Row64.new (w.alloc (.cells (row64 4 (words n)) 59)) 59 4 fun _ => 0
  have hb : Below w.heap.size w ((w.alloc (.cells (row64 4 (words n)) 59)).alloc (.cells (row64 4 fun _ => 0) 59)) := ((Below.refl _ _).alloc (Nat.le_refl _) _).alloc (by simp) _
  simp only [World.size_alloc] at h2
  have hall := And.intro h1 (And.intro h2 hb)
  clear h1 h2 hb
  revert hall
  generalize (w.alloc (.cells (row64 4 (words n)) 59)).alloc (.cells (row64 4 fun _ => 0) 59) = w1
  rintro ⟨h1, h2, hb⟩
  have c0 := h1.cellW 0 (by omega)
  have c1 := h1.cellW 1 (by omega)
  have c2 := h1.cellW 2 (by omega)
  have c3 := h1.cellW 3 (by omega)
  have d0 := h1.frozen 0
  have d1 := h1.frozen 1
  have d2 := h1.frozen 2
  have d3 := h1.frozen 3
  have z1 := wd_more hk 1 (by omega)
  have z2 := wd_more hk 2 (by omega)
  have z3 := wd_more hk 3 (by omega)
  have hcr : cry n k 4 = (n + k) / 2 ^ 256 := cry_top n k 4 hn (by omega)
  have hs := h1.set4 (n + k)
  have HC := Lib.hid hcr
  clear hcr
  go_upto_region 6 with (first | simp only [add64_wp n k hk] | simp only [add64_wz n k 1 z1] | simp only [add64_wz n k 2 z2] | simp only [add64_wz n k 3 z3])
  have h2' := ((((h2.far (p := ⟨w.heap.size, 0, none⟩) (by first | (simp; done) | (simp; omega)) (.int .u64 (wd (n + k) 0 : Int))).far (p := ⟨w.heap.size, 1, none⟩) (by first | (simp; done) | (simp; omega)) (.int .u64 (wd (n + k) 1 : Int))).far (p := ⟨w.heap.size, 2, none⟩) (by first | (simp; done) | (simp; omega)) (.int .u64 (wd (n + k) 2 : Int))).far (p := ⟨w.heap.size, 3, none⟩) (by first | (simp; done) | (simp; omega)) (.int .u64 (wd (n + k) 3 : Int)))
  have hb' := ((((hb.setCell (p := ⟨w.heap.size, 0, none⟩) (by simp) (.int .u64 (wd (n + k) 0 : Int))).setCell (p := ⟨w.heap.size, 1, none⟩) (by simp) (.int .u64 (wd (n + k) 1 : Int))).setCell (p := ⟨w.heap.size, 2, none⟩) (by simp) (.int .u64 (wd (n + k) 2 : Int))).setCell (p := ⟨w.heap.size, 3, none⟩) (by simp) (.int .u64 (wd (n + k) 3 : Int)))
  clear h1 h2 hb c0 c1 c2 c3 d0 d1 d2 d3
  revert hs h2' hb'
  generalize ((((w1).setCell ⟨w.heap.size, 0, none⟩ (.int .u64 (wd (n + k) 0 : Int))).setCell ⟨w.heap.size, 1, none⟩ (.int .u64 (wd (n + k) 1 : Int))).setCell ⟨w.heap.size, 2, none⟩ (.int .u64 (wd (n + k) 2 : Int))).setCell ⟨w.heap.size, 3, none⟩ (.int .u64 (wd (n + k) 3 : Int)) = w2
  intro h1 h2 hb
  go_wp2_with (first | (refine wpList_load_Blk rfl 59 _ rfl w.heap.size rfl 59 _ h1 isRowNb (sizeNbR _) ?_) | (refine wpList_store_Row64 rfl 59 _ _ rfl (w.heap.size + 1) rfl 59 4 _ _ rfl h2 sizeNb ?_))
  exact ret_W4_tmp rfl rfl (w.heap.size + 1) 59 _ (.int .u64 (cry n k 4 : Int)) rfl rfl (h2.setRow _) isRowNb (sizeNbR _) ⟨by rw [HC.out], below_setRow8 hb (by omega) _⟩

/-- Words of a difference, also where it borrows beyond the top. -/
theorem brw_up (a b m : Nat) (hm : m ≤ 4) : brw (a + 2 ^ 256) b m = brw a b m := by
  unfold brw
  have e : (a + 2 ^ 256) % 2 ^ (64 * m) = a % 2 ^ (64 * m) := by
    have : (2 : Nat) ^ 256 = 2 ^ (64 * m) * 2 ^ (256 - 64 * m) := by rw [← Nat.pow_add]; congr 1; omega
    rw [this, Nat.add_mul_mod_self_left]
  rw [e]
theorem wd_up256 (a m : Nat) (hm : m < 4) : wd (a + 2 ^ 256) m = wd a m := by
  unfold wd
  have e : (2 : Nat) ^ 256 = 2 ^ (64 * m) * (18446744073709551616 * 2 ^ (192 - 64 * m)) := by
    rw [show (18446744073709551616 : Nat) = 2 ^ 64 from rfl, ← Nat.pow_add, ← Nat.pow_add]; congr 1; omega
  rw [e, Nat.add_mul_div_left _ _ (pow64_pos m), Nat.add_mul_mod_self_left]
theorem sub64_g (a b m : Nat) (hb : b ≤ 2 ^ 256) (hm : m < 4) (w : World) : (callFunc 49 #[.int .u64 (wd a m : Int), .int .u64 (wd b m : Int), .int .u64 (brw a b m : Int)]).run Try.prog w =
    .ok (.value (.tuple #[.int .u64 (wd (a + 2 ^ 256 - b) m : Int), .int .u64 (brw a b (m + 1) : Int)])) w := by
  have h := sub64_w (a + 2 ^ 256) b m (by omega) w
  rw [brw_up a b m (by omega), brw_up a b (m + 1) (by omega), wd_up256 a m hm] at h
  exact h
theorem sub64_g0 (a b : Nat) (hb : b ≤ 2 ^ 256) (w : World) : (callFunc 49 #[.int .u64 (wd a 0 : Int), .int .u64 (wd b 0 : Int), .int .u64 0]).run Try.prog w =
    .ok (.value (.tuple #[.int .u64 (wd (a + 2 ^ 256 - b) 0 : Int), .int .u64 (brw a b 1 : Int)])) w := by
  have h := sub64_g a b 0 hb (by omega) w
  rw [brw_zero] at h
  exact h
theorem sub64_gp (n k : Nat) (hk : k < 18446744073709551616) (w : World) : (callFunc 49 #[.int .u64 (wd n 0 : Int), .int .u64 (k : Int), .int .u64 0]).run Try.prog w =
    .ok (.value (.tuple #[.int .u64 (wd (n + 2 ^ 256 - k) 0 : Int), .int .u64 (brw n k 1 : Int)])) w := by
  have h := sub64_g0 n k (by omega) w
  rw [wd_zero hk] at h
  exact h
theorem sub64_gz (n k m : Nat) (hk : k < 18446744073709551616) (hz : wd k m = 0) (hm : m < 4) (w : World) : (callFunc 49 #[.int .u64 (wd n m : Int), .int .u64 0, .int .u64 (brw n k m : Int)]).run Try.prog w =
    .ok (.value (.tuple #[.int .u64 (wd (n + 2 ^ 256 - k) m : Int), .int .u64 (brw n k (m + 1) : Int)])) w := by
  have h := sub64_g n k m (by omega) hm w
  rw [hz] at h
  exact h
theorem brw_top (a b : Nat) (ha : a < 2 ^ 256) (hb : b < 2 ^ 256) : brw a b 4 = if a < b then 1 else 0 := by
  unfold brw
  rw [Nat.mod_eq_of_lt (show a < 2 ^ (64 * 4) from ha), Nat.mod_eq_of_lt (show b < 2 ^ (64 * 4) from hb)]

set_option maxHeartbeats 4000000 in
theorem lessWord_c (n k : Nat) (hk : k < 18446744073709551616) (w : World) : Calls Try.prog 59 #[.agg (row64 4 (words n)), .int .u64 (k : Int)] w fun e w' =>
    e = .returned (.tuple #[.agg (row64 4 (words ((n + 2 ^ 256 - k) % 2 ^ 256))), .int .u64 ((brw n k 4 : Nat) : Int)]) ∧ Below w.heap.size w w' := by
  go_enter Try.func59, Try.ntmps59
  go_upto_region 2 with (fail)
  rw [zeroNb]
  have h1 := (Row64.new w 59 4 (words n)).alloc (.cells (row64 4 fun _ => 0) 59)
  have h2 := Row64.new (w.alloc (.cells (row64 4 (words n)) 59)) 59 4 fun _ => 0
  have hb : Below w.heap.size w ((w.alloc (.cells (row64 4 (words n)) 59)).alloc (.cells (row64 4 fun _ => 0) 59)) := ((Below.refl _ _).alloc (Nat.le_refl _) _).alloc (by simp) _
  simp only [World.size_alloc] at h2
  have hall := And.intro h1 (And.intro h2 hb)
  clear h1 h2 hb
  revert hall
  generalize (w.alloc (.cells (row64 4 (words n)) 59)).alloc (.cells (row64 4 fun _ => 0) 59) = w1
  rintro ⟨h1, h2, hb⟩
  have c0 := h1.cellW 0 (by omega)
  have c1 := h1.cellW 1 (by omega)
  have c2 := h1.cellW 2 (by omega)
  have c3 := h1.cellW 3 (by omega)
  have d0 := h1.frozen 0
  have d1 := h1.frozen 1
  have d2 := h1.frozen 2
  have d3 := h1.frozen 3
  have z1 := wd_more hk 1 (by omega)
  have z2 := wd_more hk 2 (by omega)
  have z3 := wd_more hk 3 (by omega)
  have hcr : brw n k 4 = brw n k 4 := rfl
  have hs := h1.set4 (n + 2 ^ 256 - k)
  have HC := Lib.hid hcr
  clear hcr
  go_upto_region 6 with (first | simp only [sub64_gp n k hk] | simp only [sub64_gz n k 1 hk z1 (by omega)] | simp only [sub64_gz n k 2 hk z2 (by omega)] | simp only [sub64_gz n k 3 hk z3 (by omega)])
  have h2' := ((((h2.far (p := ⟨w.heap.size, 0, none⟩) (by first | (simp; done) | (simp; omega)) (.int .u64 (wd (n + 2 ^ 256 - k) 0 : Int))).far (p := ⟨w.heap.size, 1, none⟩) (by first | (simp; done) | (simp; omega)) (.int .u64 (wd (n + 2 ^ 256 - k) 1 : Int))).far (p := ⟨w.heap.size, 2, none⟩) (by first | (simp; done) | (simp; omega)) (.int .u64 (wd (n + 2 ^ 256 - k) 2 : Int))).far (p := ⟨w.heap.size, 3, none⟩) (by first | (simp; done) | (simp; omega)) (.int .u64 (wd (n + 2 ^ 256 - k) 3 : Int)))
  have hb' := ((((hb.setCell (p := ⟨w.heap.size, 0, none⟩) (by simp) (.int .u64 (wd (n + 2 ^ 256 - k) 0 : Int))).setCell (p := ⟨w.heap.size, 1, none⟩) (by simp) (.int .u64 (wd (n + 2 ^ 256 - k) 1 : Int))).setCell (p := ⟨w.heap.size, 2, none⟩) (by simp) (.int .u64 (wd (n + 2 ^ 256 - k) 2 : Int))).setCell (p := ⟨w.heap.size, 3, none⟩) (by simp) (.int .u64 (wd (n + 2 ^ 256 - k) 3 : Int)))
  clear h1 h2 hb c0 c1 c2 c3 d0 d1 d2 d3
  revert hs h2' hb'
  generalize ((((w1).setCell ⟨w.heap.size, 0, none⟩ (.int .u64 (wd (n + 2 ^ 256 - k) 0 : Int))).setCell ⟨w.heap.size, 1, none⟩ (.int .u64 (wd (n + 2 ^ 256 - k) 1 : Int))).setCell ⟨w.heap.size, 2, none⟩ (.int .u64 (wd (n + 2 ^ 256 - k) 2 : Int))).setCell ⟨w.heap.size, 3, none⟩ (.int .u64 (wd (n + 2 ^ 256 - k) 3 : Int)) = w2
  intro h1 h2 hb
  go_wp2_with (first | (refine wpList_load_Blk rfl 59 _ rfl w.heap.size rfl 59 _ h1 isRowNb (sizeNbR _) ?_) | (refine wpList_store_Row64 rfl 59 _ _ rfl (w.heap.size + 1) rfl 59 4 _ _ rfl h2 sizeNb ?_))
  exact ret_W4_tmp rfl rfl (w.heap.size + 1) 59 _ (.int .u64 (brw n k 4 : Int)) rfl rfl (h2.setRow _) isRowNb (sizeNbR _) ⟨rfl, below_setRow8 hb (by omega) _⟩

end Go.Proofs.Ytchojbhmfjibmaa
