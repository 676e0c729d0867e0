/- The program's row: a word by four words, and a number beside (mkfrow.py writes this text). -/
import Derived.Test.YtchojbhmfjibmaaFSum
import Derived.Test.YtchojbhmfjibmaaNmD
namespace Go.Proofs.Ytchojbhmfjibmaa
open Go Go.RowKit
set_option maxRecDepth 100000

theorem ret_tmp_W4 {P : Program} {w : World} {fn : Func} {R : Ending → World → Prop} {a : Act} {p t3 : Tmp} {ty : TypeId} (h : fn.results = #[.tmp t3, .cell p ty]) (hd : a.defers = []) (g : Nat) (t : TypeId) (cs : Array Value) (u : Value)
    (hp : a.tmps.getD p undef = .pointer (some ⟨g, 0, none⟩)) (hu3 : a.tmps.getD t3 undef = u) (hg : Blk w g t cs) (hdd : (P.underlying ty).map (·.isRow) = some true) (hi : (P.info? ty).map (·.size) = some cs.size)
    (hR : R (.returned (.tuple #[u, .agg cs])) w) : bodyPost P fn R .ret a w := by
  obtain ⟨d, hu, hdr⟩ := isRow_desc hdd
  have hl := run_loadVar_row w g t ty cs (0, 0) d hg hu (by cases d <;> first | rfl | cases hdr) hi
  have hp' : a.tmps[p]?.getD undef = .pointer (some ⟨g, 0, none⟩) := by simpa using hp
  have hu' : a.tmps[t3]?.getD undef = u := by simpa using hu3
  exact bodyPost_ret (v := .tuple #[u, .agg cs]) (by simp [results, h, hp', hu', asAddr, hl]) hd hR
theorem fourNb (L : Nat) : (#[Value.int IntKind.u64 (wd L 1 : Int), Value.int IntKind.u64 (wd L 2 : Int), Value.int IntKind.u64 (wd L 3 : Int), Value.int IntKind.u64 (wd L 4 : Int)] : Array Value) = row64 4 (words (L / 18446744073709551616)) := by
  show _ = #[by64 (words (L / 18446744073709551616) 0), by64 (words (L / 18446744073709551616) 1), by64 (words (L / 18446744073709551616) 2), by64 (words (L / 18446744073709551616) 3)]
  unfold by64
  rw [words_int, words_int, words_int, words_int, wd_shift, wd_shift, wd_shift, wd_shift]

set_option maxHeartbeats 8000000 in
theorem row_c (S x b : Nat) (hS : S < 2 ^ 256) (hx : x < 18446744073709551616) (hbb : b < 2 ^ 256) (w : World) : Calls Try.prog 54 #[.agg (row64 4 (words S)), .int .u64 (x : Int), .agg (row64 4 (words b))] w fun e w' =>
    e = .returned (.tuple #[.int .u64 (wd (x * b + S) 0 : Int), .agg (row64 4 (words ((x * b + S) / 18446744073709551616)))]) ∧ Below w.heap.size w w' := by
  obtain ⟨a0, a1, a2, a3, _⟩ := lowP_wd x b
  obtain ⟨u0, u1, u2, u3, _⟩ := highP_wd x b
  obtain ⟨k1, k2, k3⟩ := row_top1 x b hx hbb
  have k4 := row_top2 x b S hx hbb hS
  have hm := lowhigh x b hx hbb
  have m0 := fun W => mul64_w x (wd b 0) hx (wd_lt b 0) W
  have m1 := fun W => mul64_w x (wd b 1) hx (wd_lt b 1) W
  have m2 := fun W => mul64_w x (wd b 2) hx (wd_lt b 2) W
  have m3 := fun W => mul64_w x (wd b 3) hx (wd_lt b 3) W
  rw [← a0, ← u1] at m0
  rw [← a1, ← u2] at m1
  rw [← a2, ← u3] at m2
  rw [← a3] at m3
  have s1 := add64_w (lowP x b) (highP x b) 1
  have s2 := add64_w (lowP x b) (highP x b) 2
  have s3 := add64_w (lowP x b) (highP x b) 3
  rw [k1] at s1
  rw [hm] at s1 s2 s3
  have s4 := add64_w0 (x * b) S
  have s5 := add64_w (x * b) S 1
  have s6 := add64_w (x * b) S 2
  have s7 := add64_w (x * b) S 3
  have q4 := wd_lt (x * b) 4
  have q5 := wd_lt (x * b + S) 4
  have hf := fourNb (x * b + S)
  rw [← k3] at m0
  clear a0 a1 a2 a3 u0 u1 u2 u3 k1 k3 hm
  generalize cry (lowP x b) (highP x b) (1 + 1) = c2 at *
  generalize cry (lowP x b) (highP x b) (2 + 1) = c3 at *
  generalize cry (lowP x b) (highP x b) (3 + 1) = c4 at *
  rw [show ((0 : Nat) : Int) = 0 from rfl] at s1
  have e9 : IntKind.u64.wrap ((wd (x * wd b 3) 1 : Int) + (c4 : Int)) = (wd (x * b) 4 : Int) := by rw [IntKind.wrap_u64]; omega
  have e13 : IntKind.u64.wrap ((wd (x * b) 4 : Int) + (cry (x * b) S 4 : Int)) = (wd (x * b + S) 4 : Int) := by
    rw [IntKind.wrap_u64]
    generalize cry (x * b) S 4 = z at *
    generalize wd (x * b) 4 = z1 at *
    generalize wd (x * b + S) 4 = z2 at *
    omega
  clear k2 k4 q4 q5
  generalize wd (x * wd b 3) 1 = h3 at *
  generalize hV : x * b + S = V at *
  generalize x * b = M at *
  generalize lowP x b = A at *
  generalize highP x b = B at *
  clear hV
  go_enter Try.func54, Try.ntmps54
  go_upto_region 1 with (fail)
  rw [zeroNb]
  have hall := three_newN w 59 (words S) (words b) (fun _ => 0)
  revert hall
  generalize ((w.alloc (.cells (row64 4 (words S)) 59)).alloc (.cells (row64 4 (words b)) 59)).alloc (.cells (row64 4 fun _ => 0) 59) = w1
  rintro ⟨h1, h2, hz, hb⟩
  have c0 := h1.cellW 0 (by omega)
  have c1 := h1.cellW 1 (by omega)
  have c2 := h1.cellW 2 (by omega)
  have c3 := h1.cellW 3 (by omega)
  have p0 := h2.cellW 0 (by omega)
  have p1 := h2.cellW 1 (by omega)
  have p2 := h2.cellW 2 (by omega)
  have p3 := h2.cellW 3 (by omega)
  go_upto_region 2 with (go_at_call 39; refine (m0 _).mono ?_; rintro e w5 ⟨rfl, rfl⟩)
  go_upto_region 3 with (go_at_call 39; refine (m1 _).mono ?_; rintro e w5 ⟨rfl, rfl⟩)
  go_upto_region 4 with (go_at_call 39; refine (m2 _).mono ?_; rintro e w5 ⟨rfl, rfl⟩)
  go_upto_region 5 with (go_at_call 39; refine (m3 _).mono ?_; rintro e w5 ⟨rfl, rfl⟩)
  go_upto_region 14 with (first | simp only [s1] | simp only [s2] | simp only [s3] | simp only [s4] | simp only [s5] | simp only [s6] | simp only [s7])
  go_wp2_with (refine wpList_store_Row64 rfl 59 _ _ rfl (w.heap.size + 1 + 1) rfl 59 4 _ _ rfl hz sizeNb ?_)
  exact ret_tmp_W4 rfl rfl (w.heap.size + 1 + 1) 59 _ (.int .u64 (wd V 0 : Int)) rfl rfl (hz.setRow _) isRowNb (sizeNbR _) ⟨rfl, below_setRow8 hb (by omega) _⟩
end Go.Proofs.Ytchojbhmfjibmaa
