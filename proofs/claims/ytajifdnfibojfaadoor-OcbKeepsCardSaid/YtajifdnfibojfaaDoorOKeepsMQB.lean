/- goTo: an offset on its way. begin: the key's masks, where key and nonce are such. A region that draws its order and makes one variable: walked in the order of its text; where the variable comes to lie is left open. Plain theorems, over any program. Structs made and laid; a variable made in a region that draws its order. Plain theorems, over any program. ocb's HASH of associated bytes. -/
import Derived.Test.YtajifdnfibojfaaDoorOKeepsMQA
import Derived.Test.YtajifdnfibojfaaDoorRegIn
import Derived.Test.YtajifdnfibojfaaDoorSum
namespace Go.Proofs.YtajifdnfibojfaaDoor
open Go Go.RowKit
set_option maxRecDepth 100000

/-- An offset on its way as cells: the masks, the offset, the blocks. -/
def wkRow (K : Value) (st dl of : Nat → UInt8) (bl : Nat) : Array Value := mkRow K st dl ++ row 16 of ++ #[.int .u64 (bl : Int)]

theorem wkRow_st (K : Value) (st dl of : Nat → UInt8) (bl j : Nat) (hj : j < 16) : (wkRow K st dl of bl)[1 + j]? = some (by8 (st j)) := by
  have h1 := mk_size K st dl
  have h2 : (mkRow K st dl ++ row 16 of).size = 49 := by simp [h1, row_size]
  unfold wkRow
  rw [Array.getElem?_append, if_pos (by omega), Array.getElem?_append, if_pos (by omega)]
  exact mkRow_st K st dl j hj
theorem wkRow_of (K : Value) (st dl of : Nat → UInt8) (bl j : Nat) (hj : j < 16) : (wkRow K st dl of bl)[33 + j]? = some (by8 (of j)) := by
  have h1 := mk_size K st dl
  have h2 : (mkRow K st dl ++ row 16 of).size = 49 := by simp [h1, row_size]
  unfold wkRow
  rw [Array.getElem?_append, if_pos (by omega), Array.getElem?_append, if_neg (by omega), h1, show 33 + j - 33 = j by omega]
  exact row_get 16 of j hj

theorem wkRow_bl (K : Value) (st dl of : Nat → UInt8) (bl : Nat) : (wkRow K st dl of bl)[49]? = some (.int .u64 (bl : Int)) := by
  have h1 := mk_size K st dl
  have h2 : (mkRow K st dl ++ row 16 of).size = 49 := by simp [h1, row_size]
  unfold wkRow
  rw [Array.getElem?_append, if_neg (by omega), h2]
  rfl
theorem wkRow_mk {w : World} {gw : Nat} {t : TypeId} {K : Value} {st dl of : Nat → UInt8} {bl : Nat} (h : Blk w gw t (wkRow K st dl of bl)) : w.rangeAt gw 0 (mkRow K st dl).toList := by
  intro j v hv
  rw [Array.getElem?_toList] at hv
  have hj := (Array.getElem?_eq_some_iff.1 hv).1
  have h1 := mk_size K st dl
  have h2 : (mkRow K st dl ++ row 16 of).size = 49 := by simp [h1, row_size]
  refine (h.cell (0 + j)).trans ?_
  unfold wkRow
  rw [Nat.zero_add, Array.getElem?_append, if_pos (by omega), Array.getElem?_append, if_pos hj]
  exact hv
theorem wkRow_next (K : Value) (st dl of : Nat → UInt8) (bl b2 : Nat) : (wkRow K st dl of bl).setIfInBounds 49 (.int .u64 (b2 : Int)) = wkRow K st dl of b2 := by kernel_rfl

/-- Cells put one after another. -/
def putL (cs : Array Value) : Nat → List Value → Array Value
  | _, [] => cs
  | o, v :: r => putL (cs.setIfInBounds o v) (o + 1) r
theorem Blk.setCells {g : Nat} {t : TypeId} : ∀ (vs : List Value) (o : Nat) (w : World) (cs : Array Value), Blk w g t cs → Blk (w.setCells g o vs) g t (putL cs o vs)
  | [], _, _, _, h => h
  | v :: r, o, w, cs, h => Blk.setCells r (o + 1) _ _ (heap_setCell_same w g o cs t v h)
theorem wk_put (K : Value) (st dl of x : Nat → UInt8) (bl : Nat) : putL (wkRow K st dl of bl) 33 (row 16 x).toList = wkRow K st dl x bl := by kernel_rfl

/-- All but block gw is as it was. -/
def Beside (gw : Nat) (w w' : World) : Prop := Below gw w w' ∧ ∀ g, g < w.heap.size → g ≠ gw → w'.heap[g]? = w.heap[g]?
section
variable {gw : Nat} {w w1 w2 : World}
theorem Beside.refl (gw : Nat) (w : World) : Beside gw w w := ⟨Below.refl _ _, fun _ _ _ => rfl⟩
theorem Beside.drew (h : Beside gw w w1) : Beside gw w w1.drew := ⟨h.1.drew, h.2⟩
theorem Beside.below (h : Beside gw w w1) (hg : gw ≤ w1.heap.size) (hb : Below w1.heap.size w1 w2) : Beside gw w w2 :=
  ⟨h.1.trans (hb.mono hg), fun g hg hne => (hb.block g (Nat.lt_of_lt_of_le hg h.1.size)).trans (h.2 g hg hne)⟩
theorem Beside.setCell (h : Beside gw w w1) (o : Nat) (v : Value) : Beside gw w (w1.setCell ⟨gw, o, none⟩ v) :=
  ⟨h.1.setCell (Nat.le_refl _) v, fun g hg hne => (Below.heap_setCell w1 ⟨gw, o, none⟩ v g hne).trans (h.2 g hg hne)⟩
theorem Beside.setCells : ∀ (vs : List Value) (o : Nat) (w1 : World), Beside gw w w1 → Beside gw w (w1.setCells gw o vs)
  | [], _, _, h => h
  | v :: r, o, _, h => Beside.setCells r (o + 1) _ (h.setCell o v)
theorem Blk.there {t : TypeId} {cs : Array Value} (h : Blk w gw t cs) (o n : Nat) (hn : o + n ≤ cs.size) : w.there gw o n := fun j hj => by
  refine ⟨?_, ?_⟩
  · rw [h.cell, Array.getElem?_eq_getElem (by omega)]; rfl
  · unfold Blk at h
    simp [World.frozen?, h]
theorem Blk.range {t : TypeId} {cs : Array Value} (h : Blk w gw t cs) (o n : Nat) (f : Nat → UInt8) (hc : ∀ j, j < n → cs[o + j]? = some (by8 (f j))) : w.rangeAt gw o (row n f).toList := by
  intro j v hv
  have hj : j < n := by
    have := (List.getElem?_eq_some_iff.1 hv).1
    simpa [row_size] using this
  rw [Array.getElem?_toList, row_get _ _ _ hj] at hv
  obtain rfl := Option.some.inj hv
  exact (h.cell (o + j)).trans (hc j hj)
end
theorem wk_size (K : Value) (st dl of : Nat → UInt8) (bl : Nat) : (wkRow K st dl of bl).size = 50 := by simp [wkRow, mk_size, row_size]
section
variable {P : Program}
theorem run_load_Part (w : World) (ty e : TypeId) (g o k : Nat) (f : Nat → UInt8) (hr : w.rangeAt g o (row k f).toList) (hu : P.underlying ty = some (.array k e)) (hi : (P.info? ty).map (·.size) = some k) :
    (Instr.loadAt ty (.pointer (some ⟨g, o, none⟩))).run P w = .ok (.agg (row k f)) w := by
  have h := run_loadAt_mid (P := P) w g o ty _ _ hr hu rfl (by rw [hi, Array.length_toList, row_size])
  simpa using h
theorem Sure.load_Part {ops : Array Oper} {S : World → Prop} {op : Oper} {a : Act} (hwant : Region.wanted op (yielded ops a.tmps) = true) (ty : TypeId) (x : Operand) (ho : op.op = .load ty x)
    (g o : Nat) (hx : a.eval x = .pointer (some ⟨g, o, none⟩)) (k : Nat) (f : Nat → UInt8) (e : TypeId) (hr : ∀ w, S w → w.rangeAt g o (row k f).toList) (hu : P.underlying ty = some (.array k e)) (hi : (P.info? ty).map (·.size) = some k) :
    Sure P ops S op (.agg (row k f)) a :=
  Sure.val hwant fun w hw => by
    unfold execOp
    simp only [ho, hx, Sem.run_bind, Sem.run_pure, Result.andThen_ok, run_load_Part w ty e g o k f (hr w hw) hu hi]
theorem Sure.load_Struct {ops : Array Oper} {S : World → Prop} {op : Oper} {a : Act} (hwant : Region.wanted op (yielded ops a.tmps) = true) (ty : TypeId) (x : Operand) (ho : op.op = .load ty x)
    (g o : Nat) (hx : a.eval x = .pointer (some ⟨g, o, none⟩)) (cs : Array Value) (hr : ∀ w, S w → w.rangeAt g o cs.toList) (hdd : (P.underlying ty).map (·.isRow) = some true) (hi : (P.info? ty).map (·.size) = some cs.size) :
    Sure P ops S op (.agg cs) a :=
  Sure.val hwant fun w hw => by
    obtain ⟨d, hu, hdr⟩ := isRow_desc hdd
    have h := run_loadAt_mid (P := P) w g o ty _ d (hr w hw) hu hdr (by rw [hi, Array.length_toList])
    unfold execOp
    simp only [ho, hx, Sem.run_bind, Sem.run_pure, Result.andThen_ok, h]
/-- The last operation of a region: an array stored into the middle of a block. -/
theorem Seq.store_Part {ops : Array Oper} {S : World → Prop} {Q : Exit → Act → World → Prop} {op : Oper} {a : Act} (hwant : Region.wanted op (yielded ops a.tmps) = true) (ty : TypeId) (x y : Operand) (ho : op.op = .store ty x y)
    (g o : Nat) (hx : a.eval x = .pointer (some ⟨g, o, none⟩)) (k : Nat) (f : Nat → UInt8) (hy : a.eval y = .agg (row k f)) (ht : ∀ w, S w → w.there g o k) (hi : (P.info? ty).map (·.size) = some k)
    (h : ∀ w, S w → Q .normal (a.put op.dst undef) (w.setCells g o (row k f).toList)) : Seq P ops Q S [op] a :=
  Seq.last hwant fun w hS => wp_store_mid ty x y ho g o (row k f) hx hy (by rw [row_size]; exact ht w hS) (by rw [hi, row_size]) (row_one k f) (h w hS)
end

set_option maxHeartbeats 2000000 in
theorem goTo_part (K : Value) (st dl of : Nat → UInt8) (bl gw : Nat) (A : Option Addr) (n c : Nat) (w : World) (hn : n < 16) (hw : Blk w gw 39 (wkRow K st dl of bl)) :
    Calls Tryd.prog 26 #[.pointer (some ⟨gw, 0, none⟩), .slice A n c] w fun e w' => e = .returned (.tuple #[]) ∧ Blk w' gw 39 (wkRow K st dl (added of st) bl) ∧ Beside gw w w' := by
  have hn1 : (n : Int) < 16 := by omega
  obtain ⟨X, hX⟩ : ∃ X, X = added of st := ⟨_, rfl⟩
  rw [← hX]
  have HX := Lib.hid hX
  clear hX
  go_enter Tryd.func26, Tryd.ntmps26
  go_upto_region 1 with (fail)
  refine region_seq (fun w' => Blk w' gw 39 (wkRow K st dl of bl) ∧ Beside gw w w') mixedOrders (by kernel_rfl) (by simp) ⟨hw.drew, (Beside.refl gw w).drew⟩ ?_
  clear hw
  iterate 4
    refine Seq.next ?_ (Sure.val rfl (fun w' hS => ?_)) ?_
    rotate_left 1
    · clear hS
      go_simp
      rfl
    simp only [Act.put, List.setIfInBounds_toArray, List.set_cons_zero, List.set_cons_succ]
  refine Seq.next (.agg (row 16 of)) (Sure.load_Part rfl 32 _ rfl gw 33 rfl 16 of _ (fun w' hS => hS.1.range 33 16 of fun j hj => wkRow_of _ _ _ _ _ j hj) und16 size16) ?_
  simp only [Act.put, List.setIfInBounds_toArray, List.set_cons_zero, List.set_cons_succ]
  iterate 4
    refine Seq.next ?_ (Sure.val rfl (fun w' hS => ?_)) ?_
    rotate_left 1
    · clear hS
      go_simp
      rfl
    simp only [Act.put, List.setIfInBounds_toArray, List.set_cons_zero, List.set_cons_succ]
  refine Seq.next (.agg (row 16 st)) (Sure.load_Part rfl 32 _ rfl gw 1 rfl 16 st _ (fun w' hS => hS.1.range 1 16 st fun j hj => wkRow_st _ _ _ _ _ j hj) und16 size16) ?_
  simp only [Act.put, List.setIfInBounds_toArray, List.set_cons_zero, List.set_cons_succ]
  refine Seq.next (.agg (row 16 X)) (Sure.call (f := 27) (args := #[.agg (row 16 of), .agg (row 16 st)]) rfl (fun w' => by go_simp) (fun w' hS => (xored_c of st w').mono fun e w'' h => ⟨by rw [HX.out]; exact h.1, hS.1.below h.2 hS.1.lt, hS.2.below (Nat.le_of_lt hS.1.lt) h.2⟩)) ?_
  simp only [Act.put, List.setIfInBounds_toArray, List.set_cons_zero, List.set_cons_succ]
  iterate 2
    refine Seq.next ?_ (Sure.val rfl (fun w' hS => ?_)) ?_
    rotate_left 1
    · clear hS
      go_simp
      rfl
    simp only [Act.put, List.setIfInBounds_toArray, List.set_cons_zero, List.set_cons_succ]
  refine Seq.store_Part rfl 32 _ _ rfl gw 33 rfl 16 X rfl (fun w' hS => hS.1.there 33 16 (by rw [wk_size]; omega)) size16 fun w' hS => ?_
  have hb := Blk.setCells (row 16 X).toList 33 w' _ hS.1
  rw [wk_put] at hb
  have hb2 := Beside.setCells (row 16 X).toList 33 w' hS.2
  clear hS
  revert hb hb2
  generalize w'.setCells gw 33 (row 16 X).toList = w2
  intro hb hb2
  go_wp2
  (try simp only [Exit.inBlock, Exit.then])
  exact bodyPost_ret (results_none rfl _ _ _) rfl ⟨rfl, hb, hb2⟩

set_option maxHeartbeats 2000000 in
theorem goTo_whole (K : Value) (st dl of : Nat → UInt8) (bl gw : Nat) (A : Option Addr) (c : Nat) (w : World) (hw : Blk w gw 39 (wkRow K st dl of bl)) (hbl : bl < 9223372036854775808) (hT : DeB w) (hg : 2 < gw) :
    Calls Tryd.prog 26 #[.pointer (some ⟨gw, 0, none⟩), .slice A 16 c] w fun e w' => e = .returned (.tuple #[]) ∧ Blk w' gw 39 (wkRow K st dl (added of (dbls (Lib.ctz 64 (bl + 1) + 1) dl)) (bl + 1)) ∧ Beside gw w w' := by
  obtain ⟨b2, hb2⟩ : ∃ b2, b2 = bl + 1 := ⟨_, rfl⟩
  rw [← hb2]
  have HB := Lib.hid hb2
  clear hb2
  obtain ⟨Y, hY⟩ : ∃ Y, Y = dbls (Lib.ctz 64 b2 + 1) dl := ⟨_, rfl⟩
  rw [← hY]
  have HY := Lib.hid hY
  clear hY
  obtain ⟨X, hX⟩ : ∃ X, X = added of Y := ⟨_, rfl⟩
  rw [← hX]
  have HX := Lib.hid hX
  clear hX
  have e49 : w.cell? ⟨gw, 49, none⟩ = some (.int .u64 (bl : Int)) := (hw.cell 49).trans (wkRow_bl _ _ _ _ _)
  have e49f : w.frozen? ⟨gw, 49, none⟩ = false := (hw.there 49 1 (by rw [wk_size]; omega) 0 (by omega)).2
  go_enter Tryd.func26, Tryd.ntmps26
  go_upto_region 3 with (fail)
  clear e49 e49f
  rw [show ((bl : Int) + 1) = (b2 : Int) by rw [HB.out]; rfl]
  have hw1 : Blk (w.setCell ⟨gw, 49, none⟩ (.int .u64 (b2 : Int))) gw 39 (wkRow K st dl of b2) := by
    have h := heap_setCell_same w gw 49 _ _ (.int .u64 (b2 : Int)) hw
    rw [wkRow_next] at h
    exact h
  have hbs := (Beside.refl gw w).setCell 49 (.int .u64 (b2 : Int))
  have hb0 : b2 ≠ 0 := by rw [HB.out]; omega
  have hb64 : b2 < 18446744073709551616 := by rw [HB.out]; omega
  clear hw
  revert hw1 hbs
  generalize w.setCell ⟨gw, 49, none⟩ (.int .u64 (b2 : Int)) = w1
  intro hw1 hbs
  refine region_seq (fun w' => Blk w' gw 39 (wkRow K st dl of b2) ∧ Beside gw w w') mixedOrders (by kernel_rfl) (by simp) ⟨hw1.drew, hbs.drew⟩ ?_
  clear hw1 hbs
  iterate 4
    refine Seq.next ?_ (Sure.val rfl (fun w' hS => ?_)) ?_
    rotate_left 1
    · clear hS
      go_simp
      rfl
    simp only [Act.put, List.setIfInBounds_toArray, List.set_cons_zero, List.set_cons_succ]
  refine Seq.next (.agg (row 16 of)) (Sure.load_Part rfl 32 _ rfl gw 33 rfl 16 of _ (fun w' hS => hS.1.range 33 16 of fun j hj => wkRow_of _ _ _ _ _ j hj) und16 size16) ?_
  simp only [Act.put, List.setIfInBounds_toArray, List.set_cons_zero, List.set_cons_succ]
  iterate 3
    refine Seq.next ?_ (Sure.val rfl (fun w' hS => ?_)) ?_
    rotate_left 1
    · clear hS
      go_simp
      rfl
    simp only [Act.put, List.setIfInBounds_toArray, List.set_cons_zero, List.set_cons_succ]
  refine Seq.next (.agg (mkRow K st dl)) (Sure.load_Struct rfl 34 _ rfl gw 0 rfl (mkRow K st dl) (fun w' hS => wkRow_mk hS.1) undMk (by rw [mk_size]; exact sizeMk)) ?_
  simp only [Act.put, List.setIfInBounds_toArray, List.set_cons_zero, List.set_cons_succ]
  iterate 3
    refine Seq.next ?_ (Sure.val rfl (fun w' hS => ?_)) ?_
    rotate_left 1
    · clear hS
      go_simp
      rfl
    simp only [Act.put, List.setIfInBounds_toArray, List.set_cons_zero, List.set_cons_succ]
  refine Seq.next ?_ (Sure.val rfl (fun w' hS => ?_)) ?_
  rotate_left 1
  · have e49 : w'.cell? ⟨gw, 49, none⟩ = some (.int .u64 (b2 : Int)) := (hS.1.cell 49).trans (wkRow_bl _ _ _ _ _)
    clear hS
    go_simp
    rfl
  simp only [Act.put, List.setIfInBounds_toArray, List.set_cons_zero, List.set_cons_succ]
  refine Seq.next (.agg (row 16 Y)) (Sure.call (f := 40) (args := #[.agg (mkRow K st dl), .int .u64 b2]) rfl (fun w' => by go_simp) (fun w' hS => (step_c K st dl b2 hb64 hb0 w' (hT.below hS.2.1 hg) (Nat.lt_trans hg hS.1.lt)).mono fun e w'' h => ⟨by rw [HY.out]; exact h.1, hS.1.below h.2 hS.1.lt, hS.2.below (Nat.le_of_lt hS.1.lt) h.2⟩)) ?_
  simp only [Act.put, List.setIfInBounds_toArray, List.set_cons_zero, List.set_cons_succ]
  refine Seq.next (.agg (row 16 X)) (Sure.call (f := 27) (args := #[.agg (row 16 of), .agg (row 16 Y)]) rfl (fun w' => by go_simp) (fun w' hS => (xored_c of Y w').mono fun e w'' h => ⟨by rw [HX.out]; exact h.1, hS.1.below h.2 hS.1.lt, hS.2.below (Nat.le_of_lt hS.1.lt) h.2⟩)) ?_
  simp only [Act.put, List.setIfInBounds_toArray, List.set_cons_zero, List.set_cons_succ]
  iterate 2
    refine Seq.next ?_ (Sure.val rfl (fun w' hS => ?_)) ?_
    rotate_left 1
    · clear hS
      go_simp
      rfl
    simp only [Act.put, List.setIfInBounds_toArray, List.set_cons_zero, List.set_cons_succ]
  refine Seq.store_Part rfl 32 _ _ rfl gw 33 rfl 16 X rfl (fun w' hS => hS.1.there 33 16 (by rw [wk_size]; omega)) size16 fun w' hS => ?_
  have hb := Blk.setCells (row 16 X).toList 33 w' _ hS.1
  rw [wk_put] at hb
  have hb2 := Beside.setCells (row 16 X).toList 33 w' hS.2
  clear hS
  revert hb hb2
  generalize w'.setCells gw 33 (row 16 X).toList = w2
  intro hb hb2
  go_wp2
  exact bodyPost_end (results_none rfl _ _ _) rfl ⟨rfl, hb, hb2⟩
end Go.Proofs.YtajifdnfibojfaaDoor

namespace Go.Proofs.YtajifdnfibojfaaDoor
open Go Go.RowKit
set_option maxRecDepth 100000

set_option maxHeartbeats 2000000 in
theorem begin_gen (A N : Option Addr) (n c k kc : Nat) (cs : Array Value) (r : Int) (w : World) (h33 : cs.size = 33) (h1 : cs.all (·.oneCell') = true)
    (hN : ∀ w', Below w.heap.size w w' → Calls Tryd.prog 22 #[.slice A n c] w' fun e w'' => e = .returned (.tuple #[.agg cs, .int .i64 r]) ∧ Below w'.heap.size w' w'') (hk : 0 < k) (hk2 : k < 16) :
    Calls Tryd.prog 12 #[.slice A n c, .slice N k kc] w fun e w' => e = .returned (.tuple #[.agg cs, .int .i64 r]) ∧ Below w.heap.size w w' := by
  have HC := Lib.hid hN
  clear hN
  have hk3 : ¬ (k : Int) < 1 := by omega
  have hk4 : ¬ (15 : Int) < (k : Int) := by omega
  go_enter Tryd.func12, Tryd.ntmps12
  go_upto_region 4 with (fail)
  rw [mk0]
  have hm := Blk.new w 34 (mkRow (.slice none 0 0) (fun _ => 0) fun _ => 0)
  have hbel : Below w.heap.size w (w.alloc (.cells (mkRow (.slice none 0 0) (fun _ => 0) fun _ => 0) 34)) := (Below.refl _ _).alloc (Nat.le_refl _) _
  revert hm hbel
  generalize w.alloc (.cells (mkRow (.slice none 0 0) (fun _ => 0) fun _ => 0) 34) = w1
  intro hm hbel
  refine (HC.out w1 hbel).mono ?_
  rintro e w2 ⟨rfl, hb2⟩
  have hm := hm.below hb2 hm.lt
  have hbel := hbel.trans (hb2.mono hbel.size)
  clear hb2
  go_wp2_with (first | (refine wpList_store_row rfl 34 _ _ rfl w.heap.size cs rfl rfl 34 _ hm (by rw [h33]; exact sizeMk) (by rw [mk_size, h33]) h1 ?_))
  exact ret_Blk_tmp rfl rfl _ _ _ undMk (.int .i64 r) rfl rfl (hm.setRow _) (by rw [h33]; exact sizeMk) ⟨rfl, below_setRow8 hbel (Nat.le_refl _) _⟩

theorem begin_c (A N : Option Addr) (n c k kc : Nat) (E D : (Nat → UInt8) → Nat → UInt8) (w : World) (hcap : Cap A n c E D w) (hk : 0 < k) (hk2 : k < 16) :
    Calls Tryd.prog 12 #[.slice A n c, .slice N k kc] w fun e w' => e = .returned (.tuple #[.agg (mkRow (.slice A n c) (E fun _ => 0) (dblB (E fun _ => 0))), .int .i64 0]) ∧ Below w.heap.size w w' :=
  begin_gen A N n c k kc _ 0 w (mk_size _ _ _) (mk_one _ _ _ _ _) (fun w' hb => newMasks_c A n c E D w' (hcap.below hb)) hk hk2
theorem begin_badkey (A N : Option Addr) (n c k kc : Nat) (w : World) (h1 : n ≠ 16) (h2 : n ≠ 32) (hk : 0 < k) (hk2 : k < 16) :
    Calls Tryd.prog 12 #[.slice A n c, .slice N k kc] w fun e w' => e = .returned (.tuple #[.agg (mkRow (.slice none 0 0) (fun _ => 0) fun _ => 0), .int .i64 1]) ∧ Below w.heap.size w w' :=
  begin_gen A N n c k kc _ 1 w (mk_size _ _ _) (mk_one _ _ _ _ _) (fun w' _ => newMasks_bad A n c w' h1 h2) hk hk2

set_option maxHeartbeats 2000000 in
theorem begin_short (A N : Option Addr) (n c kc : Nat) (w : World) :
    Calls Tryd.prog 12 #[.slice A n c, .slice N 0 kc] w fun e w' => e = .returned (.tuple #[.agg (mkRow (.slice none 0 0) (fun _ => 0) fun _ => 0), .int .i64 1]) ∧ Below w.heap.size w w' := by
  go_enter Tryd.func12, Tryd.ntmps12
  go_upto_region 1 with (fail)
  rw [mk0]
  have hm := Blk.new w 34 (mkRow (.slice none 0 0) (fun _ => 0) fun _ => 0)
  have hbel : Below w.heap.size w (w.alloc (.cells (mkRow (.slice none 0 0) (fun _ => 0) fun _ => 0) 34)) := (Below.refl _ _).alloc (Nat.le_refl _) _
  revert hm hbel
  generalize w.alloc (.cells (mkRow (.slice none 0 0) (fun _ => 0) fun _ => 0) 34) = w1
  intro hm hbel
  go_wp2_with (first | (refine wpList_store_row rfl 34 _ _ rfl w.heap.size (mkRow (.slice none 0 0) (fun _ => 0) fun _ => 0) rfl rfl 34 _ hm (by rw [mk_size]; exact sizeMk) rfl (mk_one _ _ _ _ _) ?_))
  exact ret_Blk_tmp rfl rfl _ _ _ undMk (.int .i64 1) rfl rfl (hm.setRow _) (by rw [mk_size]; exact sizeMk) ⟨rfl, below_setRow8 hbel (Nat.le_refl _) _⟩

set_option maxHeartbeats 2000000 in
theorem begin_long (A N : Option Addr) (n c k kc : Nat) (w : World) (hk : 15 < k) :
    Calls Tryd.prog 12 #[.slice A n c, .slice N k kc] w fun e w' => e = .returned (.tuple #[.agg (mkRow (.slice none 0 0) (fun _ => 0) fun _ => 0), .int .i64 1]) ∧ Below w.heap.size w w' := by
  have hk3 : ¬ (k : Int) < 1 := by omega
  have hk4 : (15 : Int) < (k : Int) := by omega
  go_enter Tryd.func12, Tryd.ntmps12
  go_upto_region 1 with (fail)
  rw [mk0]
  have hm := Blk.new w 34 (mkRow (.slice none 0 0) (fun _ => 0) fun _ => 0)
  have hbel : Below w.heap.size w (w.alloc (.cells (mkRow (.slice none 0 0) (fun _ => 0) fun _ => 0) 34)) := (Below.refl _ _).alloc (Nat.le_refl _) _
  revert hm hbel
  generalize w.alloc (.cells (mkRow (.slice none 0 0) (fun _ => 0) fun _ => 0) 34) = w1
  intro hm hbel
  go_wp2_with (first | (refine wpList_store_row rfl 34 _ _ rfl w.heap.size (mkRow (.slice none 0 0) (fun _ => 0) fun _ => 0) rfl rfl 34 _ hm (by rw [mk_size]; exact sizeMk) rfl (mk_one _ _ _ _ _) ?_))
  exact ret_Blk_tmp rfl rfl _ _ _ undMk (.int .i64 1) rfl rfl (hm.setRow _) (by rw [mk_size]; exact sizeMk) ⟨rfl, below_setRow8 hbel (Nat.le_refl _) _⟩
end Go.Proofs.YtajifdnfibojfaaDoor

namespace Go.Proofs.YtajifdnfibojfaaDoor
open Go
set_option maxRecDepth 100000

section
variable {P : Program} {ops : Array Oper} {Q : Exit → Act → World → Prop} {md : Region.Mode} {SS : Option Nat → World → Prop}

abbrev ptrV (g : Nat) : Value := .pointer (some ⟨g, 0, none⟩)
/-- The operation lays a new block, and hands on its address. -/
def Makes (P : Program) (ops : Array Oper) (SS : Option Nat → World → Prop) (o : Oper) (a : Act) : Prop :=
  Region.wanted o (yielded ops a.tmps) = true ∧ ∀ w, SS none w → ∃ g w', (execOp a.eval o).run P w = .ok (.value (ptrV g)) w' ∧ SS (some g) w'
theorem Makes.of_same {o : Oper} {a a' : Act} (h : Makes P ops SS o a) (he : execOp a'.eval o = execOp a.eval o)
    (hw : Region.wanted o (yielded ops a'.tmps) = Region.wanted o (yielded ops a.tmps)) : Makes P ops SS o a' := by
  unfold Makes at *
  rw [he, hw]
  exact h
/-- Laid, or not yet. -/
def laidAt (al : Bool) (g : Nat) : Option Nat := if al then some g else none

def DetG (P : Program) (md : Region.Mode) (ops : Array Oper) (Q : Exit → Act → World → Prop) (SS : Option Nat → World → Prop) : Nat → Array Bool → (Nat → Act) → Bool → Prop
  | 0, L, A, al => Region.ready md ops L = [] ∧ ∀ g w, SS (laidAt al g) w → Q .normal (A g) w
  | n + 1, L, A, al => (Region.ready md ops L = [] → ∀ g w, SS (laidAt al g) w → Q .normal (A g) w) ∧ ∀ i ∈ Region.ready md ops L,
      (∃ o v, ops[i]? = some o ∧ (∀ g og, Sure P ops (SS og) o v (A g)) ∧ DetG P md ops Q SS n (L.setIfInBounds i true) (fun g => (A g).put o.dst v) al) ∨
      (∃ o, ops[i]? = some o ∧ al = false ∧ (∀ g, Makes P ops SS o (A g)) ∧ DetG P md ops Q SS n (L.setIfInBounds i true) (fun g => (A g).put o.dst (ptrV g)) true) ∨
      (i + 1 = ops.size ∧ ∃ o, ops[i]? = some o ∧ (∀ g, Region.wanted o (yielded ops (A g).tmps) = true) ∧ ∀ g w, SS (laidAt al g) w → o.wp P (A g) w (fun a' w' => Q .normal a' w') Q)

theorem DetG.sound (hl : lastWaits md ops = true) : ∀ (n : Nat) (L : Array Bool) (A : Nat → Act) (al : Bool), (al = false → ∀ g, A g = A 0) → L.size = ops.size → Closed md ops L → DetG P md ops Q SS n L A al →
    ∀ g w, SS (laidAt al g) w → wpAny P md ops Q n L (A g) w := by
  intro n
  induction n with
  | zero => intro L A al _ _ _ h g w hw; exact ⟨h.1, h.2 g w hw⟩
  | succ n ih =>
    intro L A al hA hsz hc h g w hw
    refine ⟨fun h0 => h.1 h0 g w hw, fun i hi => ?_⟩
    rcases h.2 i hi with ⟨o, v, ho, hs, hd⟩ | ⟨o, ho, hal, hm, hd⟩ | ⟨hi1, ol, hol, hwl, hlast⟩
    · exact (hs g (laidAt al g)).wpOp ho hw fun w' hw' => ih _ (fun g => (A g).put o.dst v) al (fun h g => by show (A g).put _ _ = (A 0).put _ _; rw [hA h g]) (by simpa using hsz) (hc.set hi) hd g w' hw'
    · subst hal
      obtain ⟨hwant, hrun⟩ := hm g
      obtain ⟨g', w', he, hS'⟩ := hrun w hw
      unfold wpOp
      simp only [ho, hwant, if_true]
      left
      unfold Oper.wp
      rw [he]
      have := ih _ (fun g => (A g).put o.dst (ptrV g)) true (fun h => by cases h) (by simpa using hsz) (hc.set hi) hd g' w' hS'
      show wpAny P md ops Q n _ ((A g).put o.dst (ptrV g')) w'
      rw [hA rfl g, ← hA rfl g']
      exact this
    · refine wpOp_mono (K := fun a' w' => Q .normal a' w') (fun a' w' hQ => ?_) (by unfold wpOp; simp only [hol, hwl g, if_true]; exact .inl (hlast g w hw))
      have hready : Region.ready md ops (L.setIfInBounds i true) = [] := by
        refine ready_full (by simpa using hsz) fun k hk => ?_
        by_cases hki : i = k
        · subst hki
          have : i < L.size := by omega
          simp [Array.getD, this]
        · rw [getD_set_ne true hki]
          have hh : ¬ L.getD k true = false := fun hL => lastWaits_spec hl hc (k := k) (by omega) hL (by
            have : ops.size - 1 = i := by omega
            rw [this]; exact hi)
          simpa using hh
      cases n with
      | zero => exact ⟨hready, hQ⟩
      | succ n => exact ⟨fun _ => hQ, by rw [hready]; simp⟩

theorem DetG.soundIn {m l : Nat} (hl : lastWaits md ops = true) (hnd : ops.all noDefer = true) : ∀ (n : Nat) (L : Array Bool) (A : Nat → Act) (al : Bool), (al = false → ∀ g, A g = A 0) → L.size = ops.size → Closed md ops L → DetG P md ops Q SS n L A al →
    ∀ g w, SS (laidAt al g) w → wpAnyIn (Fence.wide.inRound l) m P md ops Q n L (A g) w := by
  have hdef : ∀ {i : Nat} {o : Oper}, ops[i]? = some o → noDefer o = true := fun ho => (Array.all_eq_true_iff_forall_mem.1 hnd) _ (Array.mem_of_getElem? ho)
  intro n
  induction n with
  | zero => intro L A al _ _ _ h g w hw; exact ⟨h.1, h.2 g w hw⟩
  | succ n ih =>
    intro L A al hA hsz hc h g w hw
    refine ⟨fun h0 => h.1 h0 g w hw, fun i hi => ?_⟩
    rcases h.2 i hi with ⟨o, v, ho, hs, hd⟩ | ⟨o, ho, hal, hm, hd⟩ | ⟨hi1, ol, hol, hwl, hlast⟩
    · have hK : ∀ w', SS (laidAt al g) w' → wpAnyIn (Fence.wide.inRound l) m P md ops Q n (L.setIfInBounds i true) ((A g).put o.dst v) w' := fun w' hw' => ih _ (fun g => (A g).put o.dst v) al (fun h g => by show (A g).put _ _ = (A 0).put _ _; rw [hA h g]) (by simpa using hsz) (hc.set hi) hd g w' hw'
      unfold wpOpIn
      rcases hs g (laidAt al g) with h5 | ⟨h5, h6⟩
      · simp only [ho, h5.1, if_true]
        exact opIn_of (hdef ho) (Sure.wp h5.2 hw hK)
      · subst h6
        simp only [ho]
        rw [if_neg (by rw [h5]; decide)]
        exact ⟨fun _ _ => trivial, hK w hw⟩
    · subst hal
      obtain ⟨hwant, hrun⟩ := hm g
      obtain ⟨g', w', he, hS'⟩ := hrun w hw
      unfold wpOpIn
      simp only [ho, hwant, if_true]
      refine opIn_of (hdef ho) ?_
      unfold Oper.wp
      rw [he]
      have := ih _ (fun g => (A g).put o.dst (ptrV g)) true (fun h => by cases h) (by simpa using hsz) (hc.set hi) hd g' w' hS'
      show wpAnyIn (Fence.wide.inRound l) m P md ops Q n _ ((A g).put o.dst (ptrV g')) w'
      rw [hA rfl g, ← hA rfl g']
      exact this
    · unfold wpOpIn
      simp only [hol, hwl g, if_true]
      refine Oper.wpIn_mono (fun a' w' hQ => ?_) (opIn_of (hdef hol) (hlast g w hw))
      have hready : Region.ready md ops (L.setIfInBounds i true) = [] := by
        refine ready_full (by simpa using hsz) fun k hk => ?_
        by_cases hki : i = k
        · subst hki
          have : i < L.size := by omega
          simp [Array.getD, this]
        · rw [getD_set_ne true hki]
          have hh : ¬ L.getD k true = false := fun hL => lastWaits_spec hl hc (k := k) (by omega) hL (by
            have : ops.size - 1 = i := by omega
            rw [this]; exact hi)
          simpa using hh
      cases n with
      | zero => exact ⟨hready, hQ⟩
      | succ n => exact ⟨fun _ => hQ, by rw [hready]; simp⟩

/-- What is taken first may be a sure operation, or the one that makes. -/
def StepG (P : Program) (ops : Array Oper) (SS : Option Nat → World → Prop) (o : Oper) (V : Nat → Value) (A : Nat → Act) (al al' : Bool) : Prop :=
  (al' = al ∧ ∃ v, (∀ g, V g = v) ∧ ∀ g og, Sure P ops (SS og) o v (A g)) ∨ (al = false ∧ al' = true ∧ (∀ g, V g = ptrV g) ∧ ∀ g, Makes P ops SS o (A g))

theorem StepG.of_same {o : Oper} {V : Nat → Value} {A A' : Nat → Act} {al al' : Bool} (h : StepG P ops SS o V A al al') (he : ∀ g, execOp (A' g).eval o = execOp (A g).eval o)
    (hw : ∀ g, Region.wanted o (yielded ops (A' g).tmps) = Region.wanted o (yielded ops (A g).tmps)) : StepG P ops SS o V A' al al' := by
  rcases h with ⟨h1, v, h2, h3⟩ | ⟨h1, h2, h3, h4⟩
  · exact .inl ⟨h1, v, h2, fun g og => (h3 g og).of_same (he g) (hw g)⟩
  · exact .inr ⟨h1, h2, h3, fun g => (h4 g).of_same (he g) (hw g)⟩
theorem DetG.of_step {n : Nat} {L : Array Bool} {A : Nat → Act} {al al' : Bool} {i : Nat} {o : Oper} {V : Nat → Value} (ho : ops[i]? = some o) (h : StepG P ops SS o V A al al') (hd : DetG P md ops Q SS n (L.setIfInBounds i true) (fun g => (A g).put o.dst (V g)) al') :
    (∃ o v, ops[i]? = some o ∧ (∀ g og, Sure P ops (SS og) o v (A g)) ∧ DetG P md ops Q SS n (L.setIfInBounds i true) (fun g => (A g).put o.dst v) al) ∨
      (∃ o, ops[i]? = some o ∧ al = false ∧ (∀ g, Makes P ops SS o (A g)) ∧ DetG P md ops Q SS n (L.setIfInBounds i true) (fun g => (A g).put o.dst (ptrV g)) true) ∨
      (i + 1 = ops.size ∧ ∃ o, ops[i]? = some o ∧ (∀ g, Region.wanted o (yielded ops (A g).tmps) = true) ∧ ∀ g w, SS (laidAt al g) w → o.wp P (A g) w (fun a' w' => Q .normal a' w') Q) := by
  rcases h with ⟨rfl, v, h2, h3⟩ | ⟨rfl, rfl, h3, h4⟩
  · obtain rfl : V = fun _ => v := funext h2
    exact .inl ⟨o, v, ho, h3, hd⟩
  · obtain rfl : V = ptrV := funext h3
    exact .inr (.inl ⟨o, ho, rfl, h4, hd⟩)

theorem DetG.take (hl : lastWaits md ops = true) {i : Nat} {oi : Oper} {V : Nat → Value} (hi : ops[i]? = some oi) (hsel : ∀ (j : Nat) (o : Oper) cs b, ops[j]? = some o → o.op ≠ .select cs b) (hil : i + 1 < ops.size) :
    ∀ (n : Nat) (L : Array Bool) (A : Nat → Act) (al al' : Bool), L.size = ops.size → Closed md ops L →
      (∀ j oj, ops[j]? = some oj → j ≠ i → L.getD j true = false → (∀ e ∈ oj.after, Region.binds md e = true → e.on ≠ i) → oi.apart ops oj = true) →
      i ∈ Region.ready md ops L → StepG P ops SS oi V A al al' → DetG P md ops Q SS n (L.setIfInBounds i true) (fun g => (A g).put oi.dst (V g)) al' → DetG P md ops Q SS (n + 1) L A al := by
  intro n
  induction n with
  | zero =>
    intro L A al al' _ _ _ hr hs H
    refine ⟨fun h => (by rw [h] at hr; cases hr), fun j hj => ?_⟩
    by_cases hji : j = i
    · subst hji; exact DetG.of_step hi hs H
    · have := ready_mono hj hji
      rw [H.1] at this
      cases this
  | succ n ih =>
    intro L A al al' hsz hc hfree hr hs H
    refine ⟨fun h => (by rw [h] at hr; cases hr), fun j hj => ?_⟩
    by_cases hji : j = i
    · subst hji; exact DetG.of_step hi hs H
    · obtain ⟨hjun, oj, hoj, hall⟩ := mem_ready.1 hj
      have hnot : ∀ e ∈ oj.after, Region.binds md e = true → e.on ≠ i := fun e he hb heq => by
        have h1 := hall e he hb
        have h0 := (mem_ready.1 hr).1
        rw [heq] at h1
        rcases Nat.lt_or_ge i L.size with h' | h'
        · simp [h'] at h0 h1; rw [h0] at h1; cases h1
        · simp [Array.getElem?_eq_none h'] at h1
      have hap := hfree j oj hoj hji hjun hnot
      obtain ⟨h1, h2, h3⟩ := Oper.apart_spec hap
      have hfree' : ∀ k ok, ops[k]? = some ok → k ≠ i → (L.setIfInBounds j true).getD k true = false →
          (∀ e ∈ ok.after, Region.binds md e = true → e.on ≠ i) → oi.apart ops ok = true := fun k ok hk hki hun hno => by
        refine hfree k ok hk hki ?_ hno
        by_cases hjk : j = k
        · subst hjk; exact hjun
        · rw [getD_set_ne true hjk] at hun; exact hun
      have hsame : ∀ (a : Act) (v : Value), execOp (a.put oi.dst v).eval oj = execOp a.eval oj := fun a v => execOp_put oj (fun cs b => hsel j oj cs b hoj) a oi.dst v h1
      have hsameW : ∀ (a : Act) (v : Value), Region.wanted oj (yielded ops (a.put oi.dst v).tmps) = Region.wanted oj (yielded ops a.tmps) := fun a v => wanted_put oj a oi.dst v h1
      have hback : ∀ (U : Nat → Value), StepG P ops SS oi V (fun g => (A g).put oj.dst (U g)) al al' := fun U => hs.of_same (fun g => execOp_put oi (fun cs b => hsel i oi cs b hi) (A g) oj.dst (U g) h3) (fun g => wanted_put oi (A g) oj.dst (U g) h3)
      have hcomm : ∀ (U : Nat → Value) (al2 : Bool), DetG P md ops Q SS n ((L.setIfInBounds i true).setIfInBounds j true) (fun g => ((A g).put oi.dst (V g)).put oj.dst (U g)) al2 → DetG P md ops Q SS n ((L.setIfInBounds j true).setIfInBounds i true) (fun g => ((A g).put oj.dst (U g)).put oi.dst (V g)) al2 := fun U al2 hd => by
        rw [Array.setIfInBounds_comm _ _ hji]
        have e : (fun g => ((A g).put oj.dst (U g)).put oi.dst (V g)) = fun g => ((A g).put oi.dst (V g)).put oj.dst (U g) := funext fun g => (Act.put_comm (A g) (V g) (U g) h2).symm
        rw [e]
        exact hd
      rcases H.2 j (ready_mono hj hji) with ⟨o, u, ho, hsu, hd⟩ | ⟨o, ho, hal, hm, hd⟩ | ⟨hj1, _⟩
      · rw [hoj] at ho
        obtain rfl := Option.some.inj ho
        exact .inl ⟨oj, u, hoj, fun g og => (hsu g og).of_same (hsame _ _).symm (hsameW _ _).symm,
          ih (L.setIfInBounds j true) _ al al' (by simpa using hsz) (hc.set hj) hfree' (ready_mono hr (Ne.symm hji)) (hback fun _ => u) (hcomm (fun _ => u) al' hd)⟩
      · rw [hoj] at ho
        obtain rfl := Option.some.inj ho
        subst hal
        have hal0 : al = false := by
          rcases hs with ⟨h, _⟩ | ⟨h, _⟩
          · exact h.symm
          · exact h
        have hs' : StepG P ops SS oi V (fun g => (A g).put oj.dst (ptrV g)) true true := by
          rcases hback ptrV with ⟨_, h'⟩ | ⟨_, h', _⟩
          · exact .inl ⟨rfl, h'⟩
          · cases h'
        exact .inr (.inl ⟨oj, hoj, hal0, fun g => (hm g).of_same (hsame _ _).symm (hsameW _ _).symm,
          ih (L.setIfInBounds j true) _ true true (by simpa using hsz) (hc.set hj) hfree' (ready_mono hr (Ne.symm hji)) hs' (hcomm ptrV true hd)⟩)
      · exfalso
        have hL : L.getD i true = false := (mem_ready.1 hr).1
        exact lastWaits_spec hl hc hil hL (by
          have : ops.size - 1 = j := by omega
          rw [this]; exact hj)

def SeqG (P : Program) (ops : Array Oper) (Q : Exit → Act → World → Prop) (SS : Option Nat → World → Prop) : List Oper → (Nat → Act) → Bool → Prop
  | [], _, _ => False
  | [o], A, al => (∀ g, Region.wanted o (yielded ops (A g).tmps) = true) ∧ ∀ g w, SS (laidAt al g) w → o.wp P (A g) w (fun a' w' => Q .normal a' w') Q
  | o :: rest, A, al => ∃ V al', StepG P ops SS o V A al al' ∧ SeqG P ops Q SS rest (fun g => (A g).put o.dst (V g)) al'

theorem DetG.of_seq (hok : textOk md ops = true) : ∀ (n k : Nat) (A : Nat → Act) (al : Bool), k + n = ops.size → 0 < n → Closed md ops (pre ops.size k) → SeqG P ops Q SS (ops.toList.drop k) A al → DetG P md ops Q SS n (pre ops.size k) A al := by
  simp only [textOk, Bool.and_eq_true, List.all_eq_true, List.mem_range, beq_iff_eq] at hok
  obtain ⟨⟨⟨hsel, hl⟩, hall⟩, hlast⟩ := hok
  intro n
  induction n with
  | zero => intro k A al _ h; omega
  | succ n ih =>
    intro k A al hk _ hc hs
    have hkl : k < ops.size := by omega
    have hko : ops[k]? = some ops[k] := Array.getElem?_eq_getElem hkl
    rw [List.drop_eq_getElem_cons (by simpa using hkl)] at hs
    cases n with
    | zero =>
      have e : ops.toList.drop (k + 1) = [] := List.drop_eq_nil_of_le (by simp; omega)
      rw [e] at hs
      have hk1 : ops.size - 1 = k := by omega
      rw [hk1] at hlast
      refine ⟨fun h => (by rw [hlast] at h; cases h), fun i hi => ?_⟩
      rw [hlast] at hi
      obtain rfl : i = k := by simpa using hi
      obtain ⟨hwant, hrun⟩ := hs
      simp only [Array.getElem_toList] at hwant hrun
      exact .inr (.inr ⟨by omega, _, hko, hwant, hrun⟩)
    | succ n =>
      have hne : ∃ o rest, ops.toList.drop (k + 1) = o :: rest := by
        rw [List.drop_eq_getElem_cons (by simp; omega)]
        exact ⟨_, _, rfl⟩
      obtain ⟨o', rest', e⟩ := hne
      rw [e] at hs
      obtain ⟨V, al', hstep, hrest⟩ := hs
      rw [← e] at hrest
      simp only [Array.getElem_toList] at hstep hrest
      obtain ⟨hr, hf⟩ := hall k (by omega)
      refine DetG.take hl hko (Region.noSelect_spec hsel) (by omega) (n + 1) _ A al al' (pre_size _ _) hc (Region.free_spec hko hf) (by simpa using hr) hstep ?_
      have hc' := hc.set (i := k) (by simpa using hr)
      rw [pre_succ] at hc' ⊢
      exact ih (k + 1) _ al' (by omega) (by omega) hc' hrest

theorem DetG.all {ls : List Oper} {A : Nat → Act} (hok : textOk .any ls.toArray = true) (hn : ls ≠ []) (h : SeqG P ls.toArray Q SS ls A false) :
    lastWaits .any ls.toArray = true ∧ DetG P .any ls.toArray Q SS ls.toArray.size (Array.replicate ls.toArray.size false) A false := by
  have hlen : 0 < ls.toArray.size := by
    cases ls with
    | nil => exact absurd rfl hn
    | cons x xs => simp
  have hd := DetG.of_seq (md := .any) hok ls.toArray.size 0 A false (by omega) hlen (by rw [pre_zero]; exact Closed.none _ _) (by simpa using h)
  rw [pre_zero] at hd
  refine ⟨?_, hd⟩
  simp only [textOk, Bool.and_eq_true] at hok
  exact hok.1.1.2
/-- A region that makes one variable. -/
theorem region_made (SS : Option Nat → World → Prop) {id : Nat} {ls : List Oper} {a : Act} {w : World} (hm : P.follows .mixedOrders = true) (hok : textOk .any ls.toArray = true) (hn : ls ≠ [])
    (hS : SS none w.drew) (h : SeqG P ls.toArray Q SS ls (fun _ => a) false) : (Code.region id ls.toArray true).wp P Q a w := by
  refine wp_region_any hm ?_
  obtain ⟨hl, hd⟩ := DetG.all hok hn h
  exact DetG.sound hl _ _ (fun _ => a) false (fun _ _ => rfl) (by simp) (Closed.none _ _) hd 0 _ hS
theorem region_made_in (SS : Option Nat → World → Prop) {m l id : Nat} {ls : List Oper} {a : Act} {w : World} (hm : P.follows .mixedOrders = true) (hok : textOk .any ls.toArray = true) (hnd : ls.all noDefer = true) (hn : ls ≠ [])
    (hS : SS none w.drew) (h : SeqG P ls.toArray Q SS ls (fun _ => a) false) : (Code.region id ls.toArray true).wpIn (Fence.wide.inRound l) m P Q a w := by
  refine wpIn_region_any hm ?_
  obtain ⟨hl, hd⟩ := DetG.all hok hn h
  exact DetG.soundIn hl (by simpa using hnd) _ _ (fun _ => a) false (fun _ _ => rfl) (by simp) (Closed.none _ _) hd 0 _ hS

theorem SeqG.last {o : Oper} {A : Nat → Act} {al : Bool} (hwant : ∀ g, Region.wanted o (yielded ops (A g).tmps) = true) (h : ∀ g w, SS (laidAt al g) w → o.wp P (A g) w (fun a' w' => Q .normal a' w') Q) : SeqG P ops Q SS [o] A al := ⟨hwant, h⟩
theorem SeqG.next {o o' : Oper} {rest : List Oper} {A : Nat → Act} {al : Bool} (v : Value) (hs : ∀ g og, Sure P ops (SS og) o v (A g)) (h : SeqG P ops Q SS (o' :: rest) (fun g => (A g).put o.dst v) al) : SeqG P ops Q SS (o :: o' :: rest) A al :=
  ⟨fun _ => v, al, .inl ⟨rfl, v, fun _ => rfl, hs⟩, h⟩
theorem SeqG.make {o o' : Oper} {rest : List Oper} {A : Nat → Act} (hs : ∀ g, Makes P ops SS o (A g)) (h : SeqG P ops Q SS (o' :: rest) (fun g => (A g).put o.dst (ptrV g)) true) : SeqG P ops Q SS (o :: o' :: rest) A false :=
  ⟨ptrV, true, .inr ⟨rfl, rfl, fun _ => rfl, hs⟩, h⟩
end
end Go.Proofs.YtajifdnfibojfaaDoor

namespace Go.Proofs.YtajifdnfibojfaaDoor
open Go Go.RowKit
set_option maxRecDepth 100000

theorem Blk.whole {w : World} {g : Nat} {t : TypeId} {cs : Array Value} (h : Blk w g t cs) : w.rangeAt g 0 cs.toList := by
  intro j v hv
  rw [Array.getElem?_toList] at hv
  exact (h.cell (0 + j)).trans (by rw [Nat.zero_add]; exact hv)
theorem range_cells {w : World} {g o k : Nat} {f : Nat → UInt8} (h : ∀ j, j < k → w.cell? ⟨g, o + j, none⟩ = some (.int .u8 ((f j).toNat : Int))) : w.rangeAt g o (row k f).toList := by
  intro j v hv
  have hj : j < k := by
    have := (List.getElem?_eq_some_iff.1 hv).1
    simpa [row_size] using this
  rw [Array.getElem?_toList, row_get _ _ _ hj] at hv
  obtain rfl := Option.some.inj hv
  exact h j hj
section
variable {P : Program} {ops : Array Oper} {Q : Exit → Act → World → Prop} {w : World} {S : World → Prop}
theorem wpList_build {rest : List Oper} {o : Oper} {a : Act} (hgd : o.guard = none) (t : TypeId) (parts : Array (Nat × Operand)) (ho : o.op = .build t parts) (cells : Array Value) (vals : List (Nat × Value)) (hv : (parts.map fun (i, x) => (i, a.eval x)).toList = vals)
    (hb : P.built t vals = some cells) (h : wpList P ops Q rest (a.put o.dst (.agg cells)) w) : wpList P ops Q (o :: rest) a w :=
  wpList_plain hgd fun _ hK => by
    unfold Oper.wp
    rw [exec_build t parts ho cells vals hv hb w]
    exact hK _ _ h
theorem run_alloc_Blk (ty : TypeId) (cs : Array Value) (hz : (P.info? ty).bind (·.zero) = some (.agg cs)) (w : World) :
    (Instr.alloc ty true (.tuple #[])).run P w = .ok (.pointer (some ⟨w.heap.size, 0, none⟩)) (w.alloc (.cells cs ty)) := by
  cases hq : P.info? ty with
  | none => simp [hq] at hz
  | some i =>
    have hs : i.zero = some (.agg cs) := by simpa [hq] using hz
    simp [Instr.alloc, zeroValue, typeInfo, hq, hs, newVar, newRow, Value.cells]
theorem wpList_alloc_Blk {rest : List Oper} {o : Oper} {a : Act} (hgd : o.guard = none) (ty : TypeId) (ho : o.op = .alloc ty) (cs : Array Value)
    (hz : (P.info? ty).bind (·.zero) = some (.agg cs))
    (h : wpList P ops Q rest (a.put o.dst (.pointer (some ⟨w.heap.size, 0, none⟩))) (w.alloc (.cells cs ty))) : wpList P ops Q (o :: rest) a w :=
  wpList_plain hgd fun _ hK => by
    unfold Oper.wp execOp
    simp only [ho, Sem.run_bind, Sem.run_pure, Result.andThen_ok, run_alloc_Blk ty cs hz]
    exact hK _ _ h

/-- What holds, and what holds of the variable once it is made. -/
def SA (S : World → Prop) (T : Nat → World → Prop) (og : Option Nat) (w : World) : Prop := S w ∧ ∀ g, og = some g → T g w
theorem Makes.blk {o : Oper} {a : Act} (hwant : Region.wanted o (yielded ops a.tmps) = true) (ty : TypeId) (ho : o.op = .alloc ty) (cs : Array Value) (hz : (P.info? ty).bind (·.zero) = some (.agg cs)) (B : Nat) (hB : ∀ w, S w → B ≤ w.heap.size)
    (hS : ∀ w, S w → S (w.alloc (.cells cs ty))) : Makes P ops (SA S fun g w => Blk w g ty cs ∧ B ≤ g) o a :=
  ⟨hwant, fun w hw => ⟨w.heap.size, w.alloc (.cells cs ty), by unfold execOp; simp only [ho, Sem.run_bind, Sem.run_pure, Result.andThen_ok, run_alloc_Blk ty cs hz], hS w hw.1, fun g e => by
    obtain rfl := Option.some.inj e
    exact ⟨Blk.new _ _ _, hB w hw.1⟩⟩⟩
/-- An operation whose value hangs on no world, or on what S says of it. -/
theorem SureA.val {T : Nat → World → Prop} {og : Option Nat} {o : Oper} {v : Value} {a : Act} (hwant : Region.wanted o (yielded ops a.tmps) = true) (h : ∀ w, S w → (execOp a.eval o).run P w = .ok (.value v) w) : Sure P ops (SA S T og) o v a :=
  Sure.val hwant fun w hw => h w hw.1
theorem SureA.call {ty : TypeId} {cs : Array Value} {B : Nat} {og : Option Nat} {o : Oper} {v : Value} {a : Act} {f : FuncId} {args : Array Value} (hwant : Region.wanted o (yielded ops a.tmps) = true) (hr : ∀ w, (execOp a.eval o).run P w = .ok (.enter f args) w)
    (h : ∀ w, S w → Calls P f args w fun e w' => e = .returned v ∧ Below w.heap.size w w' ∧ S w') : Sure P ops (SA S (fun g w => Blk w g ty cs ∧ B ≤ g) og) o v a :=
  Sure.call hwant hr fun w hw => (h w hw.1).mono fun _ _ ⟨he, hb, hs⟩ => ⟨he, hs, fun g e => ⟨(hw.2 g e).1.below hb (hw.2 g e).1.lt, (hw.2 g e).2⟩⟩
/-- The last operation of a region that has made a variable: it is stored. -/
theorem SeqG.store_Blk {SS : Option Nat → World → Prop} {o : Oper} {A : Nat → Act} (hwant : ∀ g, Region.wanted o (yielded ops (A g).tmps) = true) (ty : TypeId) (x y : Operand) (ho : o.op = .store ty x y)
    (hx : ∀ g, (A g).eval x = .pointer (some ⟨g, 0, none⟩)) (t : TypeId) (old cells : Array Value) (hy : ∀ g, (A g).eval y = .agg cells) (hg : ∀ g w, SS (some g) w → Blk w g t old) (hi : (P.info? ty).map (·.size) = some cells.size) (hold : old.size = cells.size) (h1 : cells.all (·.oneCell') = true)
    (h : ∀ g w, SS (some g) w → Q .normal ((A g).put o.dst undef) (w.setRow g cells)) : SeqG P ops Q SS [o] A true :=
  SeqG.last hwant fun g w hS => wp_store_row ty x y ho g cells (hx g) (hy g) t old (hg g w hS) hi hold h1 (h g w hS)
theorem wpList_load_Part {rest : List Oper} {op : Oper} {a : Act} (hgd : op.guard = none) (ty : TypeId) (x : Operand) (ho : op.op = .load ty x)
    (g o : Nat) (hx : a.eval x = .pointer (some ⟨g, o, none⟩)) (k : Nat) (f : Nat → UInt8) (e : TypeId) (hr : w.rangeAt g o (row k f).toList) (hu : P.underlying ty = some (.array k e)) (hi : (P.info? ty).map (·.size) = some k)
    (h : wpList P ops Q rest (a.put op.dst (.agg (row k f))) w) : wpList P ops Q (op :: rest) a w :=
  wpList_plain hgd fun _ hK => by
    unfold Oper.wp execOp
    simp only [ho, hx, Sem.run_bind, Sem.run_pure, Result.andThen_ok, run_load_Part w ty e g o k f hr hu hi]
    exact hK _ _ h
end
end Go.Proofs.YtajifdnfibojfaaDoor

namespace Go.Proofs.YtajifdnfibojfaaDoor
open Go Go.RowKit Go.Shelf
set_option maxRecDepth 100000
attribute [local go_sem] Oper.semAt_some

/-- The offset, and the whole blocks come to, behind a part. -/
def wkStep (st dl : Nat → UInt8) (n i : Nat) (s : (Nat → UInt8) × Nat) : (Nat → UInt8) × Nat :=
  if plen n i < 16 then (added s.1 st, s.2) else (added s.1 (dbls (Lib.ctz 64 (s.2 + 1) + 1) dl), s.2 + 1)
theorem wkStep_le (st dl : Nat → UInt8) (n i : Nat) (s : (Nat → UInt8) × Nat) : (wkStep st dl n i s).2 ≤ s.2 + 1 := by
  unfold wkStep
  split <;> simp
theorem goTo_at (K : Value) (st dl : Nat → UInt8) (s : (Nat → UInt8) × Nat) (gw b off n i : Nat) (w : World) (hw : Blk w gw 39 (wkRow K st dl s.1 s.2)) (hbl : s.2 < 9223372036854775808) (hT : DeB w) (hg : 2 < gw) :
    Calls Tryd.prog 26 #[.pointer (some ⟨gw, 0, none⟩), partV b off n i] w fun e w' => e = .returned (.tuple #[]) ∧ Blk w' gw 39 (wkRow K st dl (wkStep st dl n i s).1 (wkStep st dl n i s).2) ∧ Beside gw w w' := by
  unfold partV
  by_cases h : plen n i < 16
  · have e : wkStep st dl n i s = (added s.1 st, s.2) := by unfold wkStep; rw [if_pos h]
    rw [e]
    exact goTo_part K st dl s.1 s.2 gw _ _ _ w h hw
  · have e : wkStep st dl n i s = (added s.1 (dbls (Lib.ctz 64 (s.2 + 1) + 1) dl), s.2 + 1) := by unfold wkStep; rw [if_neg h]
    have h16 : plen n i = 16 := by unfold plen at h ⊢; omega
    rw [e, h16]
    exact goTo_whole K st dl s.1 s.2 gw _ _ w hw hbl hT hg

/-- The hash of parts. -/
def hashStep (E : (Nat → UInt8) → Nat → UInt8) (st dl : Nat → UInt8) (n : Nat) (f : Nat → UInt8) (s : ((Nat → UInt8) × Nat) × (Nat → UInt8)) (i : Nat) : ((Nat → UInt8) × Nat) × (Nat → UInt8) :=
  (wkStep st dl n i s.1, added s.2 (E (added (partB n f i) (wkStep st dl n i s.1).1)))
def hashTo (E : (Nat → UInt8) → Nat → UInt8) (st dl : Nat → UInt8) (n : Nat) (f : Nat → UInt8) (l : List Nat) : ((Nat → UInt8) × Nat) × (Nat → UInt8) := l.foldl (hashStep E st dl n f) ((fun _ => 0, 0), fun _ => 0)
theorem hashTo_snoc (E : (Nat → UInt8) → Nat → UInt8) (st dl : Nat → UInt8) (n : Nat) (f : Nat → UInt8) (l : List Nat) (i : Nat) : hashTo E st dl n f (l ++ [i]) = hashStep E st dl n f (hashTo E st dl n f l) i := by simp [hashTo]
theorem hash_le (E : (Nat → UInt8) → Nat → UInt8) (st dl : Nat → UInt8) (n : Nat) (f : Nat → UInt8) : ∀ (l : List Nat) (s : ((Nat → UInt8) × Nat) × (Nat → UInt8)), (l.foldl (hashStep E st dl n f) s).1.2 ≤ s.1.2 + l.length
  | [], _ => Nat.le_refl _
  | i :: l, s => by
    have h := hash_le E st dl n f l (hashStep E st dl n f s i)
    have h2 : (hashStep E st dl n f s i).1.2 ≤ s.1.2 + 1 := wkStep_le _ _ _ _ _
    simp only [List.foldl_cons, List.length_cons]
    omega
theorem hashTo_le (E : (Nat → UInt8) → Nat → UInt8) (st dl : Nat → UInt8) (n : Nat) (f : Nat → UInt8) (l : List Nat) : (hashTo E st dl n f l).1.2 ≤ l.length := by
  have h := hash_le E st dl n f l ((fun _ => 0, 0), fun _ => 0)
  simpa [hashTo] using h

theorem zeroWk : (Tryd.prog.info? 39).bind (·.zero) = some (.agg (wkRow (.slice none 0 0) (fun _ => 0) (fun _ => 0) (fun _ => 0) 0)) := by kernel_rfl
theorem sizeWk : (Tryd.prog.info? 39).map (·.size) = some 50 := by kernel_rfl
theorem undWk : (Tryd.prog.underlying 39).map (·.isRow) = some true := by kernel_rfl
theorem wk_one (A : Option Addr) (n c : Nat) (st dl of : Nat → UInt8) (bl : Nat) : (wkRow (.slice A n c) st dl of bl).all (·.oneCell') = true := by
  rw [wkRow, Array.all_append, Array.all_append, mk_one, row_one]
  simp [Value.oneCell']
theorem wk_built (A : Option Addr) (n c : Nat) (st dl : Nat → UInt8) : Tryd.prog.built 39 [(0, .agg (mkRow (.slice A n c) st dl))] = some (wkRow (.slice A n c) st dl (fun _ => 0) 0) := by kernel_rfl

set_option maxHeartbeats 4000000 in
theorem hash_c (A A2 : Option Addr) (n c m c2 : Nat) (E D : (Nat → UInt8) → Nat → UInt8) (st dl f : Nat → UInt8) (w : World) (hcap : Cap A n c E D w) (hT : DeB w) (hg : 2 < w.heap.size) (hb : Bts w A2 m c2 f) (hc : m ≤ 140737488355328) :
    Calls Tryd.prog 30 #[.agg (mkRow (.slice A n c) st dl), .slice A2 m c2] w fun e w' => e = .returned (.agg (row 16 (hashTo E st dl m f (List.range ((m + 15) / 16))).2)) ∧ Below w.heap.size w w' := by
  have hA : ∃ b off, 0 < m → A2 = some ⟨b, off, none⟩ ∧ ∀ j, j < m → w.cell? ⟨b, off + j, none⟩ = some (.int .u8 ((f j).toNat : Int)) := by
    by_cases h : 0 < m
    · obtain ⟨b, off, h1, h2⟩ := hb.1 h
      exact ⟨b, off, fun _ => ⟨h1, h2⟩⟩
    · exact ⟨0, 0, fun h' => absurd h' h⟩
  obtain ⟨b, off, hA⟩ := hA
  have hnc := hb.2.2
  have HA := Lib.hid hA
  have HC := Lib.hid hcap
  clear hb hA hcap
  have hcl : ∀ W', Below w.heap.size w W' → 0 < m → ∀ j, j < m → W'.cell? ⟨b, off + j, none⟩ = some (.int .u8 ((f j).toNat : Int)) := fun W' h h0 j hj => by
    have hj' := (HA.out h0).2 j hj
    exact (h.cell (p := ⟨b, off + j, none⟩) (block_lt_of_cell hj')).trans hj'
  refine (callsIn_wide (n := 3)).1 ?_
  refine callsIn_of_wp_marks Tryd.func30 rfl trivial ?_ rfl
  simp only [Tryd.ntmps30, List.size_toArray, List.length_cons, List.length_nil, Nat.reduceAdd, Nat.reduceSub, Array.replicate_succ, Array.replicate_zero, List.push_toArray, List.append_toArray, List.nil_append, List.cons_append]
  refine wpIn_wide.2 ?_
  go_upto_region 1 with (fail)
  rw [zero16]
  have hm : Blk ((w.alloc (.cells (mkRow (.slice A n c) st dl) 34)).alloc (.cells (row 16 fun _ => 0) 32)) w.heap.size 34 (mkRow (.slice A n c) st dl) := (Blk.new w _ _).alloc _
  have hz := Row.new (w.alloc (.cells (mkRow (.slice A n c) st dl) 34)) 32 16 (fun _ => 0)
  have hbel : Below w.heap.size w ((w.alloc (.cells (mkRow (.slice A n c) st dl) 34)).alloc (.cells (row 16 fun _ => 0) 32)) := ((Below.refl _ _).alloc (Nat.le_refl _) _).alloc (by simp) _
  have hs1 : ((w.alloc (.cells (mkRow (.slice A n c) st dl) 34)).alloc (.cells (row 16 fun _ => 0) 32)).heap.size = w.heap.size + 1 + 1 := by simp
  simp only [World.size_alloc] at hz
  revert hm hz hbel hs1
  generalize (w.alloc (.cells (mkRow (.slice A n c) st dl) 34)).alloc (.cells (row 16 fun _ => 0) 32) = w1
  intro hm hbel hs1 hz
  go_step
  refine wpList_load_Blk rfl 34 _ rfl w.heap.size rfl 34 _ hm undMk (by rw [mk_size]; exact sizeMk) ?_
  simp only [Act.put, List.setIfInBounds_toArray, List.set_cons_zero, List.set_cons_succ]
  refine wpList_build rfl 39 _ rfl _ _ (by simp only [List.map_toArray, List.map_cons, List.map_nil]; rfl) (wk_built A n c st dl) ?_
  simp only [Act.put, List.setIfInBounds_toArray, List.set_cons_zero, List.set_cons_succ]
  refine wpList_alloc_Blk rfl 39 rfl _ zeroWk ?_
  simp only [Act.put, List.setIfInBounds_toArray, List.set_cons_zero, List.set_cons_succ]
  refine wpList_store_row rfl 39 _ _ rfl w1.heap.size (wkRow (.slice A n c) st dl (fun _ => 0) 0) rfl rfl 39 _ (Blk.new _ _ _) (by rw [wk_size]; exact sizeWk) (by rw [wk_size, wk_size]) (wk_one A n c st dl _ 0) ?_
  rw [hs1]
  have hk := (Blk.new w1 39 (wkRow (.slice none 0 0) (fun _ => 0) (fun _ => 0) (fun _ => 0) 0)).setRow (wkRow (.slice A n c) st dl (fun _ => 0) 0)
  have hm := (hm.alloc (.cells (wkRow (.slice none 0 0) (fun _ => 0) (fun _ => 0) (fun _ => 0) 0) 39)).setRow_far (k := w1.heap.size) (by omega) (wkRow (.slice A n c) st dl (fun _ => 0) 0)
  have hz := (hz.alloc (.cells (wkRow (.slice none 0 0) (fun _ => 0) (fun _ => 0) (fun _ => 0) 0) 39)).setRow_far (k := w1.heap.size) (by omega) (wkRow (.slice A n c) st dl (fun _ => 0) 0)
  have hbel := below_setRow8 (k := w1.heap.size) (hbel.alloc hbel.size (.cells (wkRow (.slice none 0 0) (fun _ => 0) (fun _ => 0) (fun _ => 0) 0) 39)) hbel.size (wkRow (.slice A n c) st dl (fun _ => 0) 0)
  have hs2 : ((w1.alloc (.cells (wkRow (.slice none 0 0) (fun _ => 0) (fun _ => 0) (fun _ => 0) 0) 39)).setRow w1.heap.size (wkRow (.slice A n c) st dl (fun _ => 0) 0)).heap.size = w.heap.size + 1 + 1 + 1 := by simp [World.setRow, hs1]
  rw [hs1] at hk hm hz hbel hs2
  revert hm hz hbel hk hs2
  clear hm hbel hz
  generalize (w1.alloc (.cells (wkRow (.slice none 0 0) (fun _ => 0) (fun _ => 0) (fun _ => 0) 0) 39)).setRow (w.heap.size + 1 + 1) (wkRow (.slice A n c) st dl (fun _ => 0) 0) = w2
  intro hk hm hz hbel hs2
  clear hs1
  simp only [Act.put]
  go_upto_region 3 with (fail)
  rw [zero16]
  have hh := (((Row.new w2 32 16 (fun _ => 0)).alloc (.cells #[.slice A2 m c2] 22)).alloc (.cells #[.int .i64 16] 3))
  have h1 := (Blk.new (w2.alloc (.cells (row 16 fun _ => 0) 32)) 22 #[.slice A2 m c2]).alloc (.cells #[.int .i64 16] 3)
  have h2 := Blk.new ((w2.alloc (.cells (row 16 fun _ => 0) 32)).alloc (.cells #[.slice A2 m c2] 22)) 3 #[.int .i64 16]
  have hk := ((hk.alloc (.cells (row 16 fun _ => 0) 32)).alloc (.cells #[.slice A2 m c2] 22)).alloc (.cells #[.int .i64 16] 3)
  have hm := ((hm.alloc (.cells (row 16 fun _ => 0) 32)).alloc (.cells #[.slice A2 m c2] 22)).alloc (.cells #[.int .i64 16] 3)
  have hz := ((hz.alloc (.cells (row 16 fun _ => 0) 32)).alloc (.cells #[.slice A2 m c2] 22)).alloc (.cells #[.int .i64 16] 3)
  have hbel := ((hbel.alloc hbel.size (.cells (row 16 fun _ => 0) 32)).alloc (by simp; omega) (.cells #[.slice A2 m c2] 22)).alloc (by simp; omega) (.cells #[.int .i64 16] 3)
  simp only [World.size_alloc, hs2] at hh h1 h2
  go_wp2_with (first | (go_at_call 25; refine (chunk_c _ _ _ _).mono ?_; rintro e w' ⟨rfl, hw⟩; have hw := hw.symm; subst hw))
  revert hk hm hz hbel hh h1 h2
  clear hk hm hz hbel
  generalize ((w2.alloc (.cells (row 16 fun _ => 0) 32)).alloc (.cells #[.slice A2 m c2] 22)).alloc (.cells #[.int .i64 16] 3) = w3
  intro hk hm hz hbel hh h1 h2
  have hw3 : w.heap.size + 1 + 1 + 1 + 1 + 1 < w3.heap.size := h2.lt
  refine (wpIn_wide (n := 3)).1 ?_
  refine wpIn_rangeFunc_ownG (α := Parts m) rfl (by omega) (gf := 39) (lb := #[.pointer (some ⟨w.heap.size + 1 + 1 + 1 + 1, 0, none⟩), .pointer (some ⟨w.heap.size + 1 + 1 + 1 + 1 + 1, 0, none⟩)]) rfl trivial (enters_of Tryd.func39 (by kernel_rfl) rfl)
    (chunk_stops 2 (w.heap.size + 1 + 1 + 1 + 1) b off m c2 A2 w3 (by omega) (fun h => (HA.out h).1) hnc hc h1 h2) (fun h k => h.trans k)
    (fun W l o o' hl _ _ _ => ⟨World.putObj_heap_other (by omega), World.putObj_heap_other (by omega)⟩) (Below.refl _ _) (fun _ => rfl)
    (fun pre W => (Blk W (w.heap.size + 1 + 1) 39 (wkRow (.slice A n c) st dl (hashTo E st dl m f (pre.map (·.1))).1.1 (hashTo E st dl m f (pre.map (·.1))).1.2) ∧ Blk W w.heap.size 34 (mkRow (.slice A n c) st dl) ∧ Row W (w.heap.size + 1) 32 16 (fun _ => 0) ∧ Row W (w.heap.size + 1 + 1 + 1) 32 16 (hashTo E st dl m f (pre.map (·.1))).2 ∧ w3.heap.size ≤ W.heap.size) ∧ Below w.heap.size w W)
    (fun _ _ _ => False)
    (OwnFrom.and (Own.from (fun s A B row hs hg hr => ⟨hs.1.kept hg hr, hs.2.1.kept hg hr, hs.2.2.1.kept hg hr, hs.2.2.2.1.kept hg hr, Nat.le_trans hs.2.2.2.2 hg.size⟩) _) (ownFrom_below (Nat.le_refl _) (by omega)))
    (fun _ _ _ _ _ hs _ _ => hs)
    ⟨⟨hk, hm, hz, hh, Nat.le_refl _⟩, hbel⟩
    (fun x => { tmps := #[.agg (mkRow (.slice A n c) st dl), .slice A2 m c2, .pointer (some ⟨w.heap.size, 0, none⟩), undef, .pointer (some ⟨w.heap.size + 1, 0, none⟩), .pointer (some ⟨w.heap.size + 1 + 1, 0, none⟩), .pointer (some ⟨w.heap.size + 1 + 1 + 1, 0, none⟩), partV b off m x.1, .agg (mkRow (.slice A n c) st dl), .agg (wkRow (.slice A n c) st dl (fun _ => 0) 0), .slice A2 m c2, .func (.func 39) #[] #[.pointer (some ⟨w.heap.size + 1 + 1 + 1 + 1, 0, none⟩), .pointer (some ⟨w.heap.size + 1 + 1 + 1 + 1 + 1, 0, none⟩)], partV b off m x.1, undef, undef, undef, undef, undef, undef, undef, undef, undef, undef, undef, undef], defers := [] }) ?assign ?body ?done ?stop
  case assign =>
    intro l x W K hK
    gi_wp2
    exact hK
  case body =>
    rintro l pre x W ⟨⟨hk, hm, hz, hh, hle⟩, hB⟩ hlen
    have hsd : Side w3.heap.size (w.heap.size + 1 + 1 + 1 + 1) W W := Side.refl (by omega)
    obtain ⟨s, hs⟩ : ∃ s, s = hashTo E st dl m f (pre.map (·.1)) := ⟨_, rfl⟩
    have hbl : s.1.2 < 9223372036854775808 := by
      have h := hashTo_le E st dl m f (pre.map (·.1))
      rw [List.length_map, ← hs] at h
      omega
    rw [← hs] at hk hh
    obtain ⟨s1, hs1⟩ : ∃ s1, s1 = wkStep st dl m x.1 s.1 := ⟨_, rfl⟩
    obtain ⟨X, hX⟩ : ∃ X, X = partB m f x.1 := ⟨_, rfl⟩
    obtain ⟨Y, hY⟩ : ∃ Y, Y = added X s1.1 := ⟨_, rfl⟩
    obtain ⟨Z, hZ⟩ : ∃ Z, Z = E Y := ⟨_, rfl⟩
    obtain ⟨V, hV⟩ : ∃ V, V = added s.2 Z := ⟨_, rfl⟩
    have hs2 : hashTo E st dl m f ((pre ++ [x]).map (·.1)) = (s1, V) := by rw [List.map_append, hV, hZ, hY, hX, hs1, hs]; exact hashTo_snoc _ _ _ _ _ _ _
    have HX := Lib.hid hX
    have HY := Lib.hid hY
    have HZ := Lib.hid hZ
    have HV := Lib.hid hV
    have HS1 := Lib.hid hs1
    have HS2 := Lib.hid hs2
    clear hX hY hZ hV hs1 hs2 hs
    refine wpIn_block ?_
    refine wpIn_seq ?_
    refine region_in (by kernel_rfl) fun K hK => ?_
    go_wp2_with (first | (go_at_fn 26))
    refine (goTo_at (.slice A n c) st dl s.1 (w.heap.size + 1 + 1) b off m x.1 W hk hbl (hT.below hB hg) (by omega)).mono ?_
    rintro e W2 ⟨rfl, hk2, hbes⟩
    rw [← HS1.out] at hk2
    have hm2 : Blk W2 w.heap.size 34 (mkRow (.slice A n c) st dl) := (hbes.2 _ hm.lt (by omega)).trans hm
    have hz2 : Row W2 (w.heap.size + 1) 32 16 (fun _ => 0) := (hbes.2 _ hz.lt (by omega)).trans hz
    have hh2 : Row W2 (w.heap.size + 1 + 1 + 1) 32 16 s.2 := (hbes.2 _ hh.lt (by omega)).trans hh
    have hB2 : Below w.heap.size w W2 := hB.trans (hbes.1.mono (by omega))
    have hsd2 := hsd.other hk (by omega) (by omega) hbes.1.size (fun k h1 h2 => hbes.2 k h1 h2)
    clear hk hm hz hh hB hsd hbes
    go_wp2
    refine hK _ _ ?_
    refine region_seq_in (fun W' => (Blk W' (w.heap.size + 1 + 1) 39 (wkRow (.slice A n c) st dl s1.1 s1.2) ∧ Blk W' w.heap.size 34 (mkRow (.slice A n c) st dl) ∧ Row W' (w.heap.size + 1) 32 16 (fun _ => 0) ∧ Row W' (w.heap.size + 1 + 1 + 1) 32 16 s.2) ∧ Below w.heap.size w W' ∧ Side w3.heap.size (w.heap.size + 1 + 1 + 1 + 1) W W') mixedOrders (by kernel_rfl) (by kernel_rfl) (by simp) ⟨⟨hk2.drew, hm2.drew, hz2.drew, hh2.drew⟩, hB2.drew, hsd2.drew⟩ ?_
    clear hk2 hm2 hz2 hh2 hB2 hsd2 hK
    have keep : ∀ w' w'' : World, (Blk w' (w.heap.size + 1 + 1) 39 (wkRow (.slice A n c) st dl s1.1 s1.2) ∧ Blk w' w.heap.size 34 (mkRow (.slice A n c) st dl) ∧ Row w' (w.heap.size + 1) 32 16 (fun _ => 0) ∧ Row w' (w.heap.size + 1 + 1 + 1) 32 16 s.2) ∧ Below w.heap.size w w' ∧ Side w3.heap.size (w.heap.size + 1 + 1 + 1 + 1) W w' → Below w'.heap.size w' w'' →
        (Blk w'' (w.heap.size + 1 + 1) 39 (wkRow (.slice A n c) st dl s1.1 s1.2) ∧ Blk w'' w.heap.size 34 (mkRow (.slice A n c) st dl) ∧ Row w'' (w.heap.size + 1) 32 16 (fun _ => 0) ∧ Row w'' (w.heap.size + 1 + 1 + 1) 32 16 s.2) ∧ Below w.heap.size w w'' ∧ Side w3.heap.size (w.heap.size + 1 + 1 + 1 + 1) W w'' :=
      fun w' w'' hS h => ⟨⟨hS.1.1.below h hS.1.1.lt, hS.1.2.1.below h hS.1.2.1.lt, hS.1.2.2.1.below h hS.1.2.2.1.lt, hS.1.2.2.2.below h hS.1.2.2.2.lt⟩, hS.2.1.trans (h.mono hS.2.1.size), hS.2.2.below h⟩
    refine Seq.next (.agg (row 16 s.2)) (Sure.load_Row rfl 32 _ rfl (w.heap.size + 1 + 1 + 1) rfl 32 16 _ _ (fun w' hS => hS.1.2.2.2) und16 size16) ?_
    simp only [Act.put, List.setIfInBounds_toArray, List.set_cons_zero, List.set_cons_succ]
    refine Seq.next (.agg (mkRow (.slice A n c) st dl)) (Sure.load_Struct rfl 34 _ rfl w.heap.size 0 rfl (mkRow (.slice A n c) st dl) (fun w' hS => hS.1.2.1.whole) undMk (by rw [mk_size]; exact sizeMk)) ?_
    simp only [Act.put, List.setIfInBounds_toArray, List.set_cons_zero, List.set_cons_succ]
    refine Seq.next ?_ (Sure.val rfl (fun w' hS => ?_)) ?_
    rotate_left 1
    · clear hS
      go_simp
      rfl
    simp only [Act.put, List.setIfInBounds_toArray, List.set_cons_zero, List.set_cons_succ]
    refine Seq.next (.agg (row 16 X)) (Sure.call (f := 44) (args := #[partV b off m x.1]) rfl (fun w' => by go_simp) (fun w' hS => (opadded_part b off m x.1 f w' x.2 (hcl w' hS.2.1 (by have := x.2; omega))).mono fun e w'' h => ⟨by rw [HX.out]; exact h.1, keep w' w'' hS h.2⟩)) ?_
    simp only [Act.put, List.setIfInBounds_toArray, List.set_cons_zero, List.set_cons_succ]
    refine Seq.next ?_ (Sure.val rfl (fun w' hS => ?_)) ?_
    rotate_left 1
    · clear hS
      go_simp
      rfl
    simp only [Act.put, List.setIfInBounds_toArray, List.set_cons_zero, List.set_cons_succ]
    refine Seq.next (.agg (row 16 s1.1)) (Sure.load_Part rfl 32 _ rfl (w.heap.size + 1 + 1) 33 rfl 16 s1.1 _ (fun w' hS => hS.1.1.range 33 16 s1.1 fun j hj => wkRow_of _ _ _ _ _ j hj) und16 size16) ?_
    simp only [Act.put, List.setIfInBounds_toArray, List.set_cons_zero, List.set_cons_succ]
    refine Seq.next (.agg (row 16 Y)) (Sure.call (f := 27) (args := #[.agg (row 16 X), .agg (row 16 s1.1)]) rfl (fun w' => by go_simp) (fun w' hS => (xored_c X s1.1 w').mono fun e w'' h => ⟨by rw [HY.out]; exact h.1, keep w' w'' hS h.2⟩)) ?_
    simp only [Act.put, List.setIfInBounds_toArray, List.set_cons_zero, List.set_cons_succ]
    refine Seq.next (.agg (row 16 Z)) (Sure.call (f := 15) (args := #[.agg (mkRow (.slice A n c) st dl), .agg (row 16 Y)]) rfl (fun w' => by go_simp) (fun w' hS => (menc_c A n c E D st dl Y w' (HC.out.below hS.2.1)).mono fun e w'' h => ⟨by rw [HZ.out]; exact h.1, keep w' w'' hS h.2⟩)) ?_
    simp only [Act.put, List.setIfInBounds_toArray, List.set_cons_zero, List.set_cons_succ]
    refine Seq.next (.agg (row 16 V)) (Sure.call (f := 27) (args := #[.agg (row 16 s.2), .agg (row 16 Z)]) rfl (fun w' => by go_simp) (fun w' hS => (xored_c s.2 Z w').mono fun e w'' h => ⟨by rw [HV.out]; exact h.1, keep w' w'' hS h.2⟩)) ?_
    simp only [Act.put, List.setIfInBounds_toArray, List.set_cons_zero, List.set_cons_succ]
    refine Seq.store_Row rfl 32 _ _ rfl (w.heap.size + 1 + 1 + 1) rfl 32 16 s.2 V rfl (fun w' hS => hS.1.2.2.2) size16 fun w' hS => ?_
    have hsd := hS.2.2.setRow hS.1.2.2.2 (by omega) (by omega) (row 16 V)
    exact ⟨hsd.1, hsd.2.1, ⟨by rw [HS2.out]; exact hS.1.1.setRow_far (by omega) _, hS.1.2.1.setRow_far (by omega) _, hS.1.2.2.1.setRow_far (by omega) _, by rw [HS2.out]; exact hS.1.2.2.2.setRow _, Nat.le_trans hle hsd.1.size⟩, below_setRow8 hS.2.1 (by omega) _⟩
  case done =>
    rintro D ys W hD hys ⟨⟨hk, hm, hz, hh, hle⟩, hB⟩ hK
    rw [hys] at hh
    (try simp only [Exit.then, Exit.inBlock])
    go_wp2_with (first | (refine wpList_load_Row rfl 32 _ rfl (w.heap.size + 1 + 1 + 1) rfl 32 16 _ _ hh und16 size16 ?_) | (refine wpList_store_Row rfl 32 _ _ rfl (w.heap.size + 1) rfl 32 16 _ _ rfl hz size16 ?_))
    have hD0 : D ≠ w.heap.size + 1 := by omega
    have hz2 := (hz.setRow (hashTo E st dl m f (List.range ((m + 15) / 16))).2).kept (grownBy_putObj' _ D (.deferred none)) (fun r e => by cases e; exact ⟨_, (setRow_other _ _ _ _ hD0).trans hK, rfl⟩)
    refine ⟨by simp, .inl ⟨_, _, rfl, run_takeDeferred ((setRow_other _ _ _ _ hD0).trans hK), ?_⟩⟩
    exact ⟨_, results_cell_row rfl _ _ (w.heap.size + 1) _ _ (0, 0) _ rfl hz2 und16 rfl (by rw [size16, row_size]), rfl, (below_setRow8 hB (by omega) _).trans (belowK_b (w := w) (Nat.le_refl _) _ D _ _ (by omega) ((setRow_other _ _ _ _ hD0).trans hK) rfl rfl)⟩
  case stop =>
    rintro D c' pre W _ _ h _
    exact h.elim
end Go.Proofs.YtajifdnfibojfaaDoor
