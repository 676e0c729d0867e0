/- The document's ocb: a key's parts in memory; a block encrypted by it. append of one block to a list of blocks, and where the list lies then. A region that draws its order and in which some operations, one behind the other, have values that hang on the world: walked in the order of its text, those values left open. Plain theorems, over any program. The document's at: L of how many noughts a number has at its end. -/
import Derived.Test.YtajifdnfibojfaaDoorOKeepsMQB
import Derived.Laws.AppendOwn
import Derived.Great.BuildSlice
namespace Go.Proofs.YtajifdnfibojfaaDoor
open Go Go.RowKit
set_option maxRecDepth 100000

/-- The object's cells: the cipher, L*, the list of L's. -/
def obRow (gc : Nat) (st : Nat → UInt8) (v : Value) : Array Value := #[.pointer (some ⟨gc, 0, none⟩)] ++ row 16 st ++ #[v]
theorem ob_size (gc : Nat) (st : Nat → UInt8) (v : Value) : (obRow gc st v).size = 18 := by simp [obRow, row_size]
theorem ob_c (gc : Nat) (st : Nat → UInt8) (v : Value) : (obRow gc st v)[0]? = some (.pointer (some ⟨gc, 0, none⟩)) := by
  unfold obRow
  simp [Array.getElem?_append]
theorem ob_st (gc : Nat) (st : Nat → UInt8) (v : Value) (j : Nat) (hj : j < 16) : (obRow gc st v)[1 + j]? = some (by8 (st j)) := by
  unfold obRow
  have h1 : (#[Value.pointer (some ⟨gc, 0, none⟩)] ++ row 16 st).size = 17 := by simp [row_size]
  rw [Array.getElem?_append, if_pos (by omega), Array.getElem?_append, if_neg (by simp), show 1 + j - #[Value.pointer (some ⟨gc, 0, none⟩)].size = j by simp, row_get _ _ _ hj]
theorem ob_l (gc : Nat) (st : Nat → UInt8) (v : Value) : (obRow gc st v)[17]? = some v := by
  have h1 : (#[Value.pointer (some ⟨gc, 0, none⟩)] ++ row 16 st).size = 17 := by simp [row_size]
  unfold obRow
  rw [Array.getElem?_append, if_neg (by omega), h1]
  rfl
theorem ob_next (gc : Nat) (st : Nat → UInt8) (v v2 : Value) : (obRow gc st v).setIfInBounds 17 v2 = obRow gc st v2 := by
  apply Array.ext
  · simp [ob_size]
  · intro i h1 h2
    have hs : i < 18 := by simpa [ob_size] using h2
    rw [Array.getElem_setIfInBounds (by simpa using h1)]
    by_cases e : 17 = i
    · subst e
      simp only [if_true]
      have := ob_l gc st v2
      rw [Array.getElem?_eq_getElem (by rw [ob_size]; omega)] at this
      exact (Option.some.inj this).symm
    · rw [if_neg e]
      have h3 : ∀ u : Value, (obRow gc st u)[i]? = (#[Value.pointer (some ⟨gc, 0, none⟩)] ++ row 16 st)[i]? := fun u => by
        unfold obRow
        rw [Array.getElem?_append, if_pos (by simp [row_size]; omega)]
      have h4 := (h3 v).trans (h3 v2).symm
      rw [Array.getElem?_eq_getElem (by rw [ob_size]; omega), Array.getElem?_eq_getElem (by rw [ob_size]; omega)] at h4
      exact Option.some.inj h4
theorem undOb : (Tryd.prog.underlying 68).map (·.isRow) = some true := by kernel_rfl
theorem sizeOb : (Tryd.prog.info? 68).map (·.size) = some 18 := by kernel_rfl
theorem undBks : Tryd.prog.underlying 66 = some (.slice 44) := by kernel_rfl

/-- The object in block g, its list in block gl: the first k of the L's. -/
def Ob (g gc gl k cap : Nat) (st dl : Nat → UInt8) (W : World) : Prop :=
  Blk W g 68 (obRow gc st (.slice (some ⟨gl, 0, none⟩) k cap)) ∧ g ≠ gl ∧ 0 < k ∧ k ≤ cap ∧ cap ≤ maxLen ∧
    ∃ cur, W.heap[gl]? = some (.cells cur 44 (0, 0)) ∧ cur.size = cap * 16 ∧ ∀ j, j < k → ∀ i, i < 16 → cur[16 * j + i]? = some (by8 (dbls j dl i))
section
variable {g gc gl k cap : Nat} {st dl : Nat → UInt8} {W W' : World}
theorem Ob.ltl (h : Ob g gc gl k cap st dl W) : gl < W.heap.size := by
  obtain ⟨_, _, _, _, _, cur, h, _⟩ := h
  exact (Array.getElem?_eq_some_iff.1 h).1
theorem Ob.same (h : Ob g gc gl k cap st dl W) (h1 : W'.heap[g]? = W.heap[g]?) (h2 : W'.heap[gl]? = W.heap[gl]?) : Ob g gc gl k cap st dl W' := by
  obtain ⟨a, b, c, d, e, cur, f, s⟩ := h
  exact ⟨h1.trans a, b, c, d, e, cur, h2.trans f, s⟩
theorem Ob.below (h : Ob g gc gl k cap st dl W) (hb : Below W.heap.size W W') : Ob g gc gl k cap st dl W' := h.same (hb.block g h.1.lt) (hb.block gl h.ltl)
theorem Ob.drew (h : Ob g gc gl k cap st dl W) : Ob g gc gl k cap st dl W.drew := h
theorem Ob.setRow_far (h : Ob g gc gl k cap st dl W) {x : Nat} (h1 : x ≠ g) (h2 : x ≠ gl) (cs : Array Value) : Ob g gc gl k cap st dl (W.setRow x cs) := h.same (setRow_other _ _ _ _ (Ne.symm h1)) (setRow_other _ _ _ _ (Ne.symm h2))
theorem Ob.alloc (h : Ob g gc gl k cap st dl W) (o : Obj) : Ob g gc gl k cap st dl (W.alloc o) := h.below ((Below.refl _ _).alloc (Nat.le_refl _) _)
theorem Ob.c (h : Ob g gc gl k cap st dl W) : W.cell? ⟨g, 0, none⟩ = some (.pointer (some ⟨gc, 0, none⟩)) := (h.1.cell 0).trans (ob_c _ _ _)
theorem Ob.l (h : Ob g gc gl k cap st dl W) : W.cell? ⟨g, 17, none⟩ = some (.slice (some ⟨gl, 0, none⟩) k cap) := (h.1.cell 17).trans (ob_l _ _ _)
theorem Ob.at_ (h : Ob g gc gl k cap st dl W) (j : Nat) (hj : j < k) : W.rangeAt gl (16 * j) (row 16 (dbls j dl)).toList := by
  obtain ⟨_, _, _, _, _, cur, f, _, hc⟩ := h
  intro i v hv
  have hi : i < 16 := by
    have := (List.getElem?_eq_some_iff.1 hv).1
    simpa [row_size] using this
  rw [Array.getElem?_toList, row_get _ _ _ hi] at hv
  obtain rfl := Option.some.inj hv
  rw [cell_of_row W gl (16 * j + i) _ _ (0, 0) f]
  exact hc j hj i hi
end

set_option maxHeartbeats 2000000 in
theorem oaes_c (g gc gl k cap : Nat) (E D : (Nat → UInt8) → Nat → UInt8) (st dl a : Nat → UInt8) (w : World) (ho : Ob g gc gl k cap st dl w) (hcap : RCap gc E D w) :
    Calls Tryd.prog 32 #[.pointer (some ⟨g, 0, none⟩), .agg (row 16 a)] w fun e w' => e = .returned (.agg (row 16 (E a))) ∧ Below w.heap.size w w' := by
  have HC := Lib.hid hcap
  obtain ⟨Y, hY⟩ : ∃ Y, Y = E a := ⟨_, rfl⟩
  rw [← hY]
  have HY := Lib.hid hY
  clear hcap hY
  go_enter Tryd.func32, Tryd.ntmps32
  go_upto_region 1 with (fail)
  rw [zero16]
  have ho1 := (ho.alloc (.cells (row 16 a) 44)).alloc (.cells (row 16 fun _ => 0) 44)
  have hx := (Row.new w 44 16 a).alloc (.cells (row 16 fun _ => 0) 44)
  have hz := Row.new (w.alloc (.cells (row 16 a) 44)) 44 16 (fun _ => 0)
  have hb : Below w.heap.size w ((w.alloc (.cells (row 16 a) 44)).alloc (.cells (row 16 fun _ => 0) 44)) := ((Below.refl _ _).alloc (Nat.le_refl _) _).alloc (by simp) _
  simp only [World.size_alloc] at hz
  revert ho1 hx hz hb
  clear ho
  generalize (w.alloc (.cells (row 16 a) 44)).alloc (.cells (row 16 fun _ => 0) 44) = w1
  intro ho hx hb hz
  refine region_seq (fun W' => Ob g gc gl k cap st dl W' ∧ Row W' w.heap.size 44 16 a ∧ Row W' (w.heap.size + 1) 44 16 (fun _ => 0) ∧ Below w.heap.size w W') mixedOrders (by kernel_rfl) (by simp) ⟨ho.drew, hx.drew, hz.drew, hb.drew⟩ ?_
  clear ho hx hz hb
  refine Seq.next ?_ (Sure.val rfl (fun w' hS => ?_)) ?_
  rotate_left 1
  · have e0 := hS.1.c
    clear hS
    go_simp
    rfl
  simp only [Act.put, List.setIfInBounds_toArray, List.set_cons_zero, List.set_cons_succ]
  refine Seq.next ?_ (Sure.val rfl (fun w' hS => ?_)) ?_
  rotate_left 1
  · have e0 := hS.1.c
    clear hS
    go_simp
    rfl
  simp only [Act.put, List.setIfInBounds_toArray, List.set_cons_zero, List.set_cons_succ]
  refine Seq.next ?_ (Sure.val rfl (fun w' hS => ?_)) ?_
  rotate_left 1
  · have e0 := hS.1.c
    clear hS
    go_simp
    rfl
  simp only [Act.put, List.setIfInBounds_toArray, List.set_cons_zero, List.set_cons_succ]
  refine Seq.next ?_ (Sure.val rfl (fun w' hS => ?_)) ?_
  rotate_left 1
  · have e0 := hS.1.c
    clear hS
    go_simp
    rfl
  simp only [Act.put, List.setIfInBounds_toArray, List.set_cons_zero, List.set_cons_succ]
  refine Seq.next (.agg (row 16 a)) (Sure.load_Row rfl 44 _ rfl w.heap.size rfl 44 16 _ _ (fun w' hS => hS.2.1) undBk sizeBk) ?_
  simp only [Act.put, List.setIfInBounds_toArray, List.set_cons_zero, List.set_cons_succ]
  refine Seq.next (.agg (row 16 Y)) (Sure.call (f := 47) (args := #[.pointer (some ⟨gc, 0, none⟩), .agg (row 16 a)]) rfl (fun w' => by go_simp) (fun w' hS => (HC.out.1 w' hS.2.2.2 a).mono fun e w'' h => ⟨by rw [HY.out]; exact h.1, hS.1.below h.2, hS.2.1.below h.2 hS.2.1.lt, hS.2.2.1.below h.2 hS.2.2.1.lt, hS.2.2.2.trans (h.2.mono hS.2.2.2.size)⟩)) ?_
  simp only [Act.put, List.setIfInBounds_toArray, List.set_cons_zero, List.set_cons_succ]
  refine Seq.store_Row rfl 44 _ _ rfl (w.heap.size + 1) rfl 44 16 _ Y rfl (fun w' hS => hS.2.2.1) sizeBk fun w' hS => ?_
  have hz5 := hS.2.2.1.setRow Y
  have hb5 := below_setRow8 hS.2.2.2 (k := w.heap.size + 1) (by omega) (row 16 Y)
  clear hS
  revert hz5 hb5
  generalize w'.setRow (w.heap.size + 1) (row 16 Y) = W5
  intro hz5 hb5
  go_wp2
  exact ret_Row rfl rfl _ _ 16 _ _ rfl hz5 undBk sizeBk ⟨rfl, hb5⟩
end Go.Proofs.YtajifdnfibojfaaDoor

namespace Go.Proofs.YtajifdnfibojfaaDoor
open Go Go.RowKit
set_option maxRecDepth 100000

theorem infoBk' : (Tryd.prog.info? 44).map (fun i => (i.zero, i.size, i.bytes)) = some (some (.agg (row 16 fun _ => 0)), 16, 16) := by kernel_rfl

theorem run_append_ob (w : World) (ty : TypeId) (g k cap : Nat) (cur : Array Value) (hg : w.heap[g]? = some (.cells cur 44 (0, 0))) (hk : k ≤ cap) (hcap : cap ≤ maxLen) (hcs : cur.size = cap * 16)
    (a : Addr) (X : Nat → UInt8) (hX : ∀ j, j < 16 → w.cell? (a.add j) = some (by8 (X j))) (hk1 : k + 1 ≤ 1000000) :
    ∃ g2 cap2 w2 cur2, (Builtin.append_ #[66, 66] ty #[.slice (some ⟨g, 0, none⟩) k cap, .slice (some a) 1 1]).run Tryd.prog w = .ok (.slice (some ⟨g2, 0, none⟩) (k + 1) cap2) w2 ∧ (g2 = g ∨ g2 = w.heap.size) ∧ w.grownBy w2 (some g) ∧
      w2.heap[g2]? = some (.cells cur2 44 (0, 0)) ∧ cur2.size = cap2 * 16 ∧ k + 1 ≤ cap2 ∧ cap2 ≤ maxLen ∧ (g2 ≠ g → w2.heap[g]? = w.heap[g]?) ∧ (∀ i, i < k * 16 → cur2[i]? = cur[i]?) ∧ ∀ i, i < 16 → cur2[k * 16 + i]? = some (by8 (X i)) := by
  obtain ⟨i0, hi, hz0, hz1, hz2⟩ := info_parts infoBk'
  have hl : (row 16 X).toList.length = 1 * i0.size := by rw [hz1, Array.length_toList, row_size]
  have hnews : ∀ j u, (row 16 X).toList[j]? = some u → w.cell? (a.add j) = some u := fun j u hu => by
    have hj : j < 16 := by
      have := (List.getElem?_eq_some_iff.1 hu).1
      simpa [row_size] using this
    rw [Array.getElem?_toList, row_get _ _ _ hj] at hu
    obtain rfl := Option.some.inj hu
    exact hX j hj
  have h1 : ∀ u ∈ (row 16 X).toList, u.oneCell' = true := fun u hu => Array.all_eq_true_iff_forall_mem.1 (row_one 16 X) u (by simpa using hu)
  have hn16 : (row 16 X).toList.length = 16 := by rw [Array.length_toList, row_size]
  by_cases hroom : k + 1 ≤ cap
  · have hfit : k * i0.size + (row 16 X).toList.length ≤ cur.size := by rw [hn16, hz1, hcs]; omega
    have hr := run_append_room (P := Tryd.prog) w 66 ty 44 i0 undBks hi g k cap cur hg a 1 1 (row 16 X).toList hl hnews h1 hroom hfit
    rw [hz1, hn16] at hr
    refine ⟨g, cap, _, _, hr, .inl rfl, ⟨rfl, rfl, rfl, by simp [World.setRow], fun k' _ hk' => setRow_other w g k' _ (fun e => hk' (by rw [e]))⟩, setRow_heap w g cur _ _ _ hg, ?_, hroom, hcap, fun h => absurd rfl h, fun i hi => ?_, fun i hi => ?_⟩
    · simp only [List.size_toArray, List.length_append, List.length_take, List.length_drop, Array.length_toList, row_size]
      omega
    · rw [List.getElem?_toArray, List.append_assoc, List.getElem?_append, List.length_take, Array.length_toList, if_pos (by omega), List.getElem?_take, if_pos hi, Array.getElem?_toList]
    · rw [List.getElem?_toArray, List.append_assoc, List.getElem?_append, List.length_take, Array.length_toList, if_neg (by omega), List.getElem?_append, Array.length_toList, row_size, if_pos (by omega), Array.getElem?_toList, show k * 16 + i - min (k * 16) cur.size = i by omega, row_get _ _ _ hi]
  · have hkc : k = cap := by omega
    have hlen : (cur.toList.take (k * 16)).length = k * i0.size := by rw [hz1, List.length_take, Array.length_toList]; omega
    have holds : ∀ j u, (cur.toList.take (k * 16))[j]? = some u → w.cell? ((⟨g, 0, none⟩ : Addr).add j) = some u := fun j u hu => by
      rw [Addr.add_mid, Nat.zero_add, cell_of_row w g j cur _ (0, 0) hg]
      rw [List.getElem?_take] at hu
      split at hu
      · simpa using hu
      · cases hu
    have hr := run_append_grow (P := Tryd.prog) w 66 ty 44 i0 (.agg (row 16 fun _ => 0)) undBks hi hz0 ⟨g, 0, none⟩ k cap (cur.toList.take (k * 16)) hlen holds a 1 1 (row 16 X).toList hl hnews (by omega) (by omega) (growslice_fits (by omega) (by rw [hz2]; omega))
    have hge := grownCap_ge w (k + 1) cap 44
    have hcm : grownCap w (k + 1) cap 44 ≤ maxLen := grownCap_le_maxLen w (k + 1) cap 44 (by unfold maxLen; omega)
    refine ⟨w.heap.size, _, _, _, hr, .inr rfl, ⟨rfl, rfl, rfl, by simp, fun k' hk' _ => Below.heap_alloc w.drew _ k' hk'⟩, heap_alloc_new w.drew _, ?_, hge, hcm, fun _ => Below.heap_alloc w.drew _ g (Array.getElem?_eq_some_iff.1 hg).1, fun i hi => ?_, fun i hi => ?_⟩
    · simp only [Array.size_append, List.size_toArray, size_zeroCells, List.length_take, Array.length_toList, row_size, Value.cells]
      omega
    · rw [Array.getElem?_append, Array.size_append, List.size_toArray, List.size_toArray, List.length_take, Array.length_toList, Array.length_toList, row_size, if_pos (by omega), Array.getElem?_append, List.size_toArray, List.length_take, Array.length_toList, if_pos (by omega), List.getElem?_toArray, List.getElem?_take, if_pos hi, Array.getElem?_toList]
    · rw [Array.getElem?_append, Array.size_append, List.size_toArray, List.size_toArray, List.length_take, Array.length_toList, Array.length_toList, row_size, if_pos (by omega), Array.getElem?_append, List.size_toArray, List.length_take, Array.length_toList, if_neg (by omega), List.getElem?_toArray, Array.getElem?_toList, show k * 16 + i - min (k * 16) cur.size = i by omega, row_get _ _ _ hi]
theorem exec_append_ob {o : Oper} {a : Act} {w w2 : World} (s x : Operand) (ho : o.op = .call { callee := .builtin .append, args := #[s, x], argTypes := #[66, 66] }) (u v r : Value) (hs : a.eval s = u) (hx : a.eval x = v)
    (hr : (Builtin.append_ #[66, 66] o.type #[u, v]).run Tryd.prog w = .ok r w2) : (execOp a.eval o).run Tryd.prog w = .ok (.value r) w2 := by
  unfold execOp
  simp only [ho, resolve, invoke, builtin, Sem.run_bind, Sem.run_pure, Result.andThen_ok, List.map_toArray, List.map_cons, List.map_nil, hs, hx, hr]
/-- A list of one block, made. -/
theorem run_build1 (X : Nat → UInt8) (w : World) : (Instr.buildSlice 66 1 #[(0, .agg (row 16 X))]).run Tryd.prog w = .ok (.slice (some ⟨w.heap.size, 0, none⟩) 1 1) (w.alloc (.cells (row 16 X) 44)) := by
  obtain ⟨i0, hi, hz0, hz1, hz2⟩ := info_parts infoBk'
  refine run_buildSlice w 66 44 1 _ (row 16 X) i0 (.agg (row 16 fun _ => 0)) undBks hi hz0 (by rw [hz1]; omega) (by rw [hz1]; omega) ?_
  rw [hz1]
  kernel_rfl
theorem exec_build1 {o : Oper} {a : Act} {w : World} (x : Operand) (ho : o.op = .buildSlice 66 1 #[(0, x)]) (X : Nat → UInt8) (hx : a.eval x = .agg (row 16 X)) :
    (execOp a.eval o).run Tryd.prog w = .ok (.value (.slice (some ⟨w.heap.size, 0, none⟩) 1 1)) (w.alloc (.cells (row 16 X) 44)) := by
  unfold execOp
  simp only [ho, Sem.run_bind, List.map_toArray, List.map_cons, List.map_nil, hx, run_build1 X w, Result.andThen_ok, Sem.run_pure]
end Go.Proofs.YtajifdnfibojfaaDoor

namespace Go.Proofs.YtajifdnfibojfaaDoor
open Go
set_option maxRecDepth 100000

section
variable {P : Program} {ops : Array Oper} {Q : Exit → Act → World → Prop} {md : Region.Mode} {SS : Nat → (Nat → Value) → World → Prop} {isM : Nat → Bool}

/-- The values so far, and one more. -/
def upd (π : Nat → Value) (p : Nat) (v : Value) : Nat → Value := fun q => if q = p then v else π q
theorem upd_same (π : Nat → Value) (p : Nat) (v : Value) : upd π p v p = v := if_pos rfl
theorem upd_ne (π : Nat → Value) {p q : Nat} (v : Value) (h : q ≠ p) : upd π p v q = π q := if_neg h
/-- The operation's value hangs on the world. -/
def MakesX (P : Program) (ops : Array Oper) (SS : Nat → (Nat → Value) → World → Prop) (p : Nat) (π : Nat → Value) (o : Oper) (a : Act) : Prop :=
  Region.wanted o (yielded ops a.tmps) = true ∧ ∀ w, SS p π w → ∃ v w', ((execOp a.eval o).run P w = .ok (.value v) w' ∨ (v = undef ∧ (execOp a.eval o).run P w = .ok .skip w')) ∧ SS (p + 1) (upd π p v) w'
theorem MakesX.of_same {p : Nat} {π : Nat → Value} {o : Oper} {a a' : Act} (h : MakesX P ops SS p π o a) (he : execOp a'.eval o = execOp a.eval o)
    (hw : Region.wanted o (yielded ops a'.tmps) = Region.wanted o (yielded ops a.tmps)) : MakesX P ops SS p π o a' := by
  unfold MakesX at *
  rw [he, hw]
  exact h
/-- Each of them waits for those ahead of it. -/
def chained (md : Region.Mode) (ops : Array Oper) (isM : Nat → Bool) : Bool :=
  (List.range ops.size).all fun i => (List.range ops.size).all fun j => !(isM i && isM j && decide (i < j)) || (match ops[j]? with | none => true | some o => o.after.any fun e => Region.binds md e && e.on == i)
theorem chained_spec (h : chained md ops isM = true) {i j : Nat} (hi : isM i = true) (hj : isM j = true) (hij : i < j) {o : Oper} (ho : ops[j]? = some o) : ∃ e ∈ o.after, Region.binds md e = true ∧ e.on = i := by
  have hj' : j < ops.size := (Array.getElem?_eq_some_iff.1 ho).1
  have h1 := List.all_eq_true.1 (List.all_eq_true.1 h i (List.mem_range.2 (by omega))) j (List.mem_range.2 hj')
  rw [ho] at h1
  simp only [hi, hj, decide_eq_true hij, Bool.and_self, Bool.not_true, Bool.false_or, Array.any_eq_true', Bool.and_eq_true, beq_iff_eq] at h1
  obtain ⟨e, he, hb, hon⟩ := h1
  exact ⟨e, he, hb, hon⟩

def DetP (P : Program) (md : Region.Mode) (ops : Array Oper) (Q : Exit → Act → World → Prop) (SS : Nat → (Nat → Value) → World → Prop) (isM : Nat → Bool) : Nat → Array Bool → ((Nat → Value) → Act) → Nat → Prop
  | 0, L, A, p => Region.ready md ops L = [] ∧ ∀ π w, SS p π w → Q .normal (A π) w
  | n + 1, L, A, p => (Region.ready md ops L = [] → ∀ π w, SS p π w → Q .normal (A π) w) ∧ ∀ i ∈ Region.ready md ops L,
      (∃ o v, ops[i]? = some o ∧ (∀ π q, Sure P ops (SS q π) o v (A π)) ∧ DetP P md ops Q SS isM n (L.setIfInBounds i true) (fun π => (A π).put o.dst v) p) ∨
      (∃ o, ops[i]? = some o ∧ isM i = true ∧ (∀ π, MakesX P ops SS p π o (A π)) ∧ DetP P md ops Q SS isM n (L.setIfInBounds i true) (fun π => (A π).put o.dst (π p)) (p + 1)) ∨
      (i + 1 = ops.size ∧ ∃ o, ops[i]? = some o ∧ (∀ π, Region.wanted o (yielded ops (A π).tmps) = true) ∧ ∀ π w, SS p π w → o.wp P (A π) w (fun a' w' => Q .normal a' w') Q)

/-- The frame hangs on the first p values alone. -/
def Upto (A : (Nat → Value) → Act) (p : Nat) : Prop := ∀ π π', (∀ q, q < p → π q = π' q) → A π = A π'
theorem Upto.put {A : (Nat → Value) → Act} {p : Nat} (h : Upto A p) (d : Option Tmp) (v : Value) : Upto (fun π => (A π).put d v) p := fun π π' hq => by show (A π).put _ _ = (A π').put _ _; rw [h π π' hq]
theorem Upto.made {A : (Nat → Value) → Act} {p : Nat} (h : Upto A p) (d : Option Tmp) : Upto (fun π => (A π).put d (π p)) (p + 1) := fun π π' hq => by
  show (A π).put _ _ = (A π').put _ _
  rw [h π π' fun q hq' => hq q (by omega), hq p (by omega)]

theorem DetP.sound (hl : lastWaits md ops = true) : ∀ (n : Nat) (L : Array Bool) (A : (Nat → Value) → Act) (p : Nat), Upto A p → L.size = ops.size → Closed md ops L → DetP P md ops Q SS isM n L A p →
    ∀ π w, SS p π w → wpAny P md ops Q n L (A π) w := by
  intro n
  induction n with
  | zero => intro L A p _ _ _ h π w hw; exact ⟨h.1, h.2 π w hw⟩
  | succ n ih =>
    intro L A p hA hsz hc h π w hw
    refine ⟨fun h0 => h.1 h0 π w hw, fun i hi => ?_⟩
    rcases h.2 i hi with ⟨o, v, ho, hs, hd⟩ | ⟨o, ho, _, hm, hd⟩ | ⟨hi1, ol, hol, hwl, hlast⟩
    · exact (hs π p).wpOp ho hw fun w' hw' => ih _ (fun π => (A π).put o.dst v) p (hA.put _ _) (by simpa using hsz) (hc.set hi) hd π w' hw'
    · obtain ⟨hwant, hrun⟩ := hm π
      obtain ⟨v, w', he, hS'⟩ := hrun w hw
      unfold wpOp
      simp only [ho, hwant, if_true]
      left
      unfold Oper.wp
      have h2 := ih _ (fun π => (A π).put o.dst (π p)) (p + 1) (hA.made _) (by simpa using hsz) (hc.set hi) hd (upd π p v) w' hS'
      have e : (A (upd π p v)).put o.dst (upd π p v p) = (A π).put o.dst v := by rw [upd_same, hA (upd π p v) π fun q hq => upd_ne π v (by omega)]
      rw [e] at h2
      rcases he with he | ⟨rfl, he⟩
      · rw [he]
        exact h2
      · rw [he]
        exact h2
    · refine wpOp_mono (K := fun a' w' => Q .normal a' w') (fun a' w' hQ => ?_) (by unfold wpOp; simp only [hol, hwl π, if_true]; exact .inl (hlast π w hw))
      have hready : Region.ready md ops (L.setIfInBounds i true) = [] := by
        refine ready_full (by simpa using hsz) fun k hk => ?_
        by_cases hki : i = k
        · subst hki
          have : i < L.size := by omega
          simp [Array.getD, this]
        · rw [getD_set_ne true hki]
          have hh : ¬ L.getD k true = false := fun hL => lastWaits_spec hl hc (k := k) (by omega) hL (by
            have : ops.size - 1 = i := by omega
            rw [this]; exact hi)
          simpa using hh
      cases n with
      | zero => exact ⟨hready, hQ⟩
      | succ n => exact ⟨fun _ => hQ, by rw [hready]; simp⟩

/-- What is taken first may be a sure operation, or one that makes. -/
def StepP (P : Program) (ops : Array Oper) (SS : Nat → (Nat → Value) → World → Prop) (isM : Nat → Bool) (i : Nat) (o : Oper) (V : (Nat → Value) → Value) (A : (Nat → Value) → Act) (p p' : Nat) : Prop :=
  (p' = p ∧ ∃ v, (∀ π, V π = v) ∧ ∀ π q, Sure P ops (SS q π) o v (A π)) ∨ (p' = p + 1 ∧ isM i = true ∧ (∀ π, V π = π p) ∧ ∀ π, MakesX P ops SS p π o (A π))

theorem DetP.of_step {n : Nat} {L : Array Bool} {A : (Nat → Value) → Act} {p p' : Nat} {i : Nat} {o : Oper} {V : (Nat → Value) → Value} (ho : ops[i]? = some o) (h : StepP P ops SS isM i o V A p p') (hd : DetP P md ops Q SS isM n (L.setIfInBounds i true) (fun π => (A π).put o.dst (V π)) p') :
    (∃ o v, ops[i]? = some o ∧ (∀ π q, Sure P ops (SS q π) o v (A π)) ∧ DetP P md ops Q SS isM n (L.setIfInBounds i true) (fun π => (A π).put o.dst v) p) ∨
      (∃ o, ops[i]? = some o ∧ isM i = true ∧ (∀ π, MakesX P ops SS p π o (A π)) ∧ DetP P md ops Q SS isM n (L.setIfInBounds i true) (fun π => (A π).put o.dst (π p)) (p + 1)) ∨
      (i + 1 = ops.size ∧ ∃ o, ops[i]? = some o ∧ (∀ π, Region.wanted o (yielded ops (A π).tmps) = true) ∧ ∀ π w, SS p π w → o.wp P (A π) w (fun a' w' => Q .normal a' w') Q) := by
  rcases h with ⟨rfl, v, h2, h3⟩ | ⟨rfl, hM, h3, h4⟩
  · obtain rfl : V = fun _ => v := funext h2
    exact .inl ⟨o, v, ho, h3, hd⟩
  · obtain rfl : V = fun π => π p := funext h3
    exact .inr (.inl ⟨o, ho, hM, h4, hd⟩)

theorem DetP.take (hl : lastWaits md ops = true) (hch : chained md ops isM = true) {i : Nat} {oi : Oper} {V : (Nat → Value) → Value} (hi : ops[i]? = some oi) (hsel : ∀ (j : Nat) (o : Oper) cs b, ops[j]? = some o → o.op ≠ .select cs b) (hil : i + 1 < ops.size) :
    ∀ (n : Nat) (L : Array Bool) (A : (Nat → Value) → Act) (p p' : Nat), L.size = ops.size → Closed md ops L →
      (∀ j oj, ops[j]? = some oj → j ≠ i → L.getD j true = false → (∀ e ∈ oj.after, Region.binds md e = true → e.on ≠ i) → oi.apart ops oj = true) →
      i ∈ Region.ready md ops L → StepP P ops SS isM i oi V A p p' → DetP P md ops Q SS isM n (L.setIfInBounds i true) (fun π => (A π).put oi.dst (V π)) p' → DetP P md ops Q SS isM (n + 1) L A p := by
  intro n
  induction n with
  | zero =>
    intro L A p p' _ _ _ hr hs H
    refine ⟨fun h => (by rw [h] at hr; cases hr), fun j hj => ?_⟩
    by_cases hji : j = i
    · subst hji; exact DetP.of_step hi hs H
    · have := ready_mono hj hji
      rw [H.1] at this
      cases this
  | succ n ih =>
    intro L A p p' hsz hc hfree hr hs H
    refine ⟨fun h => (by rw [h] at hr; cases hr), fun j hj => ?_⟩
    by_cases hji : j = i
    · subst hji; exact DetP.of_step hi hs H
    · obtain ⟨hjun, oj, hoj, hall⟩ := mem_ready.1 hj
      have hunl : ∀ {x : Nat}, L.getD x true = false → ¬ L.getD x false = true := fun {x} h0 h1 => by
        rcases Nat.lt_or_ge x L.size with h' | h'
        · simp [h'] at h0 h1; rw [h0] at h1; cases h1
        · simp [Array.getElem?_eq_none h'] at h1
      have hnot : ∀ e ∈ oj.after, Region.binds md e = true → e.on ≠ i := fun e he hb heq => by
        have h1 := hall e he hb
        rw [heq] at h1
        exact hunl (mem_ready.1 hr).1 h1
      have hap := hfree j oj hoj hji hjun hnot
      obtain ⟨h1, h2, h3⟩ := Oper.apart_spec hap
      have hfree' : ∀ k ok, ops[k]? = some ok → k ≠ i → (L.setIfInBounds j true).getD k true = false →
          (∀ e ∈ ok.after, Region.binds md e = true → e.on ≠ i) → oi.apart ops ok = true := fun k ok hk hki hun hno => by
        refine hfree k ok hk hki ?_ hno
        by_cases hjk : j = k
        · subst hjk; exact hjun
        · rw [getD_set_ne true hjk] at hun; exact hun
      have hsame : ∀ (a : Act) (v : Value), execOp (a.put oi.dst v).eval oj = execOp a.eval oj := fun a v => execOp_put oj (fun cs b => hsel j oj cs b hoj) a oi.dst v h1
      have hsameW : ∀ (a : Act) (v : Value), Region.wanted oj (yielded ops (a.put oi.dst v).tmps) = Region.wanted oj (yielded ops a.tmps) := fun a v => wanted_put oj a oi.dst v h1
      have he : ∀ (U : (Nat → Value) → Value) (π : Nat → Value), execOp ((A π).put oj.dst (U π)).eval oi = execOp (A π).eval oi := fun U π => execOp_put oi (fun cs b => hsel i oi cs b hi) (A π) oj.dst (U π) h3
      have hw : ∀ (U : (Nat → Value) → Value) (π : Nat → Value), Region.wanted oi (yielded ops ((A π).put oj.dst (U π)).tmps) = Region.wanted oi (yielded ops (A π).tmps) := fun U π => wanted_put oi (A π) oj.dst (U π) h3
      have hcomm : ∀ (U : (Nat → Value) → Value) (p2 : Nat), DetP P md ops Q SS isM n ((L.setIfInBounds i true).setIfInBounds j true) (fun π => ((A π).put oi.dst (V π)).put oj.dst (U π)) p2 → DetP P md ops Q SS isM n ((L.setIfInBounds j true).setIfInBounds i true) (fun π => ((A π).put oj.dst (U π)).put oi.dst (V π)) p2 := fun U p2 hd => by
        rw [Array.setIfInBounds_comm _ _ hji]
        have e : (fun π => ((A π).put oj.dst (U π)).put oi.dst (V π)) = fun π => ((A π).put oi.dst (V π)).put oj.dst (U π) := funext fun π => (Act.put_comm (A π) (V π) (U π) h2).symm
        rw [e]
        exact hd
      rcases H.2 j (ready_mono hj hji) with ⟨o, u, ho, hsu, hd⟩ | ⟨o, ho, hM, hm, hd⟩ | ⟨hj1, _⟩
      · rw [hoj] at ho
        obtain rfl := Option.some.inj ho
        have hs' : StepP P ops SS isM i oi V (fun π => (A π).put oj.dst u) p p' := by
          rcases hs with ⟨a1, v, a2, a3⟩ | ⟨a1, a2, a3, a4⟩
          · exact .inl ⟨a1, v, a2, fun π q => (a3 π q).of_same (he (fun _ => u) π) (hw (fun _ => u) π)⟩
          · exact .inr ⟨a1, a2, a3, fun π => (a4 π).of_same (he (fun _ => u) π) (hw (fun _ => u) π)⟩
        exact .inl ⟨oj, u, hoj, fun π q => (hsu π q).of_same (hsame _ _).symm (hsameW _ _).symm,
          ih (L.setIfInBounds j true) _ p p' (by simpa using hsz) (hc.set hj) hfree' (ready_mono hr (Ne.symm hji)) hs' (hcomm (fun _ => u) p' hd)⟩
      · rw [hoj] at ho
        obtain rfl := Option.some.inj ho
        rcases hs with ⟨rfl, v, a2, a3⟩ | ⟨rfl, hMi, _, _⟩
        · have hs' : StepP P ops SS isM i oi V (fun π => (A π).put oj.dst (π p')) (p' + 1) (p' + 1) := .inl ⟨rfl, v, a2, fun π q => (a3 π q).of_same (he (fun π => π p') π) (hw (fun π => π p') π)⟩
          exact .inr (.inl ⟨oj, hoj, hM, fun π => (hm π).of_same (hsame _ _).symm (hsameW _ _).symm,
            ih (L.setIfInBounds j true) _ (p' + 1) (p' + 1) (by simpa using hsz) (hc.set hj) hfree' (ready_mono hr (Ne.symm hji)) hs' (hcomm (fun π => π p') (p' + 1) hd)⟩)
        · exfalso
          rcases Nat.lt_or_ge i j with hij | hij
          · obtain ⟨e, he', hb, hon⟩ := chained_spec hch hMi hM hij hoj
            exact hnot e he' hb hon
          · obtain ⟨e, he', hb, hon⟩ := chained_spec hch hM hMi (by omega) hi
            obtain ⟨_, oi', hoi', hall'⟩ := mem_ready.1 hr
            rw [hi] at hoi'
            obtain rfl := Option.some.inj hoi'
            have h5 := hall' e he' hb
            rw [hon] at h5
            exact hunl hjun h5
      · exfalso
        have hL : L.getD i true = false := (mem_ready.1 hr).1
        exact lastWaits_spec hl hc hil hL (by
          have : ops.size - 1 = j := by omega
          rw [this]; exact hj)

def SeqP (P : Program) (ops : Array Oper) (Q : Exit → Act → World → Prop) (SS : Nat → (Nat → Value) → World → Prop) (isM : Nat → Bool) : Nat → List Oper → ((Nat → Value) → Act) → Nat → Prop
  | _, [], _, _ => False
  | _, [o], A, p => (∀ π, Region.wanted o (yielded ops (A π).tmps) = true) ∧ ∀ π w, SS p π w → o.wp P (A π) w (fun a' w' => Q .normal a' w') Q
  | k, o :: rest, A, p => ∃ V p', StepP P ops SS isM k o V A p p' ∧ SeqP P ops Q SS isM (k + 1) rest (fun π => (A π).put o.dst (V π)) p'

theorem DetP.of_seq (hok : textOk md ops = true) (hch : chained md ops isM = true) : ∀ (n k : Nat) (A : (Nat → Value) → Act) (p : Nat), k + n = ops.size → 0 < n → Closed md ops (pre ops.size k) → SeqP P ops Q SS isM k (ops.toList.drop k) A p → DetP P md ops Q SS isM n (pre ops.size k) A p := by
  simp only [textOk, Bool.and_eq_true, List.all_eq_true, List.mem_range, beq_iff_eq] at hok
  obtain ⟨⟨⟨hsel, hl⟩, hall⟩, hlast⟩ := hok
  intro n
  induction n with
  | zero => intro k A p _ h; omega
  | succ n ih =>
    intro k A p hk _ hc hs
    have hkl : k < ops.size := by omega
    have hko : ops[k]? = some ops[k] := Array.getElem?_eq_getElem hkl
    rw [List.drop_eq_getElem_cons (by simpa using hkl)] at hs
    cases n with
    | zero =>
      have e : ops.toList.drop (k + 1) = [] := List.drop_eq_nil_of_le (by simp; omega)
      rw [e] at hs
      have hk1 : ops.size - 1 = k := by omega
      rw [hk1] at hlast
      refine ⟨fun h => (by rw [hlast] at h; cases h), fun i hi => ?_⟩
      rw [hlast] at hi
      obtain rfl : i = k := by simpa using hi
      obtain ⟨hwant, hrun⟩ := hs
      simp only [Array.getElem_toList] at hwant hrun
      exact .inr (.inr ⟨by omega, _, hko, hwant, hrun⟩)
    | succ n =>
      have hne : ∃ o rest, ops.toList.drop (k + 1) = o :: rest := by
        rw [List.drop_eq_getElem_cons (by simp; omega)]
        exact ⟨_, _, rfl⟩
      obtain ⟨o', rest', e⟩ := hne
      rw [e] at hs
      obtain ⟨V, p', hstep, hrest⟩ := hs
      rw [← e] at hrest
      simp only [Array.getElem_toList] at hstep hrest
      obtain ⟨hr, hf⟩ := hall k (by omega)
      refine DetP.take hl hch hko (Region.noSelect_spec hsel) (by omega) (n + 1) _ A p p' (pre_size _ _) hc (Region.free_spec hko hf) (by simpa using hr) hstep ?_
      have hc' := hc.set (i := k) (by simpa using hr)
      rw [pre_succ] at hc' ⊢
      exact ih (k + 1) _ p' (by omega) (by omega) hc' hrest

/-- A region in which the operations isM make, one behind the other. -/
theorem region_chain (SS : Nat → (Nat → Value) → World → Prop) (isM : Nat → Bool) {id : Nat} {ls : List Oper} {a : Act} {w : World} (hm : P.follows .mixedOrders = true) (hok : textOk .any ls.toArray = true) (hch : chained .any ls.toArray isM = true) (hn : ls ≠ [])
    (hS : SS 0 (fun _ => undef) w.drew) (h : SeqP P ls.toArray Q SS isM 0 ls (fun _ => a) 0) : (Code.region id ls.toArray true).wp P Q a w := by
  refine wp_region_any hm ?_
  have hlen : 0 < ls.toArray.size := by
    cases ls with
    | nil => exact absurd rfl hn
    | cons x xs => simp
  have hd := DetP.of_seq (md := .any) hok hch ls.toArray.size 0 (fun _ => a) 0 (by omega) hlen (by rw [pre_zero]; exact Closed.none _ _) (by simpa using h)
  rw [pre_zero] at hd
  have hl : lastWaits .any ls.toArray = true := by
    simp only [textOk, Bool.and_eq_true] at hok
    exact hok.1.1.2
  exact DetP.sound hl _ _ (fun _ => a) 0 (fun _ _ _ => rfl) (by simp) (Closed.none _ _) hd _ _ hS

theorem SeqP.last {k p : Nat} {o : Oper} {A : (Nat → Value) → Act} (hwant : ∀ π, Region.wanted o (yielded ops (A π).tmps) = true) (h : ∀ π w, SS p π w → o.wp P (A π) w (fun a' w' => Q .normal a' w') Q) : SeqP P ops Q SS isM k [o] A p := ⟨hwant, h⟩
theorem SeqP.next {k p : Nat} {o o' : Oper} {rest : List Oper} {A : (Nat → Value) → Act} (v : Value) (hs : ∀ π q, Sure P ops (SS q π) o v (A π)) (h : SeqP P ops Q SS isM (k + 1) (o' :: rest) (fun π => (A π).put o.dst v) p) : SeqP P ops Q SS isM k (o :: o' :: rest) A p :=
  ⟨fun _ => v, p, .inl ⟨rfl, v, fun _ => rfl, hs⟩, h⟩
/-- The operation's value hangs on the world. -/
def MakesP (P : Program) (ops : Array Oper) (SS : Nat → (Nat → Value) → World → Prop) (p : Nat) (π : Nat → Value) (o : Oper) (a : Act) : Prop :=
  Region.wanted o (yielded ops a.tmps) = true ∧ ∀ w, SS p π w → ∃ v w', (execOp a.eval o).run P w = .ok (.value v) w' ∧ SS (p + 1) (upd π p v) w'
theorem SeqP.make {k p : Nat} {o o' : Oper} {rest : List Oper} {A : (Nat → Value) → Act} (hM : isM k = true) (hs : ∀ π, MakesP P ops SS p π o (A π)) (h : SeqP P ops Q SS isM (k + 1) (o' :: rest) (fun π => (A π).put o.dst (π p)) (p + 1)) : SeqP P ops Q SS isM k (o :: o' :: rest) A p :=
  ⟨fun π => π p, p + 1, .inr ⟨rfl, hM, fun _ => rfl, fun π => ⟨(hs π).1, fun w hw => by obtain ⟨v, w', he, h2⟩ := (hs π).2 w hw; exact ⟨v, w', .inl he, h2⟩⟩⟩, h⟩
/-- A store, ahead of the last operation. -/
theorem SeqP.store {k p : Nat} {o o' : Oper} {rest : List Oper} {A : (Nat → Value) → Act} (hM : isM k = true) (hwant : ∀ π, Region.wanted o (yielded ops (A π).tmps) = true) (hs : ∀ π w, SS p π w → ∃ w', (execOp (A π).eval o).run P w = .ok .skip w' ∧ SS (p + 1) (upd π p undef) w') (h : SeqP P ops Q SS isM (k + 1) (o' :: rest) (fun π => (A π).put o.dst (π p)) (p + 1)) : SeqP P ops Q SS isM k (o :: o' :: rest) A p :=
  ⟨fun π => π p, p + 1, .inr ⟨rfl, hM, fun _ => rfl, fun π => ⟨hwant π, fun w hw => by obtain ⟨w', he, h2⟩ := hs π w hw; exact ⟨undef, w', .inr ⟨rfl, he⟩, h2⟩⟩⟩, h⟩
end
end Go.Proofs.YtajifdnfibojfaaDoor

namespace Go.Proofs.YtajifdnfibojfaaDoor
open Go Go.RowKit
set_option maxRecDepth 100000

theorem pow_odd : ∀ (n c x y : Nat), x % 2 = 1 → y % 2 = 1 → 2 ^ n * x = 2 ^ c * y → n = c
  | 0, 0, _, _, _, _, _ => rfl
  | 0, c + 1, x, y, hx, _, h => by
    rw [Nat.pow_zero, Nat.one_mul, Nat.pow_succ, Nat.mul_comm (2 ^ c) 2, Nat.mul_assoc] at h
    omega
  | n + 1, 0, x, y, _, hy, h => by
    rw [Nat.pow_zero, Nat.one_mul, Nat.pow_succ, Nat.mul_comm (2 ^ n) 2, Nat.mul_assoc] at h
    omega
  | n + 1, c + 1, x, y, hx, hy, h => by
    rw [Nat.pow_succ, Nat.pow_succ, Nat.mul_comm (2 ^ n) 2, Nat.mul_comm (2 ^ c) 2, Nat.mul_assoc, Nat.mul_assoc] at h
    rw [pow_odd n c x y hx hy (by omega)]
theorem ctz_val (n x i : Nat) (h : i = 2 ^ n * x) (hx : x % 2 = 1) (hi : i < 18446744073709551616) : Lib.ctz 64 i = n := by
  have h0 : i ≠ 0 := by
    rw [h]
    have := Nat.two_pow_pos n
    have h2 : 0 < 2 ^ n * x := Nat.mul_pos this (by omega)
    omega
  obtain ⟨m, hm, _⟩ := Lib.ctzFrom_spec 64 i (by omega) (by omega)
  have e : Lib.ctz 64 i = Lib.ctzFrom 64 i := by unfold Lib.ctz; rw [if_neg h0]
  rw [e]
  exact (pow_odd n _ x (2 * m + 1) hx (by omega) (by rw [← h, ← hm])).symm

/-- All but two blocks is as it was. -/
def Fr (g gl : Nat) (w w' : World) : Prop := Below (min g gl) w w' ∧ ∀ x, x < w.heap.size → x ≠ g → x ≠ gl → w'.heap[x]? = w.heap[x]?

theorem Fr.below {g gl : Nat} {w w1 w2 : World} (h : Fr g gl w w1) (hb : Below w1.heap.size w1 w2) (hs : g < w1.heap.size ∨ gl < w1.heap.size) : Fr g gl w w2 :=
  ⟨h.1.trans (hb.mono (by omega)), fun x hx h1 h2 => (hb.block x (Nat.lt_of_lt_of_le hx h.1.size)).trans (h.2 x hx h1 h2)⟩
/-- The list in block gl: the first k of the L's. -/
def Lst (gl k cap : Nat) (dl : Nat → UInt8) (W : World) : Prop := ∃ cur, W.heap[gl]? = some (.cells cur 44 (0, 0)) ∧ cur.size = cap * 16 ∧ ∀ j, j < k → ∀ i, i < 16 → cur[16 * j + i]? = some (by8 (dbls j dl i))
theorem Lst.below {gl k cap : Nat} {dl : Nat → UInt8} {W W' : World} (h : Lst gl k cap dl W) (hb : Below W.heap.size W W') : Lst gl k cap dl W' := by
  obtain ⟨cur, h1, h2⟩ := h
  exact ⟨cur, (hb.block gl (Array.getElem?_eq_some_iff.1 h1).1).trans h1, h2⟩
theorem Ob.lst {g gc gl k cap : Nat} {st dl : Nat → UInt8} {W : World} (h : Ob g gc gl k cap st dl W) : Lst gl k cap dl W := h.2.2.2.2.2
/-- What at leans on while it appends. -/
def AtS (g gc gl kk cap : Nat) (st dl : Nat → UInt8) (gz : Nat) (W0 W : World) : Prop :=
  Blk W g 68 (obRow gc st (.slice (some ⟨gl, 0, none⟩) (kk + 1) cap)) ∧ W.rangeAt gl (16 * kk) (row 16 (dbls kk dl)).toList ∧ Row W gz 44 16 (fun _ => 0) ∧ W0.heap.size ≤ W.heap.size
section
variable {g gc gl kk cap gz : Nat} {st dl : Nat → UInt8} {W0 W W' : World}
theorem AtS.l (h : AtS g gc gl kk cap st dl gz W0 W) : W.cell? ⟨g, 17, none⟩ = some (.slice (some ⟨gl, 0, none⟩) (kk + 1) cap) := (h.1.cell 17).trans (ob_l _ _ _)
theorem AtS.below (h : AtS g gc gl kk cap st dl gz W0 W) (hb : Below W.heap.size W W') : AtS g gc gl kk cap st dl gz W0 W' :=
  ⟨h.1.below hb h.1.lt, fun j v hv => by
    have hc := h.2.1 j v hv
    exact (hb.cell (block_lt_of_cell hc)).trans hc, h.2.2.1.below hb h.2.2.1.lt, Nat.le_trans h.2.2.2 hb.size⟩
end

/-- The object behind at: its list may be longer, and lie elsewhere. -/
def AtP (g gc gl : Nat) (st dl : Nat → UInt8) (w w' : World) : Prop := ∃ gl' k' cap', Ob g gc gl' k' cap' st dl w' ∧ (gl' = gl ∨ w.heap.size ≤ gl') ∧ Fr g gl w w'

set_option maxHeartbeats 4000000 in
theorem at_c (g gc gl k cap i : Nat) (st dl : Nat → UInt8) (w : World) (ho : Ob g gc gl k cap st dl w) (hi0 : 0 < i) (hi : i < 4611686018427387904) :
    Calls Tryd.prog 34 #[.pointer (some ⟨g, 0, none⟩), .int .i64 (i : Int)] w fun e w' => e = .returned (.agg (row 16 (dbls (Lib.ctz 64 i + 1) dl))) ∧ AtP g gc gl st dl w w' := by
  go_enter Tryd.func34, Tryd.ntmps34
  go_upto_region 2 with (fail)
  rw [zero16]
  have ho1 := ho.alloc (.cells (row 16 fun _ => 0) 44)
  have hz := Row.new w 44 16 (fun _ => 0)
  have hb : Below w.heap.size w (w.alloc (.cells (row 16 fun _ => 0) 44)) := (Below.refl _ _).alloc (Nat.le_refl _) _
  revert ho1 hz hb
  generalize w.alloc (.cells (row 16 fun _ => 0) 44) = w1
  intro ho1 hz hb
  go_wp2
  go_loopw [1, 5] (fun iv nv wr => ∃ n x : Nat, i = 2 ^ n * x ∧ 0 < x ∧ iv = .int .i64 x ∧ nv = .int .i64 n ∧ wr = w1) (fun iv _ _ => (intOf iv).toNat)
  case atStart => exact ⟨0, i, by simp, hi0, rfl, rfl, rfl⟩
  case round =>
    obtain ⟨n, x, hix, hx0, rfl, rfl, rfl⟩ := hrel
    have hn : n < 62 := by
      have h1 : 2 ^ n * 1 ≤ 2 ^ n * x := Nat.mul_le_mul_left _ hx0
      have h2 : 2 ^ n < 2 ^ 62 := by omega
      exact (Nat.pow_lt_pow_iff_right (by omega)).1 h2
    have hxi : x ≤ i := by
      have h1 : 1 * x ≤ 2 ^ n * x := Nat.mul_le_mul_right _ (Nat.two_pow_pos n)
      omega
    by_cases hx : x % 2 = 0
    · have e1 : ((x : Int) % 2 == 0) = true := by simpa using (show (x : Int) % 2 = 0 by omega)
      go_wp2
      go_roundw
      case rel => exact ⟨n + 1, x / 2, by rw [hix, Nat.pow_succ, Nat.mul_assoc]; congr 1; omega, by omega, by simp, by go_num, trivial⟩
      case measure => simp [intOf]; omega
    · have e1 : ((x : Int) % 2 == 0) = false := by simpa using (show ¬ (x : Int) % 2 = 0 by omega)
      have hctz := ctz_val n x i hix (by omega) (by omega)
      go_wp2
      clear e1 hx hxi hix hx0
      go_loopw [20] (fun _ wr => ∃ gl' k' cap', Ob g gc gl' k' cap' st dl wr ∧ (gl' = gl ∨ w.heap.size < gl') ∧ Fr g gl w wr ∧ Row wr w.heap.size 44 16 (fun _ => 0)) (fun _ wr => n + 2 - (match wr.cell? ⟨g, 17, none⟩ with | some (.slice _ k _) => k | _ => 0))
      case atStart => exact ⟨gl, k, cap, ho1, .inl rfl, ⟨hb.mono (by have := ho.1.lt; omega), fun x hx _ _ => hb.block x hx⟩, hz⟩
      case round =>
        obtain ⟨gl', k', cap', ho2, hgl, hfr, hz2⟩ := hrel
        have e17 := ho2.l
        have hk0 := ho2.2.2.1
        by_cases hlt : k' < n + 2
        · have i1 : (k' : Int) < (n : Int) + 2 := by omega
          obtain ⟨kk, rfl⟩ : ∃ kk, k' = kk + 1 := ⟨k' - 1, by omega⟩
          go_wp2
          have i2 : (kk : Int) + 1 - 1 = kk := by omega
          have i3 := IntWalk.i64_in (kk : Int) (by omega)
          have i4 : 0 ≤ (kk : Int) := by omega
          have i5 : (kk : Int) < (kk : Int) + 1 := by omega
          have hlg := ho2.1.lt
          have hll := ho2.ltl
          have hzl0 := hz2.lt
          obtain ⟨X, hX⟩ : ∃ X, X = dbls (kk + 1) dl := ⟨_, rfl⟩
          have HX := Lib.hid hX
          clear hX
          refine region_chain (fun q π w' => AtS g gc gl' kk cap' st dl w.heap.size wr w' ∧ Fr g gl w w' ∧ (q < 2 → Lst gl' (kk + 1) cap' dl w') ∧ (1 ≤ q → ∃ gt, π 0 = .slice (some ⟨gt, 0, none⟩) 1 1 ∧ Row w' gt 44 16 X ∧ wr.heap.size ≤ gt) ∧ (2 ≤ q → ∃ gl2 cap2, π 1 = .slice (some ⟨gl2, 0, none⟩) (kk + 2) cap2 ∧ Lst gl2 (kk + 2) cap2 dl w' ∧ kk + 2 ≤ cap2 ∧ cap2 ≤ maxLen ∧ (gl2 = gl' ∨ wr.heap.size ≤ gl2))) (fun i => i == 18 || i == 19) mixedOrders (by kernel_rfl) (by kernel_rfl) (by simp)
            ⟨⟨ho2.1.drew, ho2.at_ kk (by omega), hz2.drew, Nat.le_refl _⟩, ⟨hfr.1.drew, hfr.2⟩, fun _ => ho2.lst, fun h => by omega, fun h => by omega⟩ ?_
          clear hz2 hfr e17
          refine SeqP.next ?_ (fun π q => Sure.val rfl (fun w' hS => ?_)) ?_
          rotate_left 1
          · have e17 := hS.1.l
            clear hS
            go_simp
            rfl
          simp only [Act.put, List.setIfInBounds_toArray, List.set_cons_zero, List.set_cons_succ]
          refine SeqP.next ?_ (fun π q => Sure.val rfl (fun w' hS => ?_)) ?_
          rotate_left 1
          · have e17 := hS.1.l
            clear hS
            go_simp
            rfl
          simp only [Act.put, List.setIfInBounds_toArray, List.set_cons_zero, List.set_cons_succ]
          refine SeqP.next ?_ (fun π q => Sure.val rfl (fun w' hS => ?_)) ?_
          rotate_left 1
          · have e17 := hS.1.l
            clear hS
            go_simp
            rfl
          simp only [Act.put, List.setIfInBounds_toArray, List.set_cons_zero, List.set_cons_succ]
          refine SeqP.next ?_ (fun π q => Sure.val rfl (fun w' hS => ?_)) ?_
          rotate_left 1
          · have e17 := hS.1.l
            clear hS
            go_simp
            rfl
          simp only [Act.put, List.setIfInBounds_toArray, List.set_cons_zero, List.set_cons_succ]
          refine SeqP.next ?_ (fun π q => Sure.val rfl (fun w' hS => ?_)) ?_
          rotate_left 1
          · have e17 := hS.1.l
            clear hS
            go_simp
            rfl
          simp only [Act.put, List.setIfInBounds_toArray, List.set_cons_zero, List.set_cons_succ]
          refine SeqP.next ?_ (fun π q => Sure.val rfl (fun w' hS => ?_)) ?_
          rotate_left 1
          · have e17 := hS.1.l
            clear hS
            go_simp
            rfl
          simp only [Act.put, List.setIfInBounds_toArray, List.set_cons_zero, List.set_cons_succ]
          refine SeqP.next ?_ (fun π q => Sure.val rfl (fun w' hS => ?_)) ?_
          rotate_left 1
          · have e17 := hS.1.l
            clear hS
            go_simp
            rfl
          simp only [Act.put, List.setIfInBounds_toArray, List.set_cons_zero, List.set_cons_succ]
          refine SeqP.next ?_ (fun π q => Sure.val rfl (fun w' hS => ?_)) ?_
          rotate_left 1
          · have e17 := hS.1.l
            clear hS
            go_simp
            rfl
          simp only [Act.put, List.setIfInBounds_toArray, List.set_cons_zero, List.set_cons_succ]
          refine SeqP.next ?_ (fun π q => Sure.val rfl (fun w' hS => ?_)) ?_
          rotate_left 1
          · have e17 := hS.1.l
            clear hS
            go_simp
            rfl
          simp only [Act.put, List.setIfInBounds_toArray, List.set_cons_zero, List.set_cons_succ]
          refine SeqP.next ?_ (fun π q => Sure.val rfl (fun w' hS => ?_)) ?_
          rotate_left 1
          · have e17 := hS.1.l
            clear hS
            go_simp
            rfl
          simp only [Act.put, List.setIfInBounds_toArray, List.set_cons_zero, List.set_cons_succ]
          refine SeqP.next ?_ (fun π q => Sure.val rfl (fun w' hS => ?_)) ?_
          rotate_left 1
          · have e17 := hS.1.l
            clear hS
            go_simp
            rfl
          simp only [Act.put, List.setIfInBounds_toArray, List.set_cons_zero, List.set_cons_succ]
          refine SeqP.next ?_ (fun π q => Sure.val rfl (fun w' hS => ?_)) ?_
          rotate_left 1
          · have e17 := hS.1.l
            clear hS
            go_simp
            rfl
          simp only [Act.put, List.setIfInBounds_toArray, List.set_cons_zero, List.set_cons_succ]
          refine SeqP.next ?_ (fun π q => Sure.val rfl (fun w' hS => ?_)) ?_
          rotate_left 1
          · have e17 := hS.1.l
            clear hS
            go_simp
            rfl
          simp only [Act.put, List.setIfInBounds_toArray, List.set_cons_zero, List.set_cons_succ]
          refine SeqP.next ?_ (fun π q => Sure.val rfl (fun w' hS => ?_)) ?_
          rotate_left 1
          · have e17 := hS.1.l
            clear hS
            go_simp
            rfl
          simp only [Act.put, List.setIfInBounds_toArray, List.set_cons_zero, List.set_cons_succ]
          refine SeqP.next ?_ (fun π q => Sure.val rfl (fun w' hS => ?_)) ?_
          rotate_left 1
          · have e17 := hS.1.l
            clear hS
            go_simp
            rfl
          simp only [Act.put, List.setIfInBounds_toArray, List.set_cons_zero, List.set_cons_succ]
          refine SeqP.next ?_ (fun π q => Sure.val rfl (fun w' hS => ?_)) ?_
          rotate_left 1
          · have e17 := hS.1.l
            clear hS
            go_simp
            rfl
          simp only [Act.put, List.setIfInBounds_toArray, List.set_cons_zero, List.set_cons_succ]
          refine SeqP.next (.agg (row 16 (dbls kk dl))) (fun π q => Sure.load_Part rfl 44 _ rfl gl' (kk * 16) rfl 16 (dbls kk dl) _ (fun w' hS => by rw [Nat.mul_comm]; exact hS.1.2.1) undBk sizeBk) ?_
          simp only [Act.put, List.setIfInBounds_toArray, List.set_cons_zero, List.set_cons_succ]
          refine SeqP.next (.agg (row 16 X)) (fun π q => Sure.call (f := 33) (args := #[.agg (row 16 (dbls kk dl))]) rfl (fun w' => by go_simp) (fun w' hS => (rdouble_c (dbls kk dl) w').mono fun e w'' h => ⟨by rw [HX.out]; exact h.1, hS.1.below h.2, hS.2.1.below h.2 (by have := hS.1.2.2.2; omega), fun h1 => (hS.2.2.1 h1).below h.2, fun h1 => (hS.2.2.2.1 h1).imp fun gt hgt => ⟨hgt.1, hgt.2.1.below h.2 hgt.2.1.lt, hgt.2.2⟩, fun h1 => by obtain ⟨gl2, cap2, a1, a2, a3⟩ := hS.2.2.2.2 h1; exact ⟨gl2, cap2, a1, a2.below h.2, a3⟩⟩)) ?_
          simp only [Act.put, List.setIfInBounds_toArray, List.set_cons_zero, List.set_cons_succ]
          have hkc := ho2.2.2.2.1
          have hcm := ho2.2.2.2.2.1
          have hgn := ho2.2.1
          have hgl0 := ho.ltl
          have hg0 := ho.1.lt
          refine SeqP.make rfl (fun π => ⟨rfl, fun w' hS => ⟨.slice (some ⟨w'.heap.size, 0, none⟩) 1 1, w'.alloc (.cells (row 16 X) 44), exec_build1 _ rfl X rfl, ?_⟩⟩) ?_
          · have hal : Below w'.heap.size w' (w'.alloc (.cells (row 16 X) 44)) := (Below.refl _ _).alloc (Nat.le_refl _) _
            exact ⟨hS.1.below hal, hS.2.1.below hal (by have := hS.1.2.2.2; omega), fun _ => (hS.2.2.1 (by omega)).below hal, fun _ => ⟨w'.heap.size, upd_same _ _ _, Row.new _ _ _ _, hS.1.2.2.2⟩, fun h => by omega⟩
          simp only [Act.put, List.setIfInBounds_toArray, List.set_cons_zero, List.set_cons_succ]
          refine SeqP.make rfl (fun π => ⟨rfl, fun w' hS => ?_⟩) ?_
          · obtain ⟨hAt, hFr, hL, h1, hx⟩ := hS
            clear hx
            obtain ⟨gt, hpi, hgt, hgw⟩ := h1 (by omega)
            obtain ⟨cur, hc1, hc2, hc3⟩ := hL (by omega)
            clear hL h1
            have hsz := hAt.2.2.2
            have hzl := hAt.2.2.1.lt
            obtain ⟨g2, cap2, w2, cur2, hr, hor, hgr, hn1, hn2, hn3, hn4, hn5, hn6, hn7⟩ := run_append_ob w' 66 gl' (kk + 1) cap' cur hc1 hkc hcm hc2 ⟨gt, 0, none⟩ X (fun j hj => by rw [Addr.add_mid, Nat.zero_add]; exact hgt.cell j hj) (by omega)
            refine ⟨_, w2, exec_append_ob (.tmp 25) (.tmp 39) rfl (.slice (some ⟨gl', 0, none⟩) (kk + 1) cap') (.slice (some ⟨gt, 0, none⟩) 1 1) _ rfl (by exact hpi) hr, ⟨(hgr.block g (by omega) (by simpa using hgn)).trans hAt.1, ?_, (hgr.block w.heap.size (by omega) (by simp; omega)).trans hAt.2.2.1, Nat.le_trans hAt.2.2.2 hgr.size⟩, ?_, fun h => by omega, fun _ => ⟨gt, (upd_ne π _ (by omega)).trans hpi, (hgr.block gt hgt.lt (by simp; omega)).trans hgt, hgw⟩, fun _ => ⟨g2, cap2, upd_same _ _ _, ⟨cur2, hn1, hn2, fun j hj i hi => ?_⟩, hn3, hn4, by omega⟩⟩
            · intro j v hv
              have hj : j < 16 := by
                have := (List.getElem?_eq_some_iff.1 hv).1
                simpa [row_size] using this
              by_cases e2 : g2 = gl'
              · rw [e2] at hn1
                rw [cell_of_row w2 gl' (16 * kk + j) cur2 _ (0, 0) hn1, hn6 _ (by omega)]
                rw [Array.getElem?_toList, row_get _ _ _ hj] at hv
                rw [hc3 kk (by omega) j hj]
                exact hv
              · have hcell := hAt.2.1 j v hv
                exact (World.cell?_of_block (hn5 e2)).trans hcell
            · refine ⟨hFr.1.grown hgr (by omega) (fun y e => by cases e; omega), fun y hy hy1 hy2 => (hgr.block y (by omega) (by simp; omega)).trans (hFr.2 y hy hy1 hy2)⟩
            · by_cases ej : j < kk + 1
              · rw [hn6 _ (by omega)]
                exact hc3 j ej i hi
              · obtain rfl : j = kk + 1 := by omega
                rw [Nat.mul_comm 16 (kk + 1), hn7 i hi, HX.out]
          simp only [Act.put, List.setIfInBounds_toArray, List.set_cons_zero, List.set_cons_succ]
          refine SeqP.next ?_ (fun π q => Sure.val rfl (fun w' hS => ?_)) ?_
          rotate_left 1
          · clear hS
            go_simp
            rfl
          simp only [Act.put, List.setIfInBounds_toArray, List.set_cons_zero, List.set_cons_succ]
          refine SeqP.next ?_ (fun π q => Sure.val rfl (fun w' hS => ?_)) ?_
          rotate_left 1
          · clear hS
            go_simp
            rfl
          simp only [Act.put, List.setIfInBounds_toArray, List.set_cons_zero, List.set_cons_succ]
          refine SeqP.last (fun π => rfl) fun π w' hS => ?_
          obtain ⟨hAt, hFr, hx1, hx2, h2⟩ := hS
          clear hx1 hx2
          obtain ⟨gl2, cap2, hpi, hL2, hk2, hm2, hor2⟩ := h2 (by omega)
          clear h2
          have e1 := hAt.l
          have e3 : w'.frozen? ⟨g, 17, none⟩ = false := (hAt.1.there 17 1 (by rw [ob_size]; omega) 0 (by omega)).2
          have hsz := hAt.2.2.2
          have ho3 : Ob g gc gl2 (kk + 2) cap2 st dl (w'.setCell ⟨g, 17, none⟩ (.slice (some ⟨gl2, 0, none⟩) (kk + 2) cap2)) := by
            refine ⟨?_, by omega, by omega, hk2, hm2, ?_⟩
            · have h := heap_setCell_same w' g 17 _ _ (.slice (some ⟨gl2, 0, none⟩) (kk + 2) cap2) hAt.1
              rw [ob_next] at h
              exact h
            · obtain ⟨cur, c1, c2⟩ := hL2
              exact ⟨cur, (Below.heap_setCell w' ⟨g, 17, none⟩ _ gl2 (by show gl2 ≠ g; omega)).trans c1, c2⟩
          go_simp
          go_wp2
          go_roundw
          case rel => exact ⟨gl2, kk + 2, cap2, ho3, by omega, ⟨hFr.1.setCell (p := ⟨g, 17, none⟩) (by show min g gl ≤ g; omega) _, fun y hy hy1 hy2 => (Below.heap_setCell w' ⟨g, 17, none⟩ _ y hy1).trans (hFr.2 y hy hy1 hy2)⟩, hAt.2.2.1.far (by show w.heap.size ≠ g; omega) _⟩
          case measure => rw [ho3.l, ho2.l]; simp; omega
        · have i1 : ¬ (k' : Int) < (n : Int) + 2 := by omega
          go_wp2_with (first | (refine wpList_load_Part rfl 44 _ rfl gl' ((n + 1) * 16) rfl 16 (dbls (n + 1) dl) _ (by rw [Nat.mul_comm]; exact ho2.at_ (n + 1) (by omega)) undBk sizeBk ?_) | (refine wpList_store_Row rfl 44 _ _ rfl w.heap.size rfl 44 16 _ _ rfl hz2 sizeBk ?_))
          have hlg := ho.1.lt
          have hll := ho.ltl
          refine ret_Row rfl rfl _ _ 16 _ _ rfl (hz2.setRow _) undBk sizeBk ⟨rfl, gl', k', cap', ho2.setRow_far (by omega) (by omega) _, by omega, below_setRow8 hfr.1 (by omega) _, fun y hy h1 h2 => (setRow_other _ _ _ _ (by omega)).trans (hfr.2 y hy h1 h2)⟩
end Go.Proofs.YtajifdnfibojfaaDoor
