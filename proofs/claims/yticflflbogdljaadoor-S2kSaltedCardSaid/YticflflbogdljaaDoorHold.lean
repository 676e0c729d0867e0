/- What a call holds: blocks, each apart from the others, with what lies in them; all else is as it was. The operations on them, in plain regions and in those that draw. Plain theorems, over any program. -/
import Derived.Test.YticflflbogdljaaDoorRegH
import Derived.Test.YticflflbogdljaaDoorBes
import Derived.Great.Ranges
namespace Go.Proofs.YticflflbogdljaaDoor
open Go Go.RowKit

/-- A block of cells. -/
abbrev bl (g : Nat) (t : TypeId) (cs : Array Value) : Nat × Obj := (g, .cells cs t (0, 0))

/-- The blocks L hold what they are said to hold; of what was there when w0 was the world only the blocks R may have changed. -/
structure Hold (w0 : World) (R : List Nat) (L : List (Nat × Obj)) (w : World) : Prop where
  os : w.os = w0.os
  tape : w.tape = w0.tape
  output : w.output = w0.output
  size : w0.heap.size ≤ w.heap.size
  blk : ∀ x ∈ L, w.heap[x.1]? = some x.2
  ne : L.Pairwise fun x y => x.1 ≠ y.1
  own : ∀ x ∈ L, w0.heap.size ≤ x.1 ∨ x.1 ∈ R
  frame : ∀ k, k < w0.heap.size → k ∉ R → w.heap[k]? = w0.heap[k]?

section
variable {w0 w w' : World} {R : List Nat} {L L' : List (Nat × Obj)}
theorem Hold.init (w : World) : Hold w [] [] w := ⟨rfl, rfl, rfl, Nat.le_refl _, fun _ h => (by cases h), .nil, fun _ h => (by cases h), fun _ _ _ => rfl⟩
theorem Hold.of_below (h : Below w0.heap.size w0 w) : Hold w0 [] [] w := ⟨h.os, h.tape, h.output, h.size, fun _ h => (by cases h), .nil, fun _ h => (by cases h), fun k hk _ => h.block k hk⟩
/-- A block that was handed in, and may be written. -/
theorem Hold.init1 {g : Nat} {o : Obj} (h : w.heap[g]? = some o) : Hold w [g] [(g, o)] w :=
  ⟨rfl, rfl, rfl, Nat.le_refl _, fun x hx => (by obtain rfl : x = (g, o) := (by simpa using hx); exact h), by simp, fun x hx => (by obtain rfl : x = (g, o) := (by simpa using hx); exact .inr (by simp)), fun _ _ _ => rfl⟩
theorem Hold.drew (h : Hold w0 R L w) : Hold w0 R L w.drew := ⟨h.os, h.tape, h.output, h.size, h.blk, h.ne, h.own, h.frame⟩
theorem Hold.lt (h : Hold w0 R L w) {x : Nat × Obj} (hx : x ∈ L) : x.1 < w.heap.size := (Array.getElem?_eq_some_iff.1 (h.blk x hx)).1
theorem Hold.get (h : Hold w0 R L w) (i : Nat) {g : Nat} {o : Obj} (hx : L[i]? = some (g, o)) : w.heap[g]? = some o := h.blk (g, o) (List.mem_of_getElem? hx)
theorem Hold.base (h : Hold w0 [] L w) (i : Nat) {g : Nat} {o : Obj} (hx : L[i]? = some (g, o)) : w0.heap.size ≤ g := by
  rcases h.own (g, o) (List.mem_of_getElem? hx) with h | h
  · exact h
  · cases h
theorem Hold.new (h : Hold w0 R L w) (o : Obj) : Hold w0 R (L ++ [(w.heap.size, o)]) (w.alloc o) := by
  refine ⟨h.os, h.tape, h.output, Nat.le_trans h.size (by simp), fun x hx => ?_, ?_, fun x hx => ?_, fun k hk hkR => ?_⟩
  · rcases List.mem_append.1 hx with hx | hx
    · exact (Below.heap_alloc w o x.1 (h.lt hx)).trans (h.blk x hx)
    · obtain rfl : x = (w.heap.size, o) := by simpa using hx
      exact heap_alloc_new w o
  · refine List.pairwise_append.2 ⟨h.ne, by simp, fun x hx y hy => ?_⟩
    obtain rfl : y = (w.heap.size, o) := by simpa using hy
    exact Nat.ne_of_lt (h.lt hx)
  · rcases List.mem_append.1 hx with hx | hx
    · exact h.own x hx
    · obtain rfl : x = (w.heap.size, o) := by simpa using hx
      exact .inl h.size
  · exact (Below.heap_alloc w o k (Nat.lt_of_lt_of_le hk h.size)).trans (h.frame k hk hkR)
theorem Hold.call (h : Hold w0 R L w) (hb : Below w.heap.size w w') : Hold w0 R L w' :=
  ⟨hb.os.trans h.os, hb.tape.trans h.tape, hb.output.trans h.output, Nat.le_trans h.size hb.size, fun x hx => (hb.block x.1 (h.lt hx)).trans (h.blk x hx), h.ne, h.own, fun k hk hkR => (hb.block k (Nat.lt_of_lt_of_le hk h.size)).trans (h.frame k hk hkR)⟩
theorem Hold.perm (h : Hold w0 R L w) (hp : L.Perm L') : Hold w0 R L' w :=
  ⟨h.os, h.tape, h.output, h.size, fun x hx => h.blk x (hp.mem_iff.2 hx), hp.pairwise h.ne (fun h => Ne.symm h), fun x hx => h.own x (hp.mem_iff.2 hx), h.frame⟩
theorem Hold.sub (h : Hold w0 R L w) (hs : L'.Sublist L) : Hold w0 R L' w :=
  ⟨h.os, h.tape, h.output, h.size, fun x hx => h.blk x (hs.subset hx), h.ne.sublist hs, fun x hx => h.own x (hs.subset hx), h.frame⟩
theorem Hold.toBelow (h : Hold w0 [] L w) : Below w0.heap.size w0 w := ⟨h.os, h.tape, h.output, h.size, fun k hk => h.frame k hk (by simp)⟩
theorem Hold.apart (h : Hold w0 R L w) {i j : Nat} {x y : Nat × Obj} (hi : L[i]? = some x) (hj : L[j]? = some y) (hij : i ≠ j) : x.1 ≠ y.1 := by
  obtain ⟨hi1, hi2⟩ := List.getElem?_eq_some_iff.1 hi
  obtain ⟨hj1, hj2⟩ := List.getElem?_eq_some_iff.1 hj
  subst hi2 hj2
  rcases Nat.lt_or_ge i j with h1 | h1
  · exact List.pairwise_iff_getElem.1 h.ne i j hi1 hj1 h1
  · exact Ne.symm (List.pairwise_iff_getElem.1 h.ne j i hj1 hi1 (by omega))
/-- Block i holds something else. -/
theorem Hold.upd (h : Hold w0 R L w) (i : Nat) {g : Nat} {o o' : Obj} (hx : L[i]? = some (g, o)) (hos : w'.os = w.os) (htp : w'.tape = w.tape) (hou : w'.output = w.output) (hsz : w.heap.size ≤ w'.heap.size)
    (hg : w'.heap[g]? = some o') (hk : ∀ k, k < w.heap.size → k ≠ g → w'.heap[k]? = w.heap[k]?) : Hold w0 R (L.set i (g, o')) w' := by
  obtain ⟨hi1, hi2⟩ := List.getElem?_eq_some_iff.1 hx
  have hset : ∀ x ∈ L.set i (g, o'), x = (g, o') ∨ (x ∈ L ∧ x.1 ≠ g) := fun x hx' => by
    obtain ⟨j, hj, rfl⟩ := List.mem_iff_getElem.1 hx'
    rw [List.getElem_set]
    split
    · exact .inl rfl
    · rename_i hij
      have hj' : j < L.length := by simpa using hj
      exact .inr ⟨List.getElem_mem hj', fun e => by
        have := h.apart (i := i) (j := j) hx (List.getElem?_eq_getElem hj') hij
        exact this e.symm⟩
  refine ⟨hos.trans h.os, htp.trans h.tape, hou.trans h.output, Nat.le_trans h.size hsz, fun x hx' => ?_, ?_, fun x hx' => ?_, fun k hk' hkR => ?_⟩
  · rcases hset x hx' with rfl | ⟨h1, h2⟩
    · exact hg
    · exact (hk x.1 (h.lt h1) h2).trans (h.blk x h1)
  · rw [List.pairwise_iff_getElem]
    intro a b ha hb hab
    have ha' : a < L.length := by simpa using ha
    have hb' : b < L.length := by simpa using hb
    have hne := List.pairwise_iff_getElem.1 h.ne a b ha' hb' hab
    rw [List.getElem_set, List.getElem_set]
    have e1 : ∀ j (hj : j < L.length), i = j → L[j].1 = g := fun j hj e => by subst e; rw [hi2]
    split
    · rename_i e
      split
      · omega
      · have h5 := e1 a ha' e
        rw [h5] at hne; exact hne
    · split
      · rename_i e
        have h5 := e1 b hb' e
        rw [h5] at hne; exact hne
      · exact hne
  · rcases hset x hx' with rfl | ⟨h1, _⟩
    · exact h.own (g, o) (List.mem_of_getElem? hx)
    · exact h.own x h1
  · rw [hk k (Nat.lt_of_lt_of_le hk' h.size) ?_]
    · exact h.frame k hk' hkR
    · rintro rfl
      rcases h.own (k, o) (List.mem_of_getElem? hx) with h1 | h1
      · exact absurd hk' (Nat.not_lt.2 h1)
      · exact hkR h1
theorem Hold.setRow (h : Hold w0 R L w) (i : Nat) {g : Nat} {t : TypeId} {cs : Array Value} (hx : L[i]? = some (bl g t cs)) (cs' : Array Value) : Hold w0 R (L.set i (bl g t cs')) (w.setRow g cs') :=
  h.upd i hx rfl rfl rfl (by simp [World.setRow]) (setRow_heap w g cs cs' t (0, 0) (h.get i hx)) fun k _ hk => setRow_other w g k cs' hk
theorem Hold.setCell (h : Hold w0 R L w) (i : Nat) {g : Nat} {t : TypeId} {cs : Array Value} (hx : L[i]? = some (bl g t cs)) (o : Nat) (v : Value) : Hold w0 R (L.set i (bl g t (cs.setIfInBounds o v))) (w.setCell ⟨g, o, none⟩ v) :=
  h.upd i hx rfl rfl rfl (by simp [World.setCell]) (heap_setCell_same w g o cs t v (h.get i hx)) fun k _ hk => Below.heap_setCell w ⟨g, o, none⟩ v k hk
theorem Hold.setCells : ∀ (vs : List Value) (o : Nat) {w : World} {L : List (Nat × Obj)} {cs : Array Value}, Hold w0 R L w → ∀ (i : Nat) {g : Nat} {t : TypeId}, L[i]? = some (bl g t cs) → Hold w0 R (L.set i (bl g t (putL cs o vs))) (w.setCells g o vs)
  | [], _, w, L, cs, h, i, g, t, hx => by
    have e : L.set i (bl g t cs) = L := by
      refine List.ext_getElem? fun j => ?_
      rw [List.getElem?_set]
      split
      · rename_i e; subst e
        split
        · exact hx.symm
        · rename_i h2; rw [List.getElem?_eq_none (by omega)]
      · rfl
    show Hold w0 R (L.set i (bl g t cs)) w
    rw [e]; exact h
  | v :: r, o, w, L, cs, h, i, g, t, hx => by
    have h1 := h.setCell i hx o v
    have hi : i < L.length := (List.getElem?_eq_some_iff.1 hx).1
    have h2 := Hold.setCells r (o + 1) h1 i (g := g) (t := t) (cs := cs.setIfInBounds o v) (by rw [List.getElem?_set]; simp [hi])
    rw [List.set_set] at h2
    exact h2
theorem Hold.cell (h : Hold w0 R L w) (i : Nat) {g : Nat} {t : TypeId} {cs : Array Value} (hx : L[i]? = some (bl g t cs)) (o : Nat) : w.cell? ⟨g, o, none⟩ = cs[o]? := cell_of_row w g o _ t (0, 0) (h.get i hx)
theorem Hold.frozen (h : Hold w0 R L w) (i : Nat) {g : Nat} {t : TypeId} {cs : Array Value} (hx : L[i]? = some (bl g t cs)) (o : Nat) : w.frozen? ⟨g, o, none⟩ = false := by
  have := h.get i hx
  simp [World.frozen?, this]
theorem Hold.there (h : Hold w0 R L w) (i : Nat) {g : Nat} {t : TypeId} {cs : Array Value} (hx : L[i]? = some (bl g t cs)) (o n : Nat) (hn : o + n ≤ cs.size) : w.there g o n := fun j hj => by
  refine ⟨?_, h.frozen i hx _⟩
  rw [h.cell i hx, Array.getElem?_eq_getElem (by omega)]; rfl
theorem Hold.range (h : Hold w0 R L w) (i : Nat) {g : Nat} {t : TypeId} {cs : Array Value} (hx : L[i]? = some (bl g t cs)) (o : Nat) (xs : Array Value) (hc : ∀ j, j < xs.size → cs[o + j]? = xs[j]?) : w.rangeAt g o xs.toList := by
  intro j v hv
  rw [Array.getElem?_toList] at hv
  have hj : j < xs.size := (Array.getElem?_eq_some_iff.1 hv).1
  rw [h.cell i hx, hc j hj, hv]
end

/-! ### Plain regions -/
section
variable {P : Program} {w0 w : World} {R : List Nat} {L : List (Nat × Obj)} {ops : Array Oper} {rest : List Oper} {o : Oper} {a : Act} {Q : Exit → Act → World → Prop}
/-- A whole variable (an array, a struct) read. -/
theorem wpList_load_H (i : Nat) (h : Hold w0 R L w) {g : Nat} {t : TypeId} {cs : Array Value} (hL : L[i]? = some (bl g t cs)) (hgd : o.guard = none) (ty : TypeId) (x : Operand) (ho : o.op = .load ty x)
    (hx : a.eval x = .pointer (some ⟨g, 0, none⟩)) (hdd : (P.underlying ty).map (·.isRow) = some true) (hi : (P.info? ty).map (·.size) = some cs.size)
    (hk : wpList P ops Q rest (a.put o.dst (.agg cs)) w) : wpList P ops Q (o :: rest) a w :=
  wpList_load_Blk hgd ty x ho g hx t cs (h.get i hL) hdd hi hk
/-- The same, under a guard that is met. -/
theorem wpList_load_HG (i : Nat) (h : Hold w0 R L w) {g : Nat} {t : TypeId} {cs : Array Value} (hL : L[i]? = some (bl g t cs)) (ty : TypeId) (x : Operand) (ho : o.op = .load ty x)
    (hx : a.eval x = .pointer (some ⟨g, 0, none⟩)) (hw : Region.wanted o (yielded ops a.tmps) = true) (hdd : (P.underlying ty).map (·.isRow) = some true) (hi : (P.info? ty).map (·.size) = some cs.size)
    (hk : wpList P ops Q rest (a.put o.dst (.agg cs)) w) : wpList P ops Q (o :: rest) a w := by
  obtain ⟨d, hu, hdr⟩ := isRow_desc hdd
  refine wpList_step fun K hK => ?_
  rw [if_pos hw]
  exact wp_load_row ty x ho g hx t cs (0, 0) d (h.get i hL) hu (by cases d <;> first | rfl | cases hdr) hi (hK _ _ hk)
/-- A part of a variable read. -/
theorem wpList_part_H (i : Nat) (xs : Array Value) (h : Hold w0 R L w) {g off : Nat} {t : TypeId} {cs : Array Value} (hL : L[i]? = some (bl g t cs)) (hc : ∀ j, j < xs.size → cs[off + j]? = xs[j]?) (hgd : o.guard = none) (ty : TypeId) (x : Operand) (ho : o.op = .load ty x)
    (hx : a.eval x = .pointer (some ⟨g, off, none⟩)) (hdd : (P.underlying ty).map (·.isRow) = some true) (hi : (P.info? ty).map (·.size) = some xs.size)
    (hk : wpList P ops Q rest (a.put o.dst (.agg xs)) w) : wpList P ops Q (o :: rest) a w := by
  obtain ⟨d, hu, hdr⟩ := isRow_desc hdd
  have hr := run_loadAt_mid (P := P) w g off ty _ d (h.range i hL off xs hc) hu hdr (by rw [hi, Array.length_toList])
  refine wpList_plain hgd fun _ hK => ?_
  unfold Oper.wp execOp
  simp only [ho, hx, Sem.run_bind, Sem.run_pure, Result.andThen_ok, hr]
  exact hK _ _ hk
/-- A whole variable laid. -/
theorem wpList_store_H (i : Nat) (h : Hold w0 R L w) {g : Nat} {t : TypeId} {old cs : Array Value} (hL : L[i]? = some (bl g t old)) (hgd : o.guard = none) (ty : TypeId) (x y : Operand) (ho : o.op = .store ty x y)
    (hx : a.eval x = .pointer (some ⟨g, 0, none⟩)) (hy : a.eval y = .agg cs) (hi : (P.info? ty).map (·.size) = some cs.size) (hold : old.size = cs.size) (h1 : cs.all (·.oneCell') = true)
    (hk : ∀ w', Hold w0 R (L.set i (bl g t cs)) w' → wpList P ops Q rest (a.put o.dst undef) w') : wpList P ops Q (o :: rest) a w :=
  wpList_store_row hgd ty x y ho g cs hx hy t old (h.get i hL) hi hold h1 (hk _ (h.setRow i hL cs))
/-- A part of a variable laid. -/
theorem wpList_put_H (i : Nat) (h : Hold w0 R L w) {g off : Nat} {t : TypeId} {cs xs : Array Value} (hL : L[i]? = some (bl g t cs)) (hgd : o.guard = none) (ty : TypeId) (x y : Operand) (ho : o.op = .store ty x y)
    (hx : a.eval x = .pointer (some ⟨g, off, none⟩)) (hy : a.eval y = .agg xs) (hi : (P.info? ty).map (·.size) = some xs.size) (hn : off + xs.size ≤ cs.size) (h1 : xs.all (·.oneCell') = true)
    (hk : ∀ w', Hold w0 R (L.set i (bl g t (putL cs off xs.toList))) w' → wpList P ops Q rest (a.put o.dst undef) w') : wpList P ops Q (o :: rest) a w :=
  wpList_store_mid hgd ty x y ho g off xs hx hy (h.there i hL off xs.size hn) hi h1 (hk _ (Hold.setCells xs.toList off h i hL))
/-- A new variable: an array, a struct. -/
theorem wpList_alloc_H (h : Hold w0 R L w) (hgd : o.guard = none) (d : Option Tmp) (hd : o.dst = d) (ty : TypeId) (ho : o.op = .alloc ty) (cs : Array Value) (hz : (P.info? ty).bind (·.zero) = some (.agg cs))
    (hk : ∀ g w', Hold w0 R (L ++ [bl g ty cs]) w' → wpList P ops Q rest (a.put d (.pointer (some ⟨g, 0, none⟩))) w') : wpList P ops Q (o :: rest) a w :=
  wpList_plain hgd fun _ hK => by
    subst hd
    unfold Oper.wp execOp
    simp only [ho, Sem.run_bind, Sem.run_pure, Result.andThen_ok, run_alloc_Blk ty cs hz]
    exact hK _ _ (hk _ _ (h.new _))
/-- A new variable of one cell. -/
theorem wpList_alloc1_H (h : Hold w0 R L w) (hgd : o.guard = none) (d : Option Tmp) (hd : o.dst = d) (ty : TypeId) (ho : o.op = .alloc ty) (z : Value) (hz : (P.info? ty).bind (·.zero) = some z) (h1 : z.cells = #[z])
    (hk : ∀ g w', Hold w0 R (L ++ [bl g ty #[z]]) w' → wpList P ops Q rest (a.put d (.pointer (some ⟨g, 0, none⟩))) w') : wpList P ops Q (o :: rest) a w :=
  wpList_plain hgd fun _ hK => by
    subst hd
    have hr : (Instr.alloc ty true (.tuple #[])).run P w = .ok (.pointer (some ⟨w.heap.size, 0, none⟩)) (w.alloc (.cells #[z] ty)) := by
      cases hq : P.info? ty with
      | none => simp [hq] at hz
      | some i =>
        have hs : i.zero = some z := by simpa [hq] using hz
        simp [Instr.alloc, zeroValue, typeInfo, hq, hs, newVar, newRow, h1]
    unfold Oper.wp execOp
    simp only [ho, Sem.run_bind, Sem.run_pure, Result.andThen_ok, hr]
    exact hK _ _ (hk _ _ (h.new _))
/-- A new variable that holds a value: an array, a struct. -/
theorem wpList_box_H (h : Hold w0 R L w) (hgd : o.guard = none) (d : Option Tmp) (hd : o.dst = d) (ty : TypeId) (x : Operand) (ho : o.op = .box ty x) (cs : Array Value) (hx : a.eval x = .agg cs)
    (hk : ∀ g w', Hold w0 R (L ++ [bl g ty cs]) w' → wpList P ops Q rest (a.put d (.pointer (some ⟨g, 0, none⟩))) w') : wpList P ops Q (o :: rest) a w :=
  Go.Great.wpList_boxTo hgd ty x ho d hd w.heap.size rfl cs (by rw [hx]; rfl) (hk _ _ (h.new _))
/-- The same, of one cell. -/
theorem wpList_box1_H (h : Hold w0 R L w) (hgd : o.guard = none) (d : Option Tmp) (hd : o.dst = d) (ty : TypeId) (x : Operand) (ho : o.op = .box ty x) (v : Value) (hx : a.eval x = v) (h1 : v.cells = #[v])
    (hk : ∀ g w', Hold w0 R (L ++ [bl g ty #[v]]) w' → wpList P ops Q rest (a.put d (.pointer (some ⟨g, 0, none⟩))) w') : wpList P ops Q (o :: rest) a w :=
  Go.Great.wpList_boxTo hgd ty x ho d hd w.heap.size rfl #[v] (by rw [hx, h1]) (hk _ _ (h.new _))
/-- A cell laid. -/
theorem wpList_cell_H (i : Nat) (h : Hold w0 R L w) {g off : Nat} {t : TypeId} {cs : Array Value} (hL : L[i]? = some (bl g t cs)) (hgd : o.guard = none) (ty : TypeId) (x y : Operand) (ho : o.op = .store ty x y) (v : Value)
    (hx : a.eval x = .pointer (some ⟨g, off, none⟩)) (hy : a.eval y = v) (hi : (P.info? ty).map (·.size) = some 1) (hn : off < cs.size) (h1 : v.oneCell' = true)
    (hk : ∀ w', Hold w0 R (L.set i (bl g t (cs.setIfInBounds off v))) w' → wpList P ops Q rest (a.put o.dst undef) w') : wpList P ops Q (o :: rest) a w :=
  wpList_plain hgd fun _ hK => by
    have hc : v.cells = #[v] := by cases v <;> first | rfl | cases h1
    have hth := h.there i hL off 1 (by omega)
    have := run_storeCells_cells (P := P) g off [v] 0 w (fun j hj => by simpa using (hth j (by simpa using hj)).1) (fun j hj => by simpa using (hth j (by simpa using hj)).2) (fun x hx => by simp at hx; subst hx; exact h1)
    have hr : (Instr.storeAt ty (.pointer (some ⟨g, off, none⟩)) v).run P w = .ok () (w.setCell ⟨g, off, none⟩ v) := by
      cases hq : P.info? ty with
      | none => simp [hq] at hi
      | some i =>
        have hs : i.size = 1 := by simpa [hq] using hi
        simp only [Nat.add_zero] at this
        simp only [Instr.storeAt, Instr.sureAddr, Sem.run_bind, Sem.run_pure, Result.andThen_ok]
        simp [storeVar, sizeOf, typeInfo, hq, hc, hs, this, World.setCells]
    unfold Oper.wp execOp
    simp only [ho, hx, hy, Sem.run_bind, Sem.run_pure, Result.andThen_ok, hr]
    exact hK _ _ (hk _ (h.setCell i hL off v))
end

/-! ### Regions that draw -/
theorem Hold.upd2 {w0 w w' : World} {R : List Nat} {L L' : List (Nat × Obj)} (h : Hold w0 R L w) {g : Nat} {o o' : Obj} (hx : (g, o) ∈ L) (hL : ∀ x ∈ L', (x ∈ L ∧ x.1 ≠ g) ∨ x = (g, o')) (hfst : L'.map (·.1) = L.map (·.1)) (hos : w'.os = w.os) (htp : w'.tape = w.tape) (hou : w'.output = w.output) (hsz : w.heap.size ≤ w'.heap.size)
    (hg : w'.heap[g]? = some o') (hk : ∀ k, k < w.heap.size → k ≠ g → w'.heap[k]? = w.heap[k]?) : Hold w0 R L' w' := by
  refine ⟨hos.trans h.os, htp.trans h.tape, hou.trans h.output, Nat.le_trans h.size hsz, fun x hx' => ?_, ?_, fun x hx' => ?_, fun k hk' hkR => ?_⟩
  · rcases hL x hx' with ⟨h1, h2⟩ | rfl
    · exact (hk x.1 (h.lt h1) h2).trans (h.blk x h1)
    · exact hg
  · have h1 : (L.map (·.1)).Pairwise (· ≠ ·) := List.pairwise_map.2 h.ne
    rw [← hfst] at h1
    exact List.pairwise_map.1 h1
  · have h1 : x.1 ∈ L.map (·.1) := by rw [← hfst]; exact List.mem_map_of_mem hx'
    obtain ⟨y, hy, e⟩ := List.mem_map.1 h1
    rw [← e]
    exact h.own y hy
  · rw [hk k (Nat.lt_of_lt_of_le hk' h.size) ?_]
    · exact h.frame k hk' hkR
    · rintro rfl
      rcases h.own (k, o) hx with h1 | h1
      · exact absurd hk' (Nat.not_lt.2 h1)
      · exact hkR h1
/-- Of what is to be made, what is. -/
def laidM (Ms : List (Nat × ((Nat → Bool) → Obj))) (D : Nat → Bool) (G : Nat → Nat) : List (Nat × Obj) := (Ms.filter fun m => D m.1).map fun m => (G m.1, m.2 D)
/-- In the middle of a phase: the blocks L, and those of Ms that have been made, with what lies in them by what has been done. -/
def PH (w0 : World) (R : List Nat) (L : (Nat → Bool) → List (Nat × Obj)) (Ms : List (Nat × ((Nat → Bool) → Obj))) (D : Nat → Bool) (π : Nat → Value) (w : World) : Prop :=
  ∃ G : Nat → Nat, (∀ m ∈ Ms, D m.1 = true → π m.1 = ptrV (G m.1)) ∧ Hold w0 R (L D ++ laidM Ms D G) w
/-- An operation's being done changes nothing of the blocks. -/
def Calm (L : (Nat → Bool) → List (Nat × Obj)) (Ms : List (Nat × ((Nat → Bool) → Obj))) (k : Nat) : Prop := (∀ D, L (upb D k) = L D) ∧ ∀ m ∈ Ms, ∀ D, m.2 (upb D k) = m.2 D
section
variable {P : Program} {w0 w : World} {R : List Nat} {L : (Nat → Bool) → List (Nat × Obj)} {Ms : List (Nat × ((Nat → Bool) → Obj))} {D : Nat → Bool} {π : Nat → Value}
theorem PH.start (Ms : List (Nat × ((Nat → Bool) → Obj))) (h : Hold w0 R (L fun _ => false) w) : PH w0 R L Ms (fun _ => false) (fun _ => undef) w := by
  refine ⟨fun _ => 0, fun _ _ h => (by cases h), ?_⟩
  have e : laidM Ms (fun _ => false) (fun _ => 0) = [] := by unfold laidM; simp
  rw [e, List.append_nil]; exact h
theorem PH.hold (h : PH w0 R L Ms D π w) : Hold w0 R (L D) w := by
  obtain ⟨G, _, hh⟩ := h
  exact hh.sub (List.sublist_append_left _ _)
theorem PH.get (h : PH w0 R L Ms D π w) (i : Nat) {g : Nat} {o : Obj} (hL : (L D)[i]? = some (g, o)) : w.heap[g]? = some o := h.hold.get i hL
theorem PH.below {w' : World} (h : PH w0 R L Ms D π w) (hb : Below w.heap.size w w') : PH w0 R L Ms D π w' := by
  obtain ⟨G, h1, hh⟩ := h
  exact ⟨G, h1, hh.call hb⟩
theorem laidM_calm {Ms : List (Nat × ((Nat → Bool) → Obj))} {k : Nat} (hc : ∀ m ∈ Ms, ∀ D, m.2 (upb D k) = m.2 D) (hk : ∀ m ∈ Ms, m.1 ≠ k) (D : Nat → Bool) (G : Nat → Nat) (g : Nat) : laidM Ms (upb D k) (fun j => if j = k then g else G j) = laidM Ms D G := by
  induction Ms with
  | nil => rfl
  | cons m r ih =>
    have h1 := hk m (by simp)
    have h2 := ih (fun m hm => hc m (by simp [hm])) fun m hm => hk m (by simp [hm])
    unfold laidM at *
    have e : upb D k m.1 = D m.1 := if_neg h1
    rw [List.filter_cons, List.filter_cons, e]
    split
    · rw [List.map_cons, List.map_cons, h2]
      show ((if m.1 = k then g else G m.1), m.2 (upb D k)) :: _ = _
      rw [if_neg h1, hc m (by simp)]
    · exact h2
theorem laidM_make : ∀ {Ms : List (Nat × ((Nat → Bool) → Obj))} {k : Nat} {f : (Nat → Bool) → Obj}, (∀ m ∈ Ms, ∀ D, m.2 (upb D k) = m.2 D) → (k, f) ∈ Ms → Ms.Pairwise (fun x y => x.1 ≠ y.1) → ∀ (D : Nat → Bool) (G : Nat → Nat) (g : Nat), D k = false →
    (laidM Ms D G ++ [(g, f D)]).Perm (laidM Ms (upb D k) (fun j => if j = k then g else G j))
  | m :: r, k, f, hc, hm, hp, D, G, g, hD => by
    rw [List.pairwise_cons] at hp
    by_cases hk : m.1 = k
    · have e : m = (k, f) := by
        rcases List.mem_cons.1 hm with h | h
        · exact h.symm
        · exact absurd hk (hp.1 (k, f) h)
      subst e
      have hn := laidM_calm (Ms := r) (k := k) (fun m hm => hc m (by simp [hm])) (fun m hm => Ne.symm (hp.1 m hm)) D G g
      have hcf : f (upb D k) = f D := hc (k, f) (by simp) D
      unfold laidM at *
      have e2 : upb D k k = true := if_pos rfl
      rw [List.filter_cons_of_neg (by simp [hD]), List.filter_cons_of_pos (by exact e2), List.map_cons, hn]
      show List.Perm _ (((if k = k then g else G k), f (upb D k)) :: _)
      rw [if_pos rfl, hcf]
      exact List.perm_append_comm
    · have hm' : (k, f) ∈ r := by
        rcases List.mem_cons.1 hm with h | h
        · exact absurd (congrArg Prod.fst h.symm) hk
        · exact h
      have ih := laidM_make (fun m hm => hc m (by simp [hm])) hm' hp.2 D G g hD
      unfold laidM at *
      have e : upb D k m.1 = D m.1 := if_neg hk
      rw [List.filter_cons, List.filter_cons, e]
      split
      · rw [List.map_cons, List.map_cons, List.cons_append]
        show List.Perm _ (((if m.1 = k then g else G m.1), m.2 (upb D k)) :: _)
        rw [if_neg hk, hc m (by simp)]
        exact ih.cons _
      · exact ih
theorem PH.make {k : Nat} {f : (Nat → Bool) → Obj} (h : PH w0 R L Ms D π w) (hc : Calm L Ms k) (hm : (k, f) ∈ Ms) (hp : Ms.Pairwise fun x y => x.1 ≠ y.1) (hD : D k = false) : PH w0 R L Ms (upb D k) (upd π k (ptrV w.heap.size)) (w.alloc (f D)) := by
  obtain ⟨G, h1, hh⟩ := h
  refine ⟨fun j => if j = k then w.heap.size else G j, fun m hm hDm => ?_, ?_⟩
  · by_cases hk : m.1 = k
    · rw [hk, upd_same]; simp
    · rw [upd_ne _ _ hk]
      simp only [if_neg hk]
      exact h1 m hm (by rw [← upb_ne (D := D) hk]; exact hDm)
  · have h2 := hh.new (f D)
    rw [List.append_assoc] at h2
    rw [hc.1]
    exact h2.perm ((laidM_make hc.2 hm hp D G w.heap.size hD).append_left (L D))
/-- A whole variable of those that were there laid, ahead of the gate. -/
theorem PH.put {k i g : Nat} {t : TypeId} {old cs : Array Value} (h : PH w0 R L Ms D π w) (hL : (L D)[i]? = some (bl g t old)) (hL2 : L (upb D k) = (L D).set i (bl g t cs)) (hc : ∀ m ∈ Ms, ∀ D, m.2 (upb D k) = m.2 D) (hk : ∀ m ∈ Ms, m.1 ≠ k) : PH w0 R L Ms (upb D k) (upd π k undef) (w.setRow g cs) := by
  obtain ⟨G, h1, hh⟩ := h
  refine ⟨G, fun m hm hDm => ?_, ?_⟩
  · rw [upd_ne _ _ (hk m hm)]
    exact h1 m hm (by rw [← upb_ne (D := D) (hk m hm)]; exact hDm)
  · have hi := (List.getElem?_eq_some_iff.1 hL).1
    have h2 := hh.setRow i (cs := old) (by rw [List.getElem?_append_left hi]; exact hL) cs
    rw [List.set_append_left _ _ hi] at h2
    rw [hL2]
    have e : laidM Ms (upb D k) G = laidM Ms D G := by
      have := laidM_calm hc hk D G (G k)
      have e2 : (fun j => if j = k then G k else G j) = G := by funext j; split <;> simp_all
      rw [e2] at this
      exact this
    rw [e]; exact h2
/-- A whole variable that was made in the phase laid, ahead of the gate. -/
theorem PH.putM {k m : Nat} {f : (Nat → Bool) → Obj} {t : TypeId} {old cs : Array Value} (h : PH w0 R L Ms D π w) (hm : (m, f) ∈ Ms) (hp : Ms.Pairwise fun x y => x.1 ≠ y.1) (hDm : D m = true) (hf : f D = .cells old t (0, 0)) (hf2 : f (upb D k) = .cells cs t (0, 0))
    (hoth : ∀ x ∈ Ms, x.1 ≠ m → x.2 (upb D k) = x.2 D) (hL : L (upb D k) = L D) (hk : ∀ x ∈ Ms, x.1 ≠ k) : ∃ g, π m = ptrV g ∧ w.heap[g]? = some (.cells old t (0, 0)) ∧ PH w0 R L Ms (upb D k) (upd π k undef) (w.setRow g cs) := by
  obtain ⟨G, h1, hh⟩ := h
  have hmem : (G m, Obj.cells old t (0, 0)) ∈ L D ++ laidM Ms D G := by
    refine List.mem_append_right _ (List.mem_map.2 ⟨(m, f), List.mem_filter.2 ⟨hm, hDm⟩, ?_⟩)
    show (G m, f D) = _
    rw [hf]
  have hb := hh.blk _ hmem
  have hfil : (Ms.filter fun x => upb D k x.1) = Ms.filter fun x => D x.1 := List.filter_congr fun x hx => by
    show upb D k x.1 = D x.1
    rw [upb_ne (hk x hx)]
  refine ⟨G m, h1 (m, f) hm hDm, hb, G, fun x hx hDx => ?_, ?_⟩
  · rw [upd_ne _ _ (hk x hx)]
    exact h1 x hx (by rw [← upb_ne (D := D) (hk x hx)]; exact hDx)
  · refine hh.upd2 hmem (o' := .cells cs t (0, 0)) (fun x hx => ?_) ?_ rfl rfl rfl (by simp [World.setRow]) (setRow_heap w (G m) old cs t (0, 0) hb) (fun j _ hj => setRow_other w (G m) j cs hj)
    · rw [hL] at hx
      rcases List.mem_append.1 hx with hx | hx
      · left
        refine ⟨List.mem_append_left _ hx, ?_⟩
        exact (List.pairwise_append.1 hh.ne).2.2 x hx _ (List.mem_map.2 ⟨(m, f), List.mem_filter.2 ⟨hm, hDm⟩, rfl⟩)
      · unfold laidM at hx
        rw [hfil] at hx
        obtain ⟨y, hy, rfl⟩ := List.mem_map.1 hx
        obtain ⟨hy1, hy2⟩ := List.mem_filter.1 hy
        by_cases hym : y.1 = m
        · right
          have hye : y = (m, f) := by
            obtain ⟨a, ha, ea⟩ := List.mem_iff_getElem.1 hy1
            obtain ⟨b, hb', eb⟩ := List.mem_iff_getElem.1 hm
            rcases Nat.lt_trichotomy a b with h3 | h3 | h3
            · have := List.pairwise_iff_getElem.1 hp a b ha hb' h3
              rw [ea, eb] at this; exact absurd hym this
            · subst h3; rw [← ea, eb]
            · have := List.pairwise_iff_getElem.1 hp b a hb' ha h3
              rw [ea, eb] at this; exact absurd hym.symm this
          subst hye
          show (G m, f (upb D k)) = _
          rw [hf2]
        · left
          have e := hoth y hy1 hym
          refine ⟨List.mem_append_right _ (List.mem_map.2 ⟨y, hy, ?_⟩), ?_⟩
          · show (G y.1, y.2 D) = (G y.1, y.2 (upb D k))
            rw [e]
          · show G y.1 ≠ G m
            have hpw := (List.pairwise_append.1 hh.ne).2.1
            unfold laidM at hpw
            rw [List.pairwise_map] at hpw
            obtain ⟨a, ha, ea⟩ := List.mem_iff_getElem.1 hy
            obtain ⟨b, hb', eb⟩ := List.mem_iff_getElem.1 (List.mem_filter.2 ⟨hm, hDm⟩ : (m, f) ∈ Ms.filter fun x => D x.1)
            rcases Nat.lt_trichotomy a b with h3 | h3 | h3
            · have := List.pairwise_iff_getElem.1 hpw a b ha hb' h3
              rw [ea, eb] at this; exact this
            · subst h3; rw [ea] at eb; exact absurd (congrArg Prod.fst eb) hym
            · have := List.pairwise_iff_getElem.1 hpw b a hb' ha h3
              rw [ea, eb] at this; exact Ne.symm this
    · rw [List.map_append, List.map_append, hL]
      congr 1
      unfold laidM
      rw [hfil, List.map_map, List.map_map]
      rfl
theorem PH.full (h : PH w0 R L Ms D π w) (hD : ∀ m ∈ Ms, D m.1 = true) : ∃ G : Nat → Nat, (∀ m ∈ Ms, π m.1 = ptrV (G m.1)) ∧ Hold w0 R (L D ++ Ms.map fun m => (G m.1, m.2 D)) w := by
  obtain ⟨G, h1, hh⟩ := h
  refine ⟨G, fun m hm => h1 m hm (hD m hm), ?_⟩
  have e : laidM Ms D G = Ms.map fun m => (G m.1, m.2 D) := by
    unfold laidM
    rw [List.filter_eq_self.2 hD]
  rw [e] at hh; exact hh
theorem PH.full0 (h : PH w0 R L [] D π w) : Hold w0 R (L D) w := h.hold
theorem PH.full1 {k : Nat} {f : (Nat → Bool) → Obj} (h : PH w0 R L [(k, f)] D π w) (hD : D k = true) : ∃ g, π k = ptrV g ∧ Hold w0 R (L D ++ [(g, f D)]) w := by
  obtain ⟨G, h1, h2⟩ := h.full (fun m hm => by obtain rfl : m = (k, f) := (by simpa using hm); exact hD)
  exact ⟨G k, h1 (k, f) (by simp), h2⟩
theorem PH.full2 {k k2 : Nat} {f f2 : (Nat → Bool) → Obj} (h : PH w0 R L [(k, f), (k2, f2)] D π w) (hD : D k = true) (hD2 : D k2 = true) : ∃ g g2, π k = ptrV g ∧ π k2 = ptrV g2 ∧ Hold w0 R (L D ++ [(g, f D), (g2, f2 D)]) w := by
  obtain ⟨G, h1, h2⟩ := h.full (fun m hm => by
    rcases (by simpa using hm : m = (k, f) ∨ m = (k2, f2)) with rfl | rfl
    · exact hD
    · exact hD2)
  exact ⟨G k, G k2, h1 (k, f) (by simp), h1 (k2, f2) (by simp), h2⟩
theorem PH.full4 {k k2 k3 k4 : Nat} {f f2 f3 f4 : (Nat → Bool) → Obj} (h : PH w0 R L [(k, f), (k2, f2), (k3, f3), (k4, f4)] D π w) (hD : D k = true) (hD2 : D k2 = true) (hD3 : D k3 = true) (hD4 : D k4 = true) : ∃ g g2 g3 g4, π k = ptrV g ∧ π k2 = ptrV g2 ∧ π k3 = ptrV g3 ∧ π k4 = ptrV g4 ∧ Hold w0 R (L D ++ [(g, f D), (g2, f2 D), (g3, f3 D), (g4, f4 D)]) w := by
  obtain ⟨G, h1, h2⟩ := h.full (fun m hm => by
    rcases (by simpa using hm : m = (k, f) ∨ m = (k2, f2) ∨ m = (k3, f3) ∨ m = (k4, f4)) with rfl | rfl | rfl | rfl
    · exact hD
    · exact hD2
    · exact hD3
    · exact hD4)
  exact ⟨G k, G k2, G k3, G k4, h1 (k, f) (by simp), h1 (k2, f2) (by simp), h1 (k3, f3) (by simp), h1 (k4, f4) (by simp), h2⟩

variable {ops : Array Oper} {o : Oper} {a : Act} {Q : Exit → Act → World → Prop}
theorem SureH.load (i : Nat) {g : Nat} {t : TypeId} {cs : Array Value} (hL : (L D)[i]? = some (bl g t cs)) (hwant : Region.wanted o (yielded ops a.tmps) = true) (ty : TypeId) (x : Operand) (ho : o.op = .load ty x)
    (hx : a.eval x = .pointer (some ⟨g, 0, none⟩)) (hdd : (P.underlying ty).map (·.isRow) = some true) (hi : (P.info? ty).map (·.size) = some cs.size) : Sure P ops (PH w0 R L Ms D π) o (.agg cs) a := by
  obtain ⟨d, hu, hdr⟩ := isRow_desc hdd
  exact Sure.val hwant fun w hw => by
    unfold execOp
    simp only [ho, hx, Instr.loadAt, Instr.sureAddr, Sem.run_bind, Sem.run_pure, Result.andThen_ok, run_loadVar_row w g t ty _ _ d (hw.get i hL) hu (by cases d <;> first | rfl | cases hdr) hi]
theorem SureH.part (i : Nat) (xs : Array Value) {g off : Nat} {t : TypeId} {cs : Array Value} (hL : (L D)[i]? = some (bl g t cs)) (hc : ∀ j, j < xs.size → cs[off + j]? = xs[j]?) (hwant : Region.wanted o (yielded ops a.tmps) = true) (ty : TypeId) (x : Operand) (ho : o.op = .load ty x)
    (hx : a.eval x = .pointer (some ⟨g, off, none⟩)) (hdd : (P.underlying ty).map (·.isRow) = some true) (hi : (P.info? ty).map (·.size) = some xs.size) : Sure P ops (PH w0 R L Ms D π) o (.agg xs) a := by
  obtain ⟨d, hu, hdr⟩ := isRow_desc hdd
  exact Sure.val hwant fun w hw => by
    have hr := run_loadAt_mid (P := P) w g off ty _ d (hw.hold.range i hL off xs hc) hu hdr (by rw [hi, Array.length_toList])
    unfold execOp
    simp only [ho, hx, Sem.run_bind, Sem.run_pure, Result.andThen_ok, hr]
theorem SureH.call {f : FuncId} {args : Array Value} {v : Value} (hc : ∀ w, Calls P f args w fun e w' => e = .returned v ∧ Below w.heap.size w w') (hwant : Region.wanted o (yielded ops a.tmps) = true) (hr : ∀ w, (execOp a.eval o).run P w = .ok (.enter f args) w) :
    Sure P ops (PH w0 R L Ms D π) o v a := Sure.call hwant hr fun w hw => (hc w).mono fun _ _ ⟨he, hb⟩ => ⟨he, hw.below hb⟩
theorem SureH.build (cells : Array Value) (t : TypeId) (parts : Array (Nat × Operand)) (ho : o.op = .build t parts) (hwant : Region.wanted o (yielded ops a.tmps) = true) (vals : List (Nat × Value)) (hv : (parts.map fun (i, x) => (i, a.eval x)).toList = vals)
    (hb : P.built t vals = some cells) : Sure P ops (PH w0 R L Ms D π) o (.agg cells) a :=
  Sure.val hwant fun w _ => exec_build t parts ho cells vals hv hb w
theorem SureH.pure {v : Value} (hwant : Region.wanted o (yielded ops a.tmps) = true) (hr : ∀ w, (execOp a.eval o).run P w = .ok (.value v) w) : Sure P ops (PH w0 R L Ms D π) o v a := Sure.val hwant fun w _ => hr w
/-- A cell read. -/
theorem SureH.cell (i : Nat) (v : Value) {g off : Nat} {t : TypeId} {cs : Array Value} (hL : (L D)[i]? = some (bl g t cs)) (hc : cs[off]? = some v) (hwant : Region.wanted o (yielded ops a.tmps) = true)
    (hr : ∀ w : World, w.cell? ⟨g, off, none⟩ = some v → (execOp a.eval o).run P w = .ok (.value v) w) : Sure P ops (PH w0 R L Ms D π) o v a :=
  Sure.val hwant fun w hw => hr w (by rw [hw.hold.cell i hL, hc])
variable {md : Region.Mode} {isM : Nat → Bool}
theorem MakesH.alloc {k : Nat} (ty : TypeId) (ho : o.op = .alloc ty) (cs : Array Value) (hz : (P.info? ty).bind (·.zero) = some (.agg cs)) (f : (Nat → Bool) → Obj) (hm : (k, f) ∈ Ms) (hf : ∀ D, MetH md ops isM k D → f D = .cells cs ty (0, 0)) (hc : Calm L Ms k) (hp : Ms.Pairwise fun x y => x.1 ≠ y.1) (hwant : Region.wanted o (yielded ops a.tmps) = true) :
    MakesM P md ops (PH w0 R L Ms) isM k o π a := by
  refine ⟨hwant, fun D w hmet hD hS => ?_⟩
  have hr : (execOp a.eval o).run P w = .ok (.value (ptrV w.heap.size)) (w.alloc (.cells cs ty)) := by
    unfold execOp
    simp only [ho, Sem.run_bind, Sem.run_pure, Result.andThen_ok, run_alloc_Blk ty cs hz]
  rw [hr]
  have := hS.make hc hm hp hD
  rw [hf D hmet] at this
  exact this
/-- A store ahead of the gate, into a variable that was there. -/
theorem MakesH.store {k i g : Nat} {t : TypeId} {old cs : Array Value} (hL : ∀ D, MetH md ops isM k D → D k = false → (L D)[i]? = some (bl g t old)) (hL2 : ∀ D, MetH md ops isM k D → L (upb D k) = (L D).set i (bl g t cs)) (hc : ∀ m ∈ Ms, ∀ D, m.2 (upb D k) = m.2 D) (hk : ∀ m ∈ Ms, m.1 ≠ k)
    (ty : TypeId) (x y : Operand) (ho : o.op = .store ty x y) (hx : a.eval x = ptrV g) (hy : a.eval y = .agg cs) (hi : (P.info? ty).map (·.size) = some cs.size) (hold : old.size = cs.size) (h1 : cs.all (·.oneCell') = true) (hwant : Region.wanted o (yielded ops a.tmps) = true) :
    MakesM P md ops (PH w0 R L Ms) isM k o π a := by
  refine ⟨hwant, fun D w hmet hD hS => ?_⟩
  have hr : (execOp a.eval o).run P w = .ok .skip (w.setRow g cs) := by
    unfold execOp
    simp only [ho, hx, hy, Instr.storeAt, Instr.sureAddr, Sem.run_bind, Sem.run_pure, Result.andThen_ok, run_storeVar_row w g t ty old cs (hS.get i (hL D hmet hD)) hi hold h1]
  rw [hr]
  exact hS.put (hL D hmet hD) (hL2 D hmet) hc hk
/-- A store ahead of the gate, into a variable that was made in the phase. -/
theorem MakesH.storeM {k m : Nat} (f : (Nat → Bool) → Obj) {t : TypeId} {old cs : Array Value} (hm : (m, f) ∈ Ms) (hp : Ms.Pairwise fun x y => x.1 ≠ y.1) (hmet : ∀ D, MetH md ops isM k D → D m = true) (hf : ∀ D, D k = false → f D = .cells old t (0, 0)) (hf2 : ∀ D, f (upb D k) = .cells cs t (0, 0))
    (hoth : ∀ x ∈ Ms, x.1 ≠ m → ∀ D, x.2 (upb D k) = x.2 D) (hL : ∀ D, L (upb D k) = L D) (hk : ∀ x ∈ Ms, x.1 ≠ k)
    (ty : TypeId) (x y : Operand) (ho : o.op = .store ty x y) (hx : a.eval x = π m) (hy : a.eval y = .agg cs) (hi : (P.info? ty).map (·.size) = some cs.size) (hold : old.size = cs.size) (h1 : cs.all (·.oneCell') = true) (hwant : Region.wanted o (yielded ops a.tmps) = true) :
    MakesM P md ops (PH w0 R L Ms) isM k o π a := by
  refine ⟨hwant, fun D w hM hD hS => ?_⟩
  obtain ⟨g, e, hb, h2⟩ := hS.putM hm hp (hmet D hM) (hf D hD) (hf2 D) (fun x hx hne => hoth x hx hne D) (hL D) hk
  have hr : (execOp a.eval o).run P w = .ok .skip (w.setRow g cs) := by
    unfold execOp
    simp only [ho, hx.trans e, hy, Instr.storeAt, Instr.sureAddr, Sem.run_bind, Sem.run_pure, Result.andThen_ok, run_storeVar_row w g t ty old cs hb hi hold h1]
  rw [hr]
  exact h2
end
section
variable {P : Program} {w0 w : World} {R : List Nat} {L : List (Nat × Obj)} {ops : Array Oper} {o : Oper} {a : Act} {Q : Exit → Act → World → Prop}
/-- The gate: a whole variable laid. -/
theorem wp_store_H (i : Nat) (h : Hold w0 R L w) {g : Nat} {t : TypeId} {old cs : Array Value} (hL : L[i]? = some (bl g t old)) (ty : TypeId) (x y : Operand) (ho : o.op = .store ty x y)
    (hx : a.eval x = .pointer (some ⟨g, 0, none⟩)) (hy : a.eval y = .agg cs) (hi : (P.info? ty).map (·.size) = some cs.size) (hold : old.size = cs.size) (h1 : cs.all (·.oneCell') = true) {K : Act → World → Prop}
    (hk : ∀ w', Hold w0 R (L.set i (bl g t cs)) w' → K (a.put o.dst undef) w') : o.wp P a w K Q :=
  wp_store_row ty x y ho g cs hx hy t old (h.get i hL) hi hold h1 (hk _ (h.setRow i hL cs))
/-- The gate: a part of a variable laid. -/
theorem wp_put_H (i : Nat) (h : Hold w0 R L w) {g off : Nat} {t : TypeId} {cs xs : Array Value} (hL : L[i]? = some (bl g t cs)) (ty : TypeId) (x y : Operand) (ho : o.op = .store ty x y)
    (hx : a.eval x = .pointer (some ⟨g, off, none⟩)) (hy : a.eval y = .agg xs) (hi : (P.info? ty).map (·.size) = some xs.size) (hn : off + xs.size ≤ cs.size) (h1 : xs.all (·.oneCell') = true) {K : Act → World → Prop}
    (hk : ∀ w', Hold w0 R (L.set i (bl g t (putL cs off xs.toList))) w' → K (a.put o.dst undef) w') : o.wp P a w K Q :=
  wp_store_mid ty x y ho g off xs hx hy (h.there i hL off xs.size hn) hi h1 (hk _ (Hold.setCells xs.toList off h i hL))
end
section
variable {P : Program} {w0 : World} {R : List Nat} {L : (Nat → Bool) → List (Nat × Obj)} {md : Region.Mode} {ops : Array Oper} {Q : Exit → Act → World → Prop} {isM : Nat → Bool} {A : (Nat → Value) → Act} {o : Oper} {rest : List Oper} {gt : Nat} {L' : List (Nat × Obj)}
/-- All that makes in the phase has been done. -/
def DoneH (isM : Nat → Bool) (gt : Nat) (D : Nat → Bool) : Prop := ∀ j, isM j = true → j < gt → D j = true
/-- The gate: an operation that turns no memory; nothing was made in the phase. -/
theorem SeqH.pure0 (v : Value) (hLL : ∀ D, DoneH isM gt D → L D = L') (hwant : ∀ π, Region.wanted o (yielded ops (A π).tmps) = true) (hr : ∀ π w, (execOp (A π).eval o).run P w = .ok (.value v) w)
    (hk : ∀ π w', Hold w0 R L' w' → Rest P md ops Q (gt + 1) ((A π).put o.dst v) w') : SeqH P md ops Q (PH w0 R L []) isM gt gt (o :: rest) A :=
  SeqH.gate hwant fun D π w hD hS => by
    unfold Oper.wp
    rw [hr π w]
    exact hk π w (by rw [← hLL D hD]; exact hS.full0)
/-- The same, where one variable was made. -/
theorem SeqH.pure1 (v : Value) {k : Nat} {f : (Nat → Bool) → Obj} {ob : Obj} (hLL : ∀ D, DoneH isM gt D → L D = L' ∧ f D = ob) (hM : (isM k && decide (k < gt)) = true) (hwant : ∀ π, Region.wanted o (yielded ops (A π).tmps) = true) (hr : ∀ π w, (execOp (A π).eval o).run P w = .ok (.value v) w)
    (hk : ∀ g π w', π k = ptrV g → Hold w0 R (L' ++ [(g, ob)]) w' → Rest P md ops Q (gt + 1) ((A π).put o.dst v) w') : SeqH P md ops Q (PH w0 R L [(k, f)]) isM gt gt (o :: rest) A :=
  SeqH.gate hwant fun D π w hD hS => by
    unfold Oper.wp
    rw [hr π w]
    rw [Bool.and_eq_true, decide_eq_true_eq] at hM
    obtain ⟨g, e, hS⟩ := hS.full1 (hD k hM.1 hM.2)
    rw [(hLL D hD).1, (hLL D hD).2] at hS
    exact hk g π w e hS
/-- The gate: a whole variable laid; nothing was made in the phase. -/
theorem SeqH.store0 (i : Nat) {g : Nat} {t : TypeId} {old cs : Array Value} (hLL : ∀ D, DoneH isM gt D → L D = L') (hL : L'[i]? = some (bl g t old)) (hwant : ∀ π, Region.wanted o (yielded ops (A π).tmps) = true) (ty : TypeId) (x y : Operand) (ho : o.op = .store ty x y)
    (hx : ∀ π, (A π).eval x = ptrV g) (hy : ∀ π, (A π).eval y = .agg cs) (hi : (P.info? ty).map (·.size) = some cs.size) (hold : old.size = cs.size) (h1 : cs.all (·.oneCell') = true)
    (hk : ∀ π w', Hold w0 R (L'.set i (bl g t cs)) w' → Rest P md ops Q (gt + 1) ((A π).put o.dst undef) w') : SeqH P md ops Q (PH w0 R L []) isM gt gt (o :: rest) A :=
  SeqH.gate hwant fun D π w hD hS => wp_store_H i (by rw [← hLL D hD]; exact hS.full0) hL ty x y ho (hx π) (hy π) hi hold h1 (hk π)
/-- The same, where one variable was made. -/
theorem SeqH.store1 (i : Nat) {k : Nat} {f : (Nat → Bool) → Obj} {ob : Obj} {gi : Nat → Nat} {t : TypeId} {old cs : Array Value} (hLL : ∀ D, DoneH isM gt D → L D = L' ∧ f D = ob) (hL : ∀ g, (L' ++ [(g, ob)])[i]? = some (bl (gi g) t old)) (hM : (isM k && decide (k < gt)) = true) (hwant : ∀ π, Region.wanted o (yielded ops (A π).tmps) = true) (ty : TypeId) (x y : Operand) (ho : o.op = .store ty x y)
    (hx : ∀ g π, π k = ptrV g → (A π).eval x = ptrV (gi g)) (hy : ∀ π, (A π).eval y = .agg cs) (hi : (P.info? ty).map (·.size) = some cs.size) (hold : old.size = cs.size) (h1 : cs.all (·.oneCell') = true)
    (hk : ∀ g π w', π k = ptrV g → Hold w0 R ((L' ++ [(g, ob)]).set i (bl (gi g) t cs)) w' → Rest P md ops Q (gt + 1) ((A π).put o.dst undef) w') : SeqH P md ops Q (PH w0 R L [(k, f)]) isM gt gt (o :: rest) A :=
  SeqH.gate hwant fun D π w hD hS => by
    rw [Bool.and_eq_true, decide_eq_true_eq] at hM
    obtain ⟨g, e, hS⟩ := hS.full1 (hD k hM.1 hM.2)
    rw [(hLL D hD).1, (hLL D hD).2] at hS
    exact wp_store_H i hS (hL g) ty x y ho (hx g π e) (hy π) hi hold h1 (hk g π · e)
/-- The same, where two were. -/
theorem SeqH.store2 (i : Nat) {k k2 : Nat} {f f2 : (Nat → Bool) → Obj} {ob ob2 : Obj} {gi : Nat → Nat → Nat} {t : TypeId} {old cs : Array Value} (hLL : ∀ D, DoneH isM gt D → L D = L' ∧ f D = ob ∧ f2 D = ob2) (hL : ∀ g g2, (L' ++ [(g, ob), (g2, ob2)])[i]? = some (bl (gi g g2) t old)) (hM : (isM k && decide (k < gt)) = true) (hM2 : (isM k2 && decide (k2 < gt)) = true) (hwant : ∀ π, Region.wanted o (yielded ops (A π).tmps) = true) (ty : TypeId) (x y : Operand) (ho : o.op = .store ty x y)
    (hx : ∀ g g2 π, π k = ptrV g → π k2 = ptrV g2 → (A π).eval x = ptrV (gi g g2)) (hy : ∀ π, (A π).eval y = .agg cs) (hi : (P.info? ty).map (·.size) = some cs.size) (hold : old.size = cs.size) (h1 : cs.all (·.oneCell') = true)
    (hk : ∀ g g2 π w', π k = ptrV g → π k2 = ptrV g2 → Hold w0 R ((L' ++ [(g, ob), (g2, ob2)]).set i (bl (gi g g2) t cs)) w' → Rest P md ops Q (gt + 1) ((A π).put o.dst undef) w') : SeqH P md ops Q (PH w0 R L [(k, f), (k2, f2)]) isM gt gt (o :: rest) A :=
  SeqH.gate hwant fun D π w hD hS => by
    rw [Bool.and_eq_true, decide_eq_true_eq] at hM hM2
    obtain ⟨g, g2, e, e2, hS⟩ := hS.full2 (hD k hM.1 hM.2) (hD k2 hM2.1 hM2.2)
    rw [(hLL D hD).1, (hLL D hD).2.1, (hLL D hD).2.2] at hS
    exact wp_store_H i hS (hL g g2) ty x y ho (hx g g2 π e e2) (hy π) hi hold h1 (hk g g2 π · e e2)
/-- The same, where four were. -/
theorem SeqH.store4 (i : Nat) {k k2 k3 k4 : Nat} {f f2 f3 f4 : (Nat → Bool) → Obj} {ob ob2 ob3 ob4 : Obj} {gi : Nat → Nat → Nat → Nat → Nat} {t : TypeId} {old cs : Array Value} (hLL : ∀ D, DoneH isM gt D → L D = L' ∧ f D = ob ∧ f2 D = ob2 ∧ f3 D = ob3 ∧ f4 D = ob4) (hL : ∀ g g2 g3 g4, (L' ++ [(g, ob), (g2, ob2), (g3, ob3), (g4, ob4)])[i]? = some (bl (gi g g2 g3 g4) t old))
    (hM : (isM k && decide (k < gt)) = true) (hM2 : (isM k2 && decide (k2 < gt)) = true) (hM3 : (isM k3 && decide (k3 < gt)) = true) (hM4 : (isM k4 && decide (k4 < gt)) = true) (hwant : ∀ π, Region.wanted o (yielded ops (A π).tmps) = true) (ty : TypeId) (x y : Operand) (ho : o.op = .store ty x y)
    (hx : ∀ g g2 g3 g4 π, π k = ptrV g → π k2 = ptrV g2 → π k3 = ptrV g3 → π k4 = ptrV g4 → (A π).eval x = ptrV (gi g g2 g3 g4)) (hy : ∀ π, (A π).eval y = .agg cs) (hi : (P.info? ty).map (·.size) = some cs.size) (hold : old.size = cs.size) (h1 : cs.all (·.oneCell') = true)
    (hk : ∀ g g2 g3 g4 π w', π k = ptrV g → π k2 = ptrV g2 → π k3 = ptrV g3 → π k4 = ptrV g4 → Hold w0 R ((L' ++ [(g, ob), (g2, ob2), (g3, ob3), (g4, ob4)]).set i (bl (gi g g2 g3 g4) t cs)) w' → Rest P md ops Q (gt + 1) ((A π).put o.dst undef) w') : SeqH P md ops Q (PH w0 R L [(k, f), (k2, f2), (k3, f3), (k4, f4)]) isM gt gt (o :: rest) A :=
  SeqH.gate hwant fun D π w hD hS => by
    rw [Bool.and_eq_true, decide_eq_true_eq] at hM hM2 hM3 hM4
    obtain ⟨g, g2, g3, g4, e, e2, e3, e4, hS⟩ := hS.full4 (hD k hM.1 hM.2) (hD k2 hM2.1 hM2.2) (hD k3 hM3.1 hM3.2) (hD k4 hM4.1 hM4.2)
    rw [(hLL D hD).1, (hLL D hD).2.1, (hLL D hD).2.2.1, (hLL D hD).2.2.2.1, (hLL D hD).2.2.2.2] at hS
    exact wp_store_H i hS (hL g g2 g3 g4) ty x y ho (hx g g2 g3 g4 π e e2 e3 e4) (hy π) hi hold h1 (hk g g2 g3 g4 π · e e2 e3 e4)
end
/-- The end of a function whose one result lies in a block. -/
theorem ret_H {P : Program} {w0 w : World} {R : List Nat} {L : List (Nat × Obj)} {fn : Func} {RR : Ending → World → Prop} {a : Act} {p : Tmp} {ty : TypeId} (i : Nat) (h : Hold w0 R L w) {g : Nat} {t : TypeId} {cs : Array Value} (hL : L[i]? = some (bl g t cs))
    (hf : fn.results = #[.cell p ty]) (hd : a.defers = []) (hp : a.tmps.getD p undef = .pointer (some ⟨g, 0, none⟩)) (hdd : (P.underlying ty).map (·.isRow) = some true) (hi : (P.info? ty).map (·.size) = some cs.size)
    (hR : RR (.returned (.agg cs)) w) : bodyPost P fn RR .ret a w := by
  obtain ⟨d, hu, hdr⟩ := isRow_desc hdd
  exact bodyPost_ret (results_cell_row hf _ _ g t cs (0, 0) d hp (h.get i hL) hu (by cases d <;> first | rfl | cases hdr) hi) hd hR
/-- The same, of two. -/
theorem ret_H2 {P : Program} {w0 w : World} {R : List Nat} {L : List (Nat × Obj)} {fn : Func} {RR : Ending → World → Prop} {a : Act} {p p2 : Tmp} {ty ty2 : TypeId} (i i2 : Nat) (h : Hold w0 R L w) {g g2 : Nat} {t t2 : TypeId} {cs cs2 : Array Value} (hL : L[i]? = some (bl g t cs)) (hL2 : L[i2]? = some (bl g2 t2 cs2))
    (hf : fn.results = #[.cell p ty, .cell p2 ty2]) (hd : a.defers = []) (hp : a.tmps.getD p undef = .pointer (some ⟨g, 0, none⟩)) (hp2 : a.tmps.getD p2 undef = .pointer (some ⟨g2, 0, none⟩)) (hdd : (P.underlying ty).map (·.isRow) = some true) (hi : (P.info? ty).map (·.size) = some cs.size)
    (hdd2 : (P.underlying ty2).map (·.isRow) = some true) (hi2 : (P.info? ty2).map (·.size) = some cs2.size) (hR : RR (.returned (.tuple #[.agg cs, .agg cs2])) w) : bodyPost P fn RR .ret a w := by
  obtain ⟨d, hu, hdr⟩ := isRow_desc hdd
  obtain ⟨d2, hu2, hdr2⟩ := isRow_desc hdd2
  have hp' : a.tmps[p]?.getD undef = .pointer (some ⟨g, 0, none⟩) := by simpa using hp
  have hp2' : a.tmps[p2]?.getD undef = .pointer (some ⟨g2, 0, none⟩) := by simpa using hp2
  exact bodyPost_ret (v := .tuple #[.agg cs, .agg cs2]) (by simp [results, hf, hp', hp2', asAddr, run_loadVar_row w g t ty cs (0, 0) d (h.get i hL) hu (by cases d <;> first | rfl | cases hdr) hi, run_loadVar_row w g2 t2 ty2 cs2 (0, 0) d2 (h.get i2 hL2) hu2 (by cases d2 <;> first | rfl | cases hdr2) hi2]) hd hR
/-- The first in a block, the second in a temporary. -/
theorem ret_Ht {P : Program} {w0 w : World} {R : List Nat} {L : List (Nat × Obj)} {fn : Func} {RR : Ending → World → Prop} {a : Act} {p t2 : Tmp} {ty : TypeId} (i : Nat) (h : Hold w0 R L w) {g : Nat} {t : TypeId} {cs : Array Value} (hL : L[i]? = some (bl g t cs)) (v : Value)
    (hf : fn.results = #[.cell p ty, .tmp t2]) (hd : a.defers = []) (hp : a.tmps.getD p undef = .pointer (some ⟨g, 0, none⟩)) (hv : a.tmps.getD t2 undef = v) (hdd : (P.underlying ty).map (·.isRow) = some true) (hi : (P.info? ty).map (·.size) = some cs.size)
    (hR : RR (.returned (.tuple #[.agg cs, v])) w) : bodyPost P fn RR .ret a w := by
  obtain ⟨d, hu, hdr⟩ := isRow_desc hdd
  have hp' : a.tmps[p]?.getD undef = .pointer (some ⟨g, 0, none⟩) := by simpa using hp
  have hv' : a.tmps[t2]?.getD undef = v := by simpa using hv
  exact bodyPost_ret (v := .tuple #[.agg cs, v]) (by simp [results, hf, hp', hv', asAddr, run_loadVar_row w g t ty cs (0, 0) d (h.get i hL) hu (by cases d <;> first | rfl | cases hdr) hi]) hd hR
/-- A store, as a step of a chain. -/
theorem exec_store_H {P : Program} {w0 w : World} {R : List Nat} {L : List (Nat × Obj)} {o : Oper} {a : Act} (i : Nat) (h : Hold w0 R L w) {g : Nat} {t : TypeId} {old cs : Array Value} (hL : L[i]? = some (bl g t old)) (ty : TypeId) (x y : Operand) (ho : o.op = .store ty x y)
    (hx : a.eval x = ptrV g) (hy : a.eval y = .agg cs) (hi : (P.info? ty).map (·.size) = some cs.size) (hold : old.size = cs.size) (h1 : cs.all (·.oneCell') = true) :
    ∃ w', (execOp a.eval o).run P w = .ok .skip w' ∧ Hold w0 R (L.set i (bl g t cs)) w' := by
  refine ⟨_, ?_, h.setRow i hL cs⟩
  unfold execOp
  simp only [ho, hx, hy, Instr.storeAt, Instr.sureAddr, Sem.run_bind, Sem.run_pure, Result.andThen_ok, run_storeVar_row w g t ty old cs (h.get i hL) hi hold h1]
/-- The last of a chain, a store. -/
theorem SeqP.last_H {P : Program} {w0 : World} {R : List Nat} {ops : Array Oper} {Q : Exit → Act → World → Prop} {SS : Nat → (Nat → Value) → World → Prop} {isM : Nat → Bool} {k p : Nat} {o : Oper} {A : (Nat → Value) → Act} (L : List (Nat × Obj)) (hSL : ∀ π w, SS p π w → Hold w0 R L w)
    (i : Nat) {g : Nat} {t : TypeId} {old cs : Array Value} (hL : L[i]? = some (bl g t old)) (hwant : ∀ π, Region.wanted o (yielded ops (A π).tmps) = true) (ty : TypeId) (x y : Operand) (ho : o.op = .store ty x y)
    (hx : ∀ π, (A π).eval x = ptrV g) (hy : ∀ π, (A π).eval y = .agg cs) (hi : (P.info? ty).map (·.size) = some cs.size) (hold : old.size = cs.size) (h1 : cs.all (·.oneCell') = true)
    (hk : ∀ π w', Hold w0 R (L.set i (bl g t cs)) w' → Q .normal ((A π).put o.dst undef) w') : SeqP P ops Q SS isM k [o] A p :=
  SeqP.last hwant fun π w hS => wp_store_H i (hSL π w hS) hL ty x y ho (hx π) (hy π) hi hold h1 (hk π)
end Go.Proofs.YticflflbogdljaaDoor
