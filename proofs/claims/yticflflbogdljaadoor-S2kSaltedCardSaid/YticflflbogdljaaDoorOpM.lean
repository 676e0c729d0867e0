/- What the operations on memory do to a heaplet. Plain theorems, over any program. -/
import Derived.Test.YticflflbogdljaaDoorOpF
import Derived.Laws.AppendOwn
import Derived.Laws.AppendOwnNone
import Derived.Laws.OwnMore
import Derived.Laws.IdiomStrings
import Derived.Great.BuildSlice
import Derived.Great.FillDense
namespace Go.Proofs.YticflflbogdljaaDoor
open Go Go.RowKit

theorem one_cells {v : Value} (h1 : v.oneCell' = true) : v.cells = #[v] := by cases v <;> first | rfl | cases h1
theorem putL_size : ∀ (vs : List Value) (cs : Array Value) (o : Nat), (putL cs o vs).size = cs.size
  | [], _, _ => rfl
  | v :: r, cs, o => by
    show (putL (cs.setIfInBounds o v) (o + 1) r).size = _
    rw [putL_size r]; simp
theorem putL_get : ∀ (vs : List Value) (cs : Array Value) (o k : Nat), (putL cs o vs)[k]? = if o ≤ k ∧ k < o + vs.length ∧ k < cs.size then vs[k - o]? else cs[k]?
  | [], cs, o, k => by
    have : ¬ (o ≤ k ∧ k < o + ([] : List Value).length ∧ k < cs.size) := by simp; omega
    rw [if_neg this]; rfl
  | v :: r, cs, o, k => by
    show (putL (cs.setIfInBounds o v) (o + 1) r)[k]? = _
    rw [putL_get r]
    simp only [Array.size_setIfInBounds, List.length_cons]
    by_cases hk : k < cs.size
    · by_cases h1 : o + 1 ≤ k ∧ k < o + 1 + r.length
      · rw [if_pos ⟨h1.1, h1.2, hk⟩, if_pos (by omega)]
        rw [show k - o = (k - (o + 1)) + 1 by omega, List.getElem?_cons_succ]
      · rw [if_neg (fun h => h1 ⟨h.1, h.2.1⟩)]
        by_cases h2 : o = k
        · subst h2
          rw [if_pos (by omega), Array.getElem?_setIfInBounds_self_of_lt hk, Nat.sub_self]
          rfl
        · rw [if_neg (by omega), Array.getElem?_setIfInBounds_ne h2]
    · rw [if_neg (by omega), if_neg (by omega), Array.getElem?_eq_none (by simp; omega), Array.getElem?_eq_none (by omega)]
/-- Bytes laid into a row. -/
theorem putL_row (n off k : Nat) (f fs : Nat → UInt8) : putL (row n f) off (row k fs).toList = row n (cpy off k f fs) := by
  apply Array.ext_getElem?
  intro j
  rw [putL_get, row_size]
  simp only [Array.length_toList, row_size, Array.getElem?_toList]
  by_cases hj : j < n
  · rw [row_get n _ j hj]
    by_cases h1 : off ≤ j ∧ j < off + k ∧ j < n
    · rw [if_pos h1, row_get k fs _ (by omega), row_get n _ j hj]
      show _ = some (by8 (if _ then _ else _))
      rw [if_pos ⟨h1.1, h1.2.1⟩]
    · rw [if_neg h1, row_get n _ j hj]
      show _ = some (by8 (if _ then _ else _))
      rw [if_neg (by omega)]
  · rw [if_neg (by omega), Array.getElem?_eq_none (by rw [row_size]; omega), Array.getElem?_eq_none (by rw [row_size]; omega)]

section
variable {P : Program} {a : Act} {o : Oper} {w w0 : World} {R : List Nat} {Hs : List Hl} {v vx vy : Value} {x y : Operand} {t ty e : TypeId} {g off : Nat} {cs cs' : Array Value}
/-- One cell read. -/
theorem opLoadC (ho : o.op = .load ty x) (hx : a.eval x = .pointer (some ⟨g, off, none⟩)) (hdd : (P.underlying ty).map (·.isRow) = some false) (hc : w.cell? ⟨g, off, none⟩ = some v) : (execOp a.eval o).run P w = .ok (.value v) w := by
  cases h : P.underlying ty with
  | none => rw [h] at hdd; cases hdd
  | some d =>
    rw [h] at hdd
    have hd : d.isRow = false := Option.some.inj hdd
    have hag : (isAgg ty).run P w = .ok false w := by cases d <;> first | (cases hd; done) | simp [isAgg, run_underlying h]
    unfold execOp
    simp only [ho, hx, Instr.loadAt, Instr.sureAddr, loadVar, Sem.run_bind, Sem.run_pure, Result.andThen_ok, hag, Bool.false_eq_true, if_false, run_load, hc]
theorem opLoad (i : Nat) (hH : HH w0 R Hs w) (hi : Hs[i]? = some [bl g t cs]) (ho : o.op = .load ty x) (hx : a.eval x = .pointer (some ⟨g, off, none⟩)) (hdd : (P.underlying ty).map (·.isRow) = some false) (hc : cs[off]? = some v) : (execOp a.eval o).run P w = .ok (.value v) w :=
  opLoadC ho hx hdd (by rw [cell_of_row w g off cs t (0, 0) (hH.blk i hi)]; exact hc)
/-- A struct or an array read. -/
theorem opLoadRC {xs : Array Value} (ho : o.op = .load ty x) (hx : a.eval x = .pointer (some ⟨g, off, none⟩)) (hdd : (P.underlying ty).map (·.isRow) = some true) (hs : (P.info? ty).map (·.size) = some xs.size) (hc : ∀ j u, xs[j]? = some u → w.cell? ⟨g, off + j, none⟩ = some u) : (execOp a.eval o).run P w = .ok (.value (.agg xs)) w := by
  obtain ⟨d, hu, hdr⟩ := isRow_desc hdd
  have hr := run_loadAt_mid (P := P) w g off ty xs.toList d (fun j u hj => hc j u (by rw [Array.getElem?_toList] at hj; exact hj)) hu hdr (by rw [hs, Array.length_toList])
  unfold execOp
  simp only [ho, hx, Sem.run_bind, Sem.run_pure, Result.andThen_ok, hr]
theorem opLoadR {xs : Array Value} (i : Nat) (hH : HH w0 R Hs w) (hi : Hs[i]? = some [bl g t cs]) (ho : o.op = .load ty x) (hx : a.eval x = .pointer (some ⟨g, off, none⟩)) (hdd : (P.underlying ty).map (·.isRow) = some true) (hs : (P.info? ty).map (·.size) = some xs.size) (hc : ∀ j u, xs[j]? = some u → cs[off + j]? = some u) : (execOp a.eval o).run P w = .ok (.value (.agg xs)) w :=
  opLoadRC ho hx hdd hs fun j u hj => by rw [cell_of_row w g (off + j) cs t (0, 0) (hH.blk i hi)]; exact hc j u hj
/-- A cell laid. -/
theorem smStore (ho : o.op = .store ty x y) (hx : a.eval x = .pointer (some ⟨g, off, none⟩)) (hy : a.eval y = v) (hs : (P.info? ty).map (·.size) = some 1) (hn : off < cs.size) (h1 : v.oneCell' = true) (hcs : cs.setIfInBounds off v = cs') :
    Small P a o [bl g t cs] (fun _ => True) (fun _ E' => E' = [bl g t cs']) := fun w hE _ => by
  subst hcs
  have hh := Has.hold hE
  have hc := one_cells h1
  have hth := Hold.there hh 0 rfl off 1 (by omega)
  have := run_storeCells_cells (P := P) g off [v] 0 w (fun j hj => by simpa using (hth j (by simpa using hj)).1) (fun j hj => by simpa using (hth j (by simpa using hj)).2) (fun x hx => by simp at hx; subst hx; exact h1)
  have hr : (Instr.storeAt ty (.pointer (some ⟨g, off, none⟩)) v).run P w = .ok () (w.setCell ⟨g, off, none⟩ v) := by
    cases hq : P.info? ty with
    | none => simp [hq] at hs
    | some i =>
      have hs : i.size = 1 := by simpa [hq] using hs
      simp only [Nat.add_zero] at this
      simp only [Instr.storeAt, Instr.sureAddr, Sem.run_bind, Sem.run_pure, Result.andThen_ok]
      simp [storeVar, sizeOf, typeInfo, hq, hc, hs, this, World.setCells]
  unfold execOp
  simp only [ho, hx, hy, Sem.run_bind, Sem.run_pure, Result.andThen_ok, hr]
  exact ⟨_, rfl, hh.setCell 0 rfl off v⟩
/-- A struct or an array laid. -/
theorem smStoreR {xs : Array Value} (ho : o.op = .store ty x y) (hx : a.eval x = .pointer (some ⟨g, off, none⟩)) (hy : a.eval y = .agg xs) (hs : (P.info? ty).map (·.size) = some xs.size) (hn : off + xs.size ≤ cs.size) (h1 : xs.all (·.oneCell') = true) (hcs : putL cs off xs.toList = cs') :
    Small P a o [bl g t cs] (fun _ => True) (fun _ E' => E' = [bl g t cs']) := fun w hE _ => by
  subst hcs
  have hh := Has.hold hE
  have hr := run_storeAt_mid (P := P) w g off ty xs (Hold.there hh 0 rfl off xs.size hn) hs h1
  unfold execOp
  simp only [ho, hx, hy, Sem.run_bind, Sem.run_pure, Result.andThen_ok, hr]
  exact ⟨_, rfl, Hold.setCells xs.toList off hh 0 rfl⟩
theorem Has.new (w : World) (ob : Obj) : Hold w [] [(w.heap.size, ob)] (w.alloc ob) := by
  have := (Hold.init w).new ob
  simpa using this
/-- A new variable. -/
theorem smAlloc {z : Value} (ho : o.op = .alloc ty) (hz : (P.info? ty).bind (·.zero) = some z) (hcs : z.cells = cs) : Small P a o [] (fun _ => True) (fun v E' => ∃ g, v = ptrV g ∧ E' = [bl g ty cs]) := fun w _ _ => by
  subst hcs
  have hr : (Instr.alloc ty true (.tuple #[])).run P w = .ok (.pointer (some ⟨w.heap.size, 0, none⟩)) (w.alloc (.cells z.cells ty)) := by
    cases hq : P.info? ty with
    | none => simp [hq] at hz
    | some i =>
      have hs : i.zero = some z := by simpa [hq] using hz
      simp [Instr.alloc, zeroValue, typeInfo, hq, hs, newVar, newRow]
  unfold execOp
  simp only [ho, Sem.run_bind, Sem.run_pure, Result.andThen_ok, hr]
  exact ⟨_, ⟨_, rfl, rfl⟩, Has.new w _⟩
theorem smBox (ho : o.op = .box ty x) (hx : a.eval x = v) (hcs : v.cells = cs) : Small P a o [] (fun _ => True) (fun v E' => ∃ g, v = ptrV g ∧ E' = [bl g ty cs]) := fun w _ _ => by
  subst hcs
  have hr : (Instr.box ty v).run P w = .ok (.pointer (some ⟨w.heap.size, 0, none⟩)) (w.alloc (.cells v.cells ty)) := by
    simp [Instr.box, newVar, newRow]
  unfold execOp
  simp only [ho, hx, Sem.run_bind, Sem.run_pure, Result.andThen_ok, hr]
  exact ⟨_, ⟨_, rfl, rfl⟩, Has.new w _⟩
/-- make, of n elements. -/
theorem smMake {n sz by_ : Nat} {z : Value} {k k2 : IntKind} {m m2 : Int} (ho : o.op = .makeSlice ty x y) (hu : P.underlying ty = some (.slice e)) (hi : (P.info? e).map (fun i => (i.zero, i.size, i.bytes)) = some (some z, sz, by_)) (hx : a.eval x = .int k m) (hy : a.eval y = .int k2 m2) (hm : m = (n : Int)) (hm2 : m2 = (n : Int)) (hb : by_ * n ≤ 281474976710656) (hn : n ≤ 9223372036854775807) (hcs : madeCells z.cells (n * sz) = cs) :
    Small P a o [] (fun _ => True) (fun v E' => ∃ g, v = .slice (some ⟨g, 0, none⟩) n n ∧ E' = [bl g e cs]) := fun w _ _ => by
  subst hcs hm hm2
  obtain ⟨i, hi', h2⟩ := Option.map_eq_some_iff.1 hi
  simp only [Prod.mk.injEq] at h2
  obtain ⟨hz, rfl, rfl⟩ := h2
  have hr := run_make (P := P) w ty e i z hu hi' hz k k2 n n (by omega) (by omega) (by rw [← Int.natCast_mul]; omega) (by omega)
  rw [Int.toNat_natCast] at hr
  unfold execOp
  simp only [ho, hx, hy, Sem.run_bind, Sem.run_pure, Result.andThen_ok, hr]
  exact ⟨_, ⟨_, rfl, rfl⟩, Has.new w _⟩
/-- A literal of a slice: of nothing; of one element. -/
theorem smLit0 (ho : o.op = .buildSlice ty 0 #[]) (hu : P.underlying ty = some (.slice e)) (hs : ((P.info? e).map (·.size)).isSome = true) :
    Small P a o [] (fun _ => True) (fun v E' => ∃ g, v = .slice (some ⟨g, 0, none⟩) 0 0 ∧ E' = [bl g e #[]]) := fun w _ _ => by
  obtain ⟨sz, hs⟩ := Option.isSome_iff_exists.1 hs
  obtain ⟨i, hi, rfl⟩ := Option.map_eq_some_iff.1 hs
  have hr : (Instr.buildSlice ty 0 #[]).run P w = .ok (.slice (some ⟨w.heap.size, 0, none⟩) 0 0) (w.alloc (.cells #[] e)) := by
    simp [Instr.buildSlice, run_underlying hu, sizeOf, typeInfo, hi, newRow, Instr.fill]
    rw [show Array.range 0 = #[] from rfl, Array.map_empty]
  unfold execOp
  simp only [ho, Sem.run_bind, Sem.run_pure, Result.andThen_ok, List.map_toArray, List.map_nil, hr]
  exact ⟨_, ⟨_, rfl, rfl⟩, Has.new w _⟩
theorem smLit1 {sz : Nat} {z : Value} {by_ : Nat} (ho : o.op = .buildSlice ty 1 #[(0, x)]) (hu : P.underlying ty = some (.slice e)) (hi : (P.info? e).map (fun i => (i.zero, i.size, i.bytes)) = some (some z, sz, by_)) (hx : a.eval x = v) (hv : v.cells.size = sz) (h0 : 0 < sz) (h1 : sz ≤ 16777216) (hcs : v.cells = cs) :
    Small P a o [] (fun _ => True) (fun v E' => ∃ g, v = .slice (some ⟨g, 0, none⟩) 1 1 ∧ E' = [bl g e cs]) := fun w _ _ => by
  subst hcs
  obtain ⟨i, hi', h2⟩ := Option.map_eq_some_iff.1 hi
  simp only [Prod.mk.injEq] at h2
  obtain ⟨hz, hsz, rfl⟩ := h2
  rw [← hsz] at hv h0 h1
  have hf : Instr.fill (fun k => some (k * i.size, i.size)) ((Array.range (1 * i.size)).map (z.cells[· % z.cells.size]!)) [(0, v)] = some v.cells := by
    obtain ⟨g1, g2⟩ := Great.foldl_set 0 v.cells.toList 0 ((Array.range (1 * i.size)).map (z.cells[· % z.cells.size]!))
    unfold Instr.fill
    simp only [hv]
    rw [if_neg (by simp)]
    unfold Instr.fill
    congr 1
    apply Array.ext_getElem?
    intro k
    have g3 := g2 k
    simp only [Nat.zero_mul, Array.toList_zipIdx, ← Array.foldl_toList] at g3 ⊢
    rw [g3]
    simp only [Array.length_toList, Array.size_map, Array.size_range, Nat.zero_add, Nat.one_mul, hv, Nat.sub_zero, Array.getElem?_toList]
    by_cases hk : k < i.size
    · rw [if_pos ⟨Nat.zero_le _, hk, hk⟩]
    · rw [if_neg (by omega), Array.getElem?_eq_none (by simp; omega), Array.getElem?_eq_none (by omega)]
  have hr := run_buildSlice (P := P) w ty e 1 #[(0, v)] v.cells i z hu hi' hz (by omega) (by omega) hf
  unfold execOp
  simp only [ho, Sem.run_bind, Sem.run_pure, Result.andThen_ok, List.map_toArray, List.map_cons, List.map_nil, hx, hr]
  exact ⟨_, ⟨_, rfl, rfl⟩, Has.new w _⟩

/-- A slice of the call's own, of n elements of sz cells, that are xs; it may be nil. -/
def OwnS (e : TypeId) (sz : Nat) (v : Value) (n : Nat) (xs : List Value) (E : Hl) : Prop :=
  xs.length = n * sz ∧ ((v = .slice none 0 0 ∧ n = 0 ∧ E = []) ∨
    ∃ g cap cur, v = .slice (some ⟨g, 0, none⟩) n cap ∧ E = [bl g e cur] ∧ n ≤ cap ∧ cap ≤ maxLen ∧ cur.size = cap * sz ∧ cur.toList.take (n * sz) = xs)
theorem OwnS.nil (e : TypeId) (sz : Nat) : OwnS e sz (.slice none 0 0) 0 [] [] := ⟨by simp, .inl ⟨rfl, rfl, rfl⟩⟩
theorem OwnS.full {sz n g : Nat} {cs : Array Value} (h : cs.size = n * sz) (hn : n ≤ maxLen) : OwnS e sz (.slice (some ⟨g, 0, none⟩) n n) n cs.toList [bl g e cs] :=
  ⟨by simp [h], .inr ⟨g, n, cs, rfl, rfl, Nat.le_refl _, hn, h, by rw [← h]; exact List.take_of_length_le (by simp)⟩⟩
theorem OwnS.made0 {sz n g : Nat} {cs : Array Value} (h : cs.size = n * sz) (hn : n ≤ maxLen) : OwnS e sz (.slice (some ⟨g, 0, none⟩) 0 n) 0 [] [bl g e cs] :=
  ⟨by simp, .inr ⟨g, n, cs, rfl, rfl, Nat.zero_le _, hn, h, by simp⟩⟩
theorem OwnS.slice {sz n : Nat} {xs : List Value} {E : Hl} (h : OwnS e sz v n xs E) : ∃ A c, v = .slice A n c := by
  rcases h.2 with ⟨rfl, rfl, _⟩ | ⟨g, cap, cur, rfl, _⟩
  · exact ⟨_, _, rfl⟩
  · exact ⟨_, _, rfl⟩
/-- One that holds something. -/
theorem OwnS.open {sz n : Nat} {xs : List Value} {E : Hl} (h : OwnS e sz v n xs E) (hn : 0 < n) : ∃ (g cap : Nat) (cur : Array Value), v = .slice (some ⟨g, 0, none⟩) n cap ∧ E = [bl g e cur] ∧ n ≤ cap ∧ ∀ (j : Nat) (u : Value), xs[j]? = some u → cur[j]? = some u := by
  rcases h.2 with ⟨_, h0, _⟩ | ⟨g, cap, cur, rfl, rfl, h1, h2, h3, h4⟩
  · omega
  · refine ⟨g, cap, cur, rfl, rfl, h1, fun j u hj => ?_⟩
    rw [← h4, List.getElem?_take] at hj
    split at hj
    · simpa using hj
    · cases hj
theorem add_zero_at (g k : Nat) : (⟨g, 0, none⟩ : Addr).add k = ⟨g, k, none⟩ := by rw [Addr.add_mid, Nat.zero_add]
/-- What is read of a slice. -/
def Cells (w : World) (A : Option Addr) (xs : List Value) : Prop := ∀ p j u, A = some p → xs[j]? = some u → w.cell? (p.add j) = some u
/-- append, to a slice of the call's own. -/
theorem smAppend {sz by_ n m c : Nat} {z : Value} {xs news : List Value} {A : Option Addr} {E : Hl} (ho : o.op = .call { callee := .builtin .append, args := #[x, y], argTypes := #[ty, ty] })
    (hu : P.underlying ty = some (.slice e)) (hi : (P.info? e).map (fun i => (i.zero, i.size, i.bytes)) = some (some z, sz, by_)) (hzs : z.cells.size = sz) (hsz : 0 < sz)
    (hx : a.eval x = v) (hO : OwnS e sz v n xs E) (hy : a.eval y = .slice A m c) (hA : A = none → m = 0 ∧ c = 0) (hl : news.length = m * sz) (h1 : ∀ u ∈ news, u.oneCell' = true) (h63 : n + m ≤ maxLen) (hbytes : (n + m) * by_ ≤ 140737488355328) :
    Small P a o E (fun w => Cells w A news) (fun v' E' => OwnS e sz v' (n + m) (xs ++ news) E' ∧ (v' = .slice none 0 0 ↔ v = .slice none 0 0 ∧ m = 0)) := fun w hE hR => by
  obtain ⟨i, hi', h2⟩ := Option.map_eq_some_iff.1 hi
  simp only [Prod.mk.injEq] at h2
  obtain ⟨hz, rfl, rfl⟩ := h2
  have hsmall : n + m ≤ 9223372036854775807 := by simp only [maxLen] at h63; omega
  have hlen : (xs ++ news).length = (n + m) * i.size := by rw [List.length_append, hO.1, hl, Nat.add_mul]
  suffices h : ∃ v' w' E', (Builtin.append_ #[ty, ty] o.type #[v, .slice A m c]).run P w = .ok v' w' ∧ (OwnS e i.size v' (n + m) (xs ++ news) E' ∧ (v' = .slice none 0 0 ↔ v = .slice none 0 0 ∧ m = 0)) ∧ Hold w (bks E) E' w' by
    obtain ⟨v', w', E', hr, hp, hh⟩ := h
    unfold execOp
    simp only [ho, resolve, invoke, builtin, Sem.run_bind, Sem.run_pure, Result.andThen_ok, List.map_toArray, List.map_cons, List.map_nil, hx, hy, hr]
    exact ⟨E', hp, hh⟩
  have hhold := Has.hold hE
  cases A with
  | none =>
    obtain ⟨rfl, rfl⟩ := hA rfl
    obtain rfl : news = [] := List.eq_nil_of_length_eq_zero (by simpa using hl)
    refine ⟨v, w, E, ?_, ⟨by simpa using hO, by simp⟩, hhold⟩
    rcases hO.2 with ⟨rfl, rfl, _⟩ | ⟨g, cap, cur, rfl, _, hnc, _⟩
    · simp [Builtin.append_, run_underlying hu, sizeOf, typeInfo, hi', Builtin.lenOf, Builtin.firstCells]
    · simp [Builtin.append_, run_underlying hu, sizeOf, typeInfo, hi', Builtin.lenOf, Builtin.firstCells, hnc, storeCells]
  | some p =>
    have hnews : ∀ j u, news[j]? = some u → w.cell? (p.add j) = some u := fun j u hj => hR p j u rfl hj
    have grown : ∀ (old : Nat), old < n + m → ∀ (B : List Nat),
        OwnS e i.size (.slice (some ⟨w.heap.size, 0, none⟩) (n + m) (grownCap w (n + m) old e)) (n + m) (xs ++ news) [bl w.heap.size e (xs.toArray ++ news.toArray ++ Builtin.zeroCells z.cells (grownCap w (n + m) old e - (n + m)))] ∧
        Hold w B [bl w.heap.size e (xs.toArray ++ news.toArray ++ Builtin.zeroCells z.cells (grownCap w (n + m) old e - (n + m)))] (w.drew.alloc (.cells (xs.toArray ++ news.toArray ++ Builtin.zeroCells z.cells (grownCap w (n + m) old e - (n + m))) e)) := by
      intro old ho B
      have hge := grownCap_ge w (n + m) old e
      have hcm : grownCap w (n + m) old e ≤ maxLen := grownCap_le_maxLen w (n + m) old e h63
      refine ⟨⟨hlen, .inr ⟨w.heap.size, _, _, rfl, rfl, hge, hcm, ?_, ?_⟩⟩, ?_⟩
      · simp only [Array.size_append, List.size_toArray, size_zeroCells, hzs, hO.1, hl, ← Nat.add_mul]
        congr 1
        omega
      · simp only [Array.toList_append, List.append_assoc]
        rw [← List.append_assoc, ← hlen]
        exact List.take_left
      · have := Has.new w.drew (.cells (xs.toArray ++ news.toArray ++ Builtin.zeroCells z.cells (grownCap w (n + m) old e - (n + m))) e)
        exact ⟨this.os, this.tape, this.output, this.size, this.blk, this.ne, fun x hx => (this.own x hx).imp id (fun h => (by cases h)), fun k hk _ => this.frame k hk (by simp)⟩
    rcases hO.2 with ⟨rfl, rfl, rfl⟩ | ⟨g, cap, cur, rfl, rfl, hnc, hcm, hcs, htake⟩
    · obtain rfl : xs = [] := List.eq_nil_of_length_eq_zero (by simpa using hO.1)
      by_cases hm : m = 0
      · subst hm
        obtain rfl : news = [] := List.eq_nil_of_length_eq_zero (by simpa using hl)
        refine ⟨.slice none 0 0, w, [], ?_, ⟨OwnS.nil _ _, by simp⟩, hhold⟩
        simp [Builtin.append_, run_underlying hu, sizeOf, typeInfo, hi', Builtin.lenOf, Builtin.firstCells, loadCells, loadCellsFrom]
      · have hr := run_append_nil (P := P) w ty o.type e i z hu hi' hz p m c news hl hnews (by omega) (by omega) (by have hb := hbytes; simp only [Nat.zero_add] at hb; omega)
        have hgr := grown 0 (by omega) (bks [])
        simp only [Nat.zero_add, List.nil_append, Array.empty_append] at hgr ⊢
        exact ⟨_, _, _, hr, ⟨hgr.1, by simp [hm]⟩, hgr.2⟩
    · have hg : w.heap[g]? = some (.cells cur e (0, 0)) := hE.blk (g, _) (by simp)
      by_cases hroom : n + m ≤ cap
      · have hfit : n * i.size + news.length ≤ cur.size := by rw [hl, hcs, ← Nat.add_mul]; exact Nat.mul_le_mul_right _ hroom
        have hr := run_append_room (P := P) w ty o.type e i hu hi' g n cap cur hg p m c news hl hnews h1 hroom hfit
        refine ⟨_, _, _, hr, ⟨⟨hlen, .inr ⟨g, cap, _, rfl, rfl, hroom, hcm, ?_, ?_⟩⟩, by simp⟩, hhold.setRow 0 rfl _⟩
        · simp only [List.size_toArray, List.length_append, List.length_take, List.length_drop, Array.length_toList]
          omega
        · rw [htake, ← hlen]
          exact List.take_left
      · have holds : ∀ j u, xs[j]? = some u → w.cell? ((⟨g, 0, none⟩ : Addr).add j) = some u := fun j u hj => by
          rw [add_zero_at, cell_of_row w g j cur e (0, 0) hg]
          rw [← htake, List.getElem?_take] at hj
          split at hj
          · simpa using hj
          · cases hj
        have hr := run_append_grow (P := P) w ty o.type e i z hu hi' hz ⟨g, 0, none⟩ n cap xs hO.1 holds p m c news hl hnews (by omega) (by omega) (growslice_fits (by omega) hbytes)
        have hgr := grown cap (by omega) (bks [bl g e cur])
        exact ⟨_, _, _, hr, ⟨hgr.1, by simp⟩, hgr.2⟩
/-- copy, into a block. -/
theorem smCopy {ty2 : TypeId} {sz dn dc sn sc k : Nat} {news : List Value} {A : Option Addr} (ho : o.op = .call { callee := .builtin .copy, args := #[x, y], argTypes := #[ty, ty2] })
    (hu : P.underlying ty = some (.slice e)) (hs : (P.info? e).map (·.size) = some sz) (hx : a.eval x = .slice (some ⟨g, off, none⟩) dn dc) (hy : a.eval y = .slice A sn sc) (hA : A = none → sn = 0)
    (hk : k = Nat.min sn dn) (hl : news.length = k * sz) (h1 : ∀ u ∈ news, u.oneCell' = true) (hfit : off + k * sz ≤ cs.size) (hcs : putL cs off news = cs') :
    Small P a o [bl g t cs] (fun w => Cells w A news) (fun v' E' => v' = .int .i64 (k : Int) ∧ E' = [bl g t cs']) := fun w hE hR => by
  subst hcs
  obtain ⟨i, hi, rfl⟩ := Option.map_eq_some_iff.1 hs
  have hh := Has.hold hE
  have hth := Hold.there hh 0 rfl off (k * i.size) (by omega)
  have hst := run_storeCells_cells (P := P) g off news 0 w (fun j hj => by simpa using (hth j (by omega)).1) (fun j hj => by simpa using (hth j (by omega)).2) h1
  simp only [Nat.add_zero] at hst
  have hf : (Builtin.firstCells i.size k (.slice A sn sc)).run P w = .ok news.toArray w := by
    cases A with
    | none =>
      have h0 := hA rfl
      subst h0
      have : k = 0 := by rw [hk]; exact Nat.zero_min _
      subst this
      obtain rfl : news = [] := List.eq_nil_of_length_eq_zero (by simpa using hl)
      simp [Builtin.firstCells]
    | some p => exact run_firstCells_some (P := P) w i.size k p sn sc news hl fun j u hj => hR p j u rfl hj
  have hr : (Builtin.copy_ #[ty, ty2] o.type #[.slice (some ⟨g, off, none⟩) dn dc, .slice A sn sc]).run P w = .ok (goInt k) (w.setCells g off news) := by
    simp [Builtin.copy_, run_underlying hu, sizeOf, typeInfo, hi, Builtin.lenOf, ← hk, hf, hst]
  unfold execOp
  simp only [ho, resolve, invoke, builtin, Sem.run_bind, Sem.run_pure, Result.andThen_ok, List.map_toArray, List.map_cons, List.map_nil, hx, hy, hr]
  exact ⟨_, ⟨rfl, rfl⟩, Hold.setCells news off hh 0 rfl⟩
end
end Go.Proofs.YticflflbogdljaaDoor
