/- More operations: structs by value, arrays, constant strings, marked rows, what a function hands back in a cell. Plain theorems, over any program. -/
import Derived.Test.YticflflbogdljaaDoorOpU
import Derived.Laws.Cover3
import Derived.Laws.ResultCell
import Derived.ChangeKeysEq
import Derived.Lib.SlBytesConst
namespace Go.Proofs.YticflflbogdljaaDoor
open Go Go.RowKit

section
variable {P : Program} {a : Act} {o : Oper} {w w0 : World} {R : List Nat} {Hs : List Hl} {v vx vy : Value} {x y : Operand} {t t2 ty ty2 e : TypeId} {g off n c k : Nat} {cs cs' xs : Array Value}
/-- A struct that lies among a block's cells, read. -/
theorem opLoadKR (hb : w.heap[g]? = some (.cells cs t (0, 0))) (ho : o.op = .load ty x) (hx : a.eval x = .pointer (some ⟨g, off, none⟩)) (hdd : (P.underlying ty).map (·.isRow) = some true) (hk : xs.size = k) (hs : (P.info? ty).map (·.size) = some k) (hc : (cs.toList.drop off).take k = xs.toList) : (execOp a.eval o).run P w = .ok (.value (.agg xs)) w := by
  refine opLoadRC ho hx hdd (by rw [hs, hk]) fun j u hu => ?_
  rw [cell_of_row w g (off + j) cs t (0, 0) hb]
  rw [← Array.getElem?_toList, ← hc, List.getElem?_take] at hu
  split at hu
  · rw [List.getElem?_drop, Array.getElem?_toList] at hu; exact hu
  · cases hu
/-- What was there ahead of the call, and isn't written. -/
theorem HH.oldBlk {ob : Obj} (hH : HH w0 R Hs w) (h : w0.heap[g]? = some ob) (hR : g ∉ R) : w.heap[g]? = some ob := by
  rw [hH.old (Array.getElem?_eq_some_iff.1 h).1 hR]; exact h
/-- A block of another heaplet. -/
theorem HH.notin {E : Hl} {ob : Obj} (hH : HH w0 R Hs w) (i j : Nat) (hi : Hs[i]? = some E) (hj : Hs[j]? = some [(g, ob)]) (hij : (i == j) = false) : g ∉ bks E := fun hm => by
  obtain ⟨y, hy, e⟩ := List.mem_map.1 hm
  exact hH.apart hi hj (by simpa using hij) y hy _ (List.mem_singleton.2 rfl) e
theorem HH.offM {E : Hl} {ob : Obj} (hH : HH w0 R Hs w) (i j : Nat) (hi : Hs[i]? = some E) (hj : Hs[j]? = some [(g, ob)]) (hij : (i == j) = false) : Off (some ⟨g, off, none⟩) n (bks E) := fun b off' hA _ hm => by
  obtain rfl : g = b := by injection hA with h; injection h
  exact hH.notin i j hi hj hij hm
theorem opQuoU {kk : IntKind} {m j z : Nat} (hs : kk.signed = false) (ho : o.op = .binOp .quo t x y t2) (hx : a.eval x = .int kk (m : Int)) (hy : a.eval y = .int kk (j : Int)) (h0 : 0 < j) (hm : m < 2 ^ kk.bits) (hz : m / j = z) : (execOp a.eval o).run P w = .ok (.value (.int kk (z : Int))) w := by
  subst hz
  refine opQuo ho hx hy (by omega) ?_
  rw [quoN, wrapU hs, Nat.mod_eq_of_lt (Nat.lt_of_le_of_lt (Nat.div_le_self m j) hm)]
/-- A struct laid among a block's cells. -/
theorem smStoreK (ho : o.op = .store ty x y) (hx : a.eval x = .pointer (some ⟨g, off, none⟩)) (hy : a.eval y = .agg xs) (hk : xs.size = k) (hs : (P.info? ty).map (·.size) = some k) (hn : off + k ≤ cs.size) (h1 : xs.toList.all (·.oneCell') = true) (hcs : putL cs off xs.toList = cs') :
    Small P a o [bl g t cs] (fun _ => True) (fun _ E' => E' = [bl g t cs']) := smStoreR ho hx hy (by rw [hs, hk]) (by rw [hk]; exact hn) (by rw [← Array.all_toList]; exact h1) hcs
/-- The first elements of a slice. -/
theorem Vu.head {α : Type} {C : Cod α} {w : World} {A : Option Addr} {n c m : Nat} {l : List α} (h : Vu C w A n c l) (hm : m ≤ n) : Vu C w A m c (l.take m) := by
  have := h.cut (Nat.zero_le m) hm
  rwa [cutA_zero, Nat.sub_zero, Nat.sub_zero, List.drop_zero] at this
/-! ### What is handed back in a cell -/
section
variable {Q : Exit → Act → World → Prop} {l : Slots} {fn : Func} {RR : Ending → World → Prop}
theorem qxRetC {nn : Nat} {p : Tmp} (i : Nat) (hb : w.heap[g]? = some (.cells cs t (0, 0))) (hf : fn.results = #[.cell p ty]) (hi : l[i]? = some (p, .pointer (some ⟨g, 0, none⟩))) (hdd : (P.underlying ty).map (·.isRow) = some true) (hk : cs.size = k) (hs : (P.info? ty).map (·.size) = some k) (hR : RR (.returned (.agg cs)) w) : QX (bodyPost P fn RR) .ret ⟨nn, []⟩ l w := fun a hF => by
  obtain ⟨d, hu, hdr⟩ := isRow_desc hdd
  exact bodyPost_ret (results_cell_row hf _ _ g t cs (0, 0) d (hF.at i hi) hb hu (by cases d <;> first | rfl | cases hdr) (by rw [hs, hk])) hF.defers hR
theorem qxRetCT {nn : Nat} {p u : Tmp} (i j : Nat) (hb : w.heap[g]? = some (.cells cs t (0, 0))) (hf : fn.results = #[.cell p ty, .tmp u]) (hi : l[i]? = some (p, .pointer (some ⟨g, 0, none⟩))) (hj : l[j]? = some (u, v)) (hdd : (P.underlying ty).map (·.isRow) = some true) (hk : cs.size = k) (hs : (P.info? ty).map (·.size) = some k) (hR : RR (.returned (.tuple #[.agg cs, v])) w) : QX (bodyPost P fn RR) .ret ⟨nn, []⟩ l w := fun a hF => by
  obtain ⟨d, hu, hdr⟩ := isRow_desc hdd
  refine bodyPost_ret (v := .tuple #[.agg cs, v]) ?_ hF.defers hR
  have hl := run_loadVar_row (P := P) w g t ty cs (0, 0) d hb hu (by cases d <;> first | rfl | cases hdr) (by rw [hs, hk])
  rw [results_cell_tmp hf, hF.at i hi, hF.at j hj]
  simp [asAddr, hl]
end
/-! ### Slices -/
theorem opEqNilS {A : Option Addr} {b : Bool} (ho : o.op = .binOp .eql t x y t2) (hu : P.underlying t = some (.slice e)) (hx : a.eval x = .slice A n c) (hy : a.eval y = .slice none 0 0) (hb : A.isNone = b) : (execOp a.eval o).run P w = .ok (.value (.bool b)) w := by
  subst hb
  have h := run_equal_slice_nil (P := P) w t e A n c hu
  have h2 : (binOp .eql t (.slice A n c) (.slice none 0 0)).run P w = .ok (.bool A.isNone) w := by
    simp only [binOp, Sem.run_bind, h, Result.andThen_ok, Sem.run_pure]
  unfold execOp
  simp [ho, hx, hy, eqGuard, h2]
theorem opNeB {p q b : Bool} (ho : o.op = .binOp .neq t x y t2) (hu : P.underlying t = some .bool) (hx : a.eval x = .bool p) (hy : a.eval y = .bool q) (hb : (p != q) = b) : (execOp a.eval o).run P w = .ok (.value (.bool b)) w := by
  subst hb
  have h : (Op.equal t (.bool p) (.bool q)).run P w = .ok (p == q) w := run_eqInB 9999 hu
  have h2 : (binOp .neq t (.bool p) (.bool q)).run P w = .ok (.bool (p != q)) w := by
    simp only [binOp, Sem.run_bind, h, Result.andThen_ok, Sem.run_pure]
    rfl
  unfold execOp
  simp [ho, hx, hy, eqGuard, h2]
/-- A part of an array, as a slice. -/
theorem opSliceALH {b m l h sz : Nat} {kl kh : IntKind} {jl jh : Int} {xl xh : Operand} (ho : o.op = .slice ty x (some xl) (some xh) none) (hu : P.underlying ty = some (.array m e)) (hs : (P.info? e).map (·.size) = some sz) (hx : a.eval x = .pointer (some ⟨b, off, none⟩)) (hl : a.eval xl = .int kl jl) (hh : a.eval xh = .int kh jh) (hjl : jl = (l : Int)) (hjh : jh = (h : Int)) (h1 : l ≤ h) (h2 : h ≤ m) (h3 : l < m) :
    (execOp a.eval o).run P w = .ok (.value (.slice (some ⟨b, off + l * sz, none⟩) (h - l) (m - l))) w := by
  subst hjl hjh
  have he := elem_ofA hu
  have hn := len_ofA hu
  have hu' : P.underlying ty = some (.array (P.arrayLen ty) (P.elem ty)) := by rw [he, hn]; exact hu
  have hadd : (⟨b, off, none⟩ : Addr).add (l * sz) = ⟨b, off + l * sz, none⟩ := Addr.add_mid ..
  unfold execOp
  simp only [ho, Option.map_some, Option.map_none, hx, hl, hh, Sem.run_bind, Sem.run_pure, run_sliceAt_array_lh w ty ⟨b, off, none⟩ hu' kl kh (l : Int) (h : Int) (by omega) (by omega) (by rw [hn]; omega), he, hn, run_sizeOf hs, Result.andThen_ok, slicedAt, Int.toNat_natCast, hadd]
  rw [if_neg (by omega)]
/-- One element of an array. -/
theorem Holds.elt {m b i : Nat} {f : Nat → UInt8} (h : Holds (cArr m) w b off f) (hi : i < m) : Holds cByte w b (off + i * 1) (f i) := fun j u hu => by
  obtain rfl : j = 0 := by
    have : j < 1 := (Array.getElem?_eq_some_iff.1 hu).1
    omega
  obtain rfl := Option.some.inj hu
  have := h i (by8 (f i)) (by rw [enc_arr]; exact row_get m f i hi)
  rw [Nat.mul_one, Nat.add_zero]
  exact this
/-- []byte of a constant string: the row is marked. -/
abbrev mk (g : Nat) (t : TypeId) (cs : Array Value) : Nat × Obj := (g, .cells cs t (cs.size, cs.size + 1))
theorem smMark (ho : o.op = .convert ty ty x) (hu : P.underlying ty = some (.slice e)) (he : P.underlying e = some (.int .u8)) (hx : a.eval x = .slice (some ⟨g, off, none⟩) n c) :
    Small P a o [bl g e cs] (fun _ => True) (fun v' E' => v' = .slice (some ⟨g, off, none⟩) n c ∧ E' = [mk g e cs]) := fun w hE _ => by
  have hb : w.heap[g]? = some (.cells cs e (0, 0)) := hE.blk (g, _) (by simp)
  have hlt : g < w.heap.size := (Array.getElem?_eq_some_iff.1 hb).1
  have hsh : w.shape? g = some (e, cs.size) := by unfold World.shape?; rw [hb]
  have hr : (convert ty ty (.slice (some ⟨g, off, none⟩) n c)).run P w = .ok (.slice (some ⟨g, off, none⟩) n c) (w.freeze ⟨g, cs.size, none⟩ 1) := by
    simp [convert, run_underlying hu, run_underlying he, markStringish, hsh]
  unfold execOp
  simp only [ho, hx, Sem.run_bind, Sem.run_pure, Result.andThen_ok, hr]
  refine ⟨_, ⟨rfl, rfl⟩, ?_⟩
  have hheap : ∀ j, (w.freeze ⟨g, cs.size, none⟩ 1).heap[j]? = if g = j then some (.cells cs e (cs.size, cs.size + 1)) else w.heap[j]? := fun j => by
    unfold World.freeze
    rw [if_neg (by decide)]
    simp only [Array.getElem?_modify]
    by_cases hj : g = j
    · subst hj; rw [if_pos rfl, if_pos rfl, hb]; rfl
    · rw [if_neg hj, if_neg hj]
  refine ⟨?_, ?_, ?_, ?_, fun x hx => ?_, by simp, fun x hx => ?_, fun j hj hjR => ?_⟩
  · unfold World.freeze; rw [if_neg (by decide)]
  · unfold World.freeze; rw [if_neg (by decide)]
  · unfold World.freeze; rw [if_neg (by decide)]
  · unfold World.freeze; rw [if_neg (by decide)]; simp
  · obtain rfl := List.mem_singleton.1 hx
    rw [hheap, if_pos rfl]
  · obtain rfl := List.mem_singleton.1 hx
    exact .inr (by simp)
  · rw [hheap, if_neg (fun e => hjR (by subst e; simp))]
end
/-! ### What hangs on an operation that isn't wanted -/
section
variable {P : Program} {ops : Array Oper} {Q : Exit → Act → World → Prop} {o : Oper} {rest : List Oper} {w : World} {n : Sz} {d m i : Nat} {l l' : Slots} {L : Array Bool} {Ss : Pend}
theorem gOffU (i : Nat) {j k : Nat} {b : Bool} (hi : l[i]? = some (k, undef)) (hd : (ops[j]?).bind (·.dst) = some k) (hg : o.guard = some (j, b)) : ∀ a, Fr n l a → Region.wanted o (yielded ops a.tmps) = false := fun a hF => by
  have h1 := hF.at i hi
  have h2 : yielded ops a.tmps j = none := by
    unfold yielded
    rw [hd, Option.bind_some]
    rw [Array.getD_eq_getD_getElem?] at h1
    cases h3 : a.tmps[k]? with
    | none => rfl
    | some v =>
      rw [h3] at h1
      obtain rfl : v = undef := by simpa using h1
      rfl
  unfold Region.wanted
  rw [hg]
  simp only [h2]
  rfl
theorem pxUK (hd : o.dst = some d) (hg : ∀ a, Fr n l a → Region.wanted o (yielded ops a.tmps) = false) (hk : Kept d l' l) (hdn : d < n.n)
    (h : PX P ops Q rest n ((d, undef) :: l') w) : PX P ops Q (o :: rest) n l w := fun a hF => by
  refine wpList_step fun K hK => ?_
  rw [if_neg (by rw [hg a hF]; simp), hd]
  exact hK _ _ (h _ (hF.put undef hk hdn))
theorem rxUK (i : Nat) (ho : ops[i]? = some o) (hr : rdy ops L i = true) (hd : o.dst = some d) (hg : ∀ a, Fr n l a → Region.wanted o (yielded ops a.tmps) = false)
    (hk : Kept d l' l) (hdn : d < n.n) (h : RX P ops Q m ((i, fun _ => True) :: Ss) (L.setIfInBounds i true) n ((d, undef) :: l') w) : RX P ops Q (m + 1) Ss L n l w := fun hok hc hSs a hF => by
  have hi : i ∈ Region.ready .any ops L := by simpa [rdy] using hr
  refine wpX_first (v := undef) (S := fun _ => True) ho hok m Ss L a w hc hi trivial hSs (.inr ⟨hg a hF, rfl⟩) ?_
  rw [hd]
  refine h hok (hc.set hi) (fun s hs => ?_) _ (hF.put undef hk hdn)
  rcases List.mem_cons.1 hs with rfl | hs
  · trivial
  · exact hSs s hs
end
section
variable {α : Type} {C : Cod α} {P : Program} {a : Act} {o : Oper} {w w0 : World} {v : Value} {x y : Operand} {t ty ty2 e : TypeId} {g off cap k : Nat} {cs cs' cur : Array Value} {l m : List α} {E : Hl}
theorem Bk.holdsM (h : Bk C cap cur l) {fr : Nat × Nat} (hb : w.heap[g]? = some (.cells cur t fr)) : HoldsL C w g 0 l := fun i x hx j u hu => by
  rw [cell_of_row w g _ cur t fr hb, Nat.zero_add]
  exact h.cell i j hx hu
theorem Bk.vuM (h : Bk C cap cur l) {fr : Nat × Nat} (hb : w.heap[g]? = some (.cells cur t fr)) {n : Nat} (hn : l.length = n) : Vu C w (some ⟨g, 0, none⟩) n cap l :=
  ⟨hn, hn ▸ h.le, (fun h => by cases h), fun _ => ⟨g, 0, rfl, h.holdsM hb⟩⟩
/-- A view's cells, one by one. -/
theorem Vu.cells {A : Option Addr} {n c : Nat} (h : Vu C w A n c l) (hsz : 0 < C.sz) : Cells w A (flat C l) := fun p j u hp hj => by
  have hlen : j < l.length * C.sz := by
    have := (List.getElem?_eq_some_iff.1 hj).1
    rw [flat_len] at this; exact this
  have hm : 0 < l.length := by
    rcases Nat.eq_zero_or_pos l.length with h0 | h0
    · rw [h0] at hlen; simp at hlen
    · exact h0
  obtain ⟨b, off', hA', hL⟩ := h.at' (h.len ▸ hm)
  rw [hp] at hA'
  obtain rfl := Option.some.inj hA'
  have hdiv : j / C.sz < l.length := (Nat.div_lt_iff_lt_mul hsz).2 hlen
  have hmod : j % C.sz < C.sz := Nat.mod_lt _ hsz
  obtain ⟨z, hz⟩ := get_at _ _ hdiv
  have hu' : (C.enc z)[j % C.sz]? = some ((C.enc z)[j % C.sz]'(by rw [C.size]; exact hmod)) := Array.getElem?_eq_getElem (by rw [C.size]; exact hmod)
  have h1 := flat_get _ _ _ _ _ hz hu'
  rw [Nat.div_add_mod' j C.sz, hj] at h1
  obtain rfl := Option.some.inj h1
  have h2 := hL _ _ hz _ _ hu'
  rw [Addr.add_mid, ← h2]
  congr 2
  rw [Nat.add_assoc, Nat.div_add_mod']
/-- append, to a slice that has no room for it: a new one. -/
theorem smAppNew {nx cx n c by_ : Nat} {z : Value} {p : Addr} {A : Option Addr} (ho : o.op = .call { callee := .builtin .append, args := #[x, y], argTypes := #[ty, ty] })
    (hu : P.underlying ty = some (.slice e)) (hi : (P.info? e).map (fun i => (i.zero, i.size, i.bytes)) = some (some z, C.sz, by_)) (hzs : z.cells.size = C.sz) (hsz : 0 < C.sz)
    (hx : a.eval x = .slice (some p) nx cx) (hy : a.eval y = .slice A n c) (hl : l.length = nx) (hm : m.length = n) (hA : A = none → n = 0) (hfull : cx < nx + n) (hcx : nx ≤ cx) (h63 : nx + n ≤ maxLen) (hbytes : (nx + n) * by_ ≤ 140737488355328) :
    Small P a o [] (fun w => Vu C w (some p) nx cx l ∧ Vu C w A n c m) (fun v' E' => OwnT C e v' (l ++ m) E') := fun w hE ⟨hV1, hV2⟩ => by
  subst hl hm
  obtain ⟨i, hi', h2⟩ := Option.map_eq_some_iff.1 hi
  simp only [Prod.mk.injEq] at h2
  obtain ⟨hz, hisz, rfl⟩ := h2
  have hpos : 0 < m.length := by omega
  obtain ⟨q, rfl⟩ : ∃ q, A = some q := by
    cases A with
    | none => have := hA rfl; omega
    | some q => exact ⟨q, rfl⟩
  have hsmall : l.length + m.length ≤ 9223372036854775807 := by simp only [maxLen] at h63; omega
  have hr := run_append_grow (P := P) w ty o.type e i z hu hi' hz p l.length cx (flat C l) (by rw [hisz]; exact flat_len l) (fun j u hj => hV1.cells hsz p j u rfl hj) q m.length c (flat C m) (by rw [hisz]; exact flat_len m) (fun j u hj => hV2.cells hsz q j u rfl hj) hfull (by omega) (growslice_fits (by omega) hbytes)
  unfold execOp
  simp only [ho, resolve, invoke, builtin, Sem.run_bind, Sem.run_pure, Result.andThen_ok, List.map_toArray, List.map_cons, List.map_nil, hx, hy, hr]
  have hge := grownCap_ge w (l.length + m.length) cx e
  have hcm := grownCap_le_maxLen w (l.length + m.length) cx e h63
  have hold : Hold w [] [bl w.heap.size e ((flat C l).toArray ++ (flat C m).toArray ++ Builtin.zeroCells z.cells (grownCap w (l.length + m.length) cx e - (l.length + m.length)))] (w.drew.alloc (.cells ((flat C l).toArray ++ (flat C m).toArray ++ Builtin.zeroCells z.cells (grownCap w (l.length + m.length) cx e - (l.length + m.length))) e)) := by
    have := Has.new w.drew (.cells ((flat C l).toArray ++ (flat C m).toArray ++ Builtin.zeroCells z.cells (grownCap w (l.length + m.length) cx e - (l.length + m.length))) e)
    exact ⟨this.os, this.tape, this.output, this.size, this.blk, this.ne, fun x hx => (this.own x hx).imp id (fun h => (by cases h)), fun k hk _ => this.frame k hk (by simp)⟩
  refine ⟨_, ?_, hold⟩
  refine Bk.own (cap := grownCap w (l.length + m.length) cx e) ⟨by rw [List.length_append]; exact hge, hcm, ?_, ?_⟩ e w.heap.size (by rw [List.length_append])
  · simp only [Array.size_append, List.size_toArray, size_zeroCells, hzs, flat_len, ← Nat.add_mul]
    congr 1
    omega
  · simp only [Array.toList_append, List.append_assoc]
    rw [← List.append_assoc, ← flat_append, List.length_append, ← List.length_append, ← flat_len (C := C)]
    exact List.take_left
/-- A literal of a slice, each of whose elements is given. -/
theorem fill_flat (C : Cod α) : ∀ (l : List α) (i : Nat) (pre z : List Value), pre.length = i * C.sz → z.length = l.length * C.sz →
    Instr.fill (fun k => some (k * C.sz, C.sz)) (pre ++ z).toArray (enumV i (l.map C.val)) = some (pre ++ flat C l).toArray
  | [], i, pre, z, _, hz => by
    obtain rfl : z = [] := List.eq_nil_of_length_eq_zero (by simpa using hz)
    simp [enumV, Instr.fill, flat]
  | d :: r, i, pre, z, hp, hz => by
    have hd : (C.val d).cells.size = C.sz := C.len d
    simp only [List.map_cons, enumV]
    unfold Instr.fill
    simp only [hd]
    have hzl : C.sz ≤ z.length := by
      rw [hz, List.length_cons, Nat.add_mul]; omega
    rw [if_neg (by simp; omega)]
    have hf := foldl_put (C.val d).cells.toList (i * C.sz) (pre ++ z).toArray 0
    rw [Nat.add_zero] at hf
    rw [← Array.foldl_toList, Array.toList_zipIdx, hf, putL_append pre z (C.val d).cells.toList _ hp (by rw [Array.length_toList, hd]; exact hzl), ← List.append_assoc]
    have hdl : (C.val d).cells.toList.length = C.sz := by rw [Array.length_toList, hd]
    rw [fill_flat C r (i + 1) (pre ++ (C.val d).cells.toList) (z.drop (C.val d).cells.toList.length) (by rw [List.length_append, hp, hdl, Nat.add_mul]; omega) (by rw [List.length_drop, hz, hdl, List.length_cons, Nat.add_mul]; omega)]
    simp [flat, Cod.enc]
theorem smLits {parts : List (Nat × Operand)} {n by_ : Nat} {z : Value} (l : List α) (ho : o.op = .buildSlice ty n parts.toArray) (hu : P.underlying ty = some (.slice e)) (hi : (P.info? e).map (fun i => (i.zero, i.size, i.bytes)) = some (some z, C.sz, by_)) (hx : EvP a parts (enumV 0 (l.map C.val))) (hn : l.length = n) (h0 : 0 < n * C.sz) (h1 : n * C.sz ≤ 16777216) (hcs : (flat C l).toArray = cs) :
    Small P a o [] (fun _ => True) (fun v E' => ∃ g, v = .slice (some ⟨g, 0, none⟩) n n ∧ E' = [bl g e cs]) := fun w _ _ => by
  subst hcs hn
  obtain ⟨i, hi', h2⟩ := Option.map_eq_some_iff.1 hi
  simp only [Prod.mk.injEq] at h2
  obtain ⟨hz, hsz, rfl⟩ := h2
  have hf : Instr.fill (fun k => some (k * i.size, i.size)) ((Array.range (l.length * i.size)).map (z.cells[· % z.cells.size]!)) (enumV 0 (l.map C.val)) = some (flat C l).toArray := by
    rw [hsz]
    have := fill_flat C l 0 [] ((Array.range (l.length * C.sz)).map (z.cells[· % z.cells.size]!)).toList (by simp) (by simp)
    rw [List.nil_append, List.nil_append, Array.toArray_toList] at this
    exact this
  have hr := run_buildSlice (P := P) w ty e l.length (parts.toArray.map fun (i, x) => (i, a.eval x)) (flat C l).toArray i z hu hi' hz (by rw [hsz]; omega) (by rw [hsz]; omega) (by rw [hx.map]; exact hf)
  unfold execOp
  simp only [ho, Sem.run_bind, Sem.run_pure, Result.andThen_ok, hr]
  exact ⟨_, ⟨_, rfl, rfl⟩, Has.new w _⟩
theorem Bk.lits (l : List α) (h : l.length ≤ maxLen) : Bk C l.length (flat C l).toArray l := ⟨Nat.le_refl _, h, by simp [flat_len], by
  have : (flat C l).length = l.length * C.sz := flat_len l
  rw [← this]; simp⟩
theorem bytes_flat (l : List UInt8) : List.map (fun b : UInt8 => Value.int IntKind.u8 (b.toNat : Int)) l = flat cByte l := by
  induction l with
  | nil => rfl
  | cons c r ih => rw [List.map_cons, ih]; rfl
/-- copy, of a string's bytes. -/
theorem smCopyS {dn dc : Nat} {l : List UInt8} (ho : o.op = .call { callee := .builtin .copy, args := #[x, y], argTypes := #[ty, ty2] })
    (hu : P.underlying ty = some (.slice e)) (hs : (P.info? e).map (·.size) = some 1) (hx : a.eval x = .slice (some ⟨g, off, none⟩) dn dc) (hy : a.eval y = .string (strL l))
    (hk : l.length ≤ dn) (hfit : off + l.length ≤ cs.size) (hcs : putL cs off (flat cByte l) = cs') :
    Small P a o [bl g t cs] (fun _ => True) (fun v' E' => v' = .int .i64 (l.length : Int) ∧ E' = [bl g t cs']) := fun w hE _ => by
  subst hcs
  obtain ⟨i, hi, his⟩ := Option.map_eq_some_iff.1 hs
  have hh := Has.hold hE
  have hfl : (flat cByte l).length = l.length := by rw [flat_len]; exact Nat.mul_one _
  have hth := Hold.there hh 0 rfl off l.length (by omega)
  have hst := run_storeCells_cells (P := P) g off (flat cByte l) 0 w (fun j hj => by simpa using (hth j (by omega)).1) (fun j hj => by simpa using (hth j (by omega)).2) (flat_one' _)
  simp only [Nat.add_zero] at hst
  have hmin : Nat.min (strL l).size dn = l.length := by rw [strL_size]; exact Nat.min_eq_left hk
  have htk : List.take l.length (List.map (fun b : UInt8 => Value.int IntKind.u8 (b.toNat : Int)) l) = flat cByte l := by
    rw [List.take_of_length_le (by rw [List.length_map]; exact Nat.le_refl _)]
    exact bytes_flat l
  have hr : (Builtin.copy_ #[ty, ty2] o.type #[.slice (some ⟨g, off, none⟩) dn dc, .string (strL l)]).run P w = .ok (goInt l.length) (w.setCells g off (flat cByte l)) := by
    simp [Builtin.copy_, run_underlying hu, Builtin.lenOf, Builtin.firstCells, sizeOf, typeInfo, hi, hmin]
    rw [htk, hst]
    simp [Result.andThen]
  unfold execOp
  simp only [ho, resolve, invoke, builtin, Sem.run_bind, Sem.run_pure, Result.andThen_ok, List.map_toArray, List.map_cons, List.map_nil, hx, hy, hr]
  exact ⟨_, ⟨rfl, rfl⟩, Hold.setCells _ off hh 0 rfl⟩
theorem put_from (h : Bk C cap cur l) (k i : Nat) (hi : k + i < l.length) (x : α) : Bk C cap (putL cur (0 + k * C.sz + i * C.sz) (C.enc x).toList) (l.set (k + i) x) := by
  have := put_at h (k + i) hi x
  rw [Nat.add_mul, ← Nat.add_assoc] at this
  exact this
theorem room_from (h : Bk C cap cur l) {k i : Nat} (hi : k + i < l.length) : 0 + k * C.sz + i * C.sz + C.sz ≤ cur.size := by
  have := room_at h hi
  rw [Nat.add_mul, ← Nat.add_assoc] at this
  exact this
/-- A part of one of its data laid anew. -/
theorem Bk.part (h : Bk C cap cur l) {j : Nat} {x y : α} {vs : List Value} (hj : l[j]? = some x) (hfit : off + vs.length ≤ C.sz) (he : putL (C.enc x) off vs = C.enc y) : Bk C cap (putL cur (0 + j * C.sz + off) vs) (l.set j y) := by
  have hjl : j < l.length := (List.getElem?_eq_some_iff.1 hj).1
  have hp := h.put j hjl y
  have e : putL cur (0 + j * C.sz + off) vs = putL cur (j * C.sz) (C.enc y).toList := by
    apply Array.ext_getElem?
    intro i
    rw [putL_get, putL_get, Array.length_toList (xs := C.enc y), C.size, Nat.zero_add]
    have hcur : cur.size = cap * C.sz := h.size
    have hroom : j * C.sz + C.sz ≤ cur.size := by
      rw [hcur, ← Nat.succ_mul]
      exact Nat.mul_le_mul_right _ (by have := h.le; omega)
    by_cases h1 : j * C.sz ≤ i ∧ i < j * C.sz + C.sz
    · rw [if_pos (c := j * C.sz ≤ i ∧ _) ⟨h1.1, h1.2, by omega⟩]
      have h2 : (C.enc y).toList[i - j * C.sz]? = (putL (C.enc x) off vs)[i - j * C.sz]? := by rw [he, Array.getElem?_toList]
      rw [h2, putL_get, C.size]
      by_cases h3 : j * C.sz + off ≤ i ∧ i < j * C.sz + off + vs.length
      · rw [if_pos ⟨h3.1, h3.2, by omega⟩, if_pos (by omega)]
        congr 1; omega
      · rw [if_neg (by omega), if_neg (by omega)]
        have h4 : (C.enc x)[i - j * C.sz]? = some ((C.enc x)[i - j * C.sz]'(by rw [C.size]; omega)) := Array.getElem?_eq_getElem (by rw [C.size]; omega)
        have h5 := h.cell j (i - j * C.sz) hj h4
        rw [show j * C.sz + (i - j * C.sz) = i by omega] at h5
        rw [h5, h4]
    · rw [if_neg (by omega), if_neg (by omega)]
  rw [e]; exact hp
end
/-- A call's answer in other words. -/
theorem Pure.as {P : Program} {f : FuncId} {args : Array Value} {Rd : World → Prop} {v v' : Value} (h : Pure P f args Rd v') (e : v' = v) : Pure P f args Rd v := e ▸ h
/-! ### Bytes of arrays -/
def setF (f : Nat → UInt8) (i : Nat) (b : UInt8) : Nat → UInt8 := fun k => if k = i then b else f k
/-- The first bytes others. -/
def ovr (l : List UInt8) (f : Nat → UInt8) : Nat → UInt8 := fun k => if k < l.length then l.getD k 0 else f k
theorem arr_ovr {n : Nat} (l : List UInt8) (f : Nat → UInt8) : putL ((cArr n).enc f) 0 (flat cByte l) = (cArr n).enc (ovr l f) := by
  apply Array.ext_getElem?
  intro k
  have hf : (flat cByte l).length = l.length := by rw [flat_len]; exact Nat.mul_one _
  rw [putL_get, enc_arr, enc_arr, row_size, hf]
  by_cases hk : k < n
  · rw [row_get n _ k hk, row_get n _ k hk]
    by_cases h1 : k < l.length
    · rw [if_pos (by omega)]
      have := flat_get (C := cByte) l k 0 l[k] (by8 l[k]) (List.getElem?_eq_getElem h1) rfl
      rw [show k * cByte.sz + 0 = k from Nat.mul_one k] at this
      rw [Nat.sub_zero, this]
      unfold ovr
      rw [if_pos h1, List.getD_eq_getElem?_getD, List.getElem?_eq_getElem h1]; rfl
    · rw [if_neg (by omega)]
      unfold ovr
      rw [if_neg h1]
  · rw [if_neg (by omega), Array.getElem?_eq_none (by rw [row_size]; omega), Array.getElem?_eq_none (by rw [row_size]; omega)]
theorem arr_set {n i : Nat} (f : Nat → UInt8) (b : UInt8) (hi : i < n) : putL ((cArr n).enc f) (i * 1) (cByte.enc b).toList = (cArr n).enc (setF f i b) := by
  apply Array.ext_getElem?
  intro k
  have hl : (cByte.enc b).toList.length = 1 := rfl
  rw [putL_get, enc_arr, enc_arr, row_size, hl, Nat.mul_one]
  by_cases hk : k < n
  · rw [row_get n _ k hk, row_get n _ k hk]
    by_cases h1 : k = i
    · subst h1
      rw [if_pos (by omega), Nat.sub_self]
      unfold setF
      rw [if_pos rfl]; rfl
    · rw [if_neg (by omega)]
      unfold setF
      rw [if_neg h1]
  · rw [if_neg (by omega), Array.getElem?_eq_none (by rw [row_size]; omega), Array.getElem?_eq_none (by rw [row_size]; omega)]
theorem arr_fit {n i : Nat} {b : UInt8} (hi : i < n) : i * 1 + (cByte.enc b).toList.length ≤ (cArr n).sz := by
  show i * 1 + 1 ≤ n; omega
theorem room_arr {n cap i j : Nat} {cur : Array Value} {l : List (Nat → UInt8)} (h : Bk (cArr n) cap cur l) (hj : j < l.length) (hi : i < n) : 0 + j * (cArr n).sz + i * 1 + cByte.sz ≤ cur.size := by
  have h1 := room_at h hj
  have h2 : (cArr n).sz = n := rfl
  have h3 : cByte.sz = 1 := rfl
  rw [h2] at h1 ⊢
  rw [h3]
  omega
/-! ### '==' of arrays of bytes -/
section
variable {P : Program} {a : Act} {o : Oper} {w : World} {x y : Operand} {t t2 e : TypeId} {n : Nat} {f g : Nat → UInt8}
theorem eqItems_row (d n : Nat) (he : P.underlying e = some (.int .u8)) (f g : Nat → UInt8) : ∀ l : List Nat, (∀ i ∈ l, i < n) → (Op.eqItems (d + 1) e 1 (row n f) (row n g) l).run P w = .ok (l.all fun i => f i == g i) w
  | [], _ => by simp [Op.eqItems]
  | i :: l, h => by
    have hi := h i (by simp)
    have h1 := row_get n f i hi
    have h2 := row_get n g i hi
    have ih := eqItems_row d n he f g l (fun j hj => h j (by simp [hj]))
    have p1 : (part e (row n f) (i * 1)).run P w = .ok (by8 (f i)) w := by simp [part, isAgg, run_underlying he, h1]
    have p2 : (part e (row n g) (i * 1)).run P w = .ok (by8 (g i)) w := by simp [part, isAgg, run_underlying he, h2]
    have p3 : (Op.equalIn (d + 1) e (by8 (f i)) (by8 (g i))).run P w = .ok (f i == g i) w := by
      have e1 : ((f i).toNat == (g i).toNat) = (f i == g i) := by
        rw [Bool.eq_iff_iff]
        simp [← UInt8.toNat_inj]
      have e2 : (((f i).toNat : Int) == ((g i).toNat : Int)) = (f i == g i) := by
        rw [← e1, Bool.eq_iff_iff]
        simp
        omega
      simp [Op.equalIn, run_underlying he, by8, e2]
    simp only [Op.eqItems, Sem.run_bind, p1, p2, p3, Result.andThen_ok, List.all_cons]
    cases f i == g i
    · simp
    · simpa using ih
theorem sameL {n : Nat} {f g : Nat → UInt8} : ((List.range n).all fun i => f i == g i) = decide (lst n f = lst n g) := by
  rw [Bool.eq_iff_iff, List.all_eq_true, decide_eq_true_iff]
  constructor
  · intro h
    refine List.map_congr_left fun i hi => ?_
    simpa using h i hi
  · intro h i hi
    have h1 := congrArg (fun l => l[i]?) h
    have hi' : i < n := List.mem_range.1 hi
    simp only [lst_get hi', Option.some.injEq] at h1
    simpa using h1
theorem equal_arr (hu : P.underlying t = some (.array n e)) (he : P.underlying e = some (.int .u8)) (hs : (P.info? e).map (·.size) = some 1) (f g : Nat → UInt8) (w : World) : (Op.equal t (.agg (row n f)) (.agg (row n g))).run P w = .ok (decide (lst n f = lst n g)) w := by
  obtain ⟨i, hi, hsz⟩ := Option.map_eq_some_iff.1 hs
  have h := run_equalIn_array (P := P) (w := w) 9999 (row n f) (row n g) hu hi
  have hc : P.cellsOf e = 1 := by simp [Program.cellsOf, hi, hsz]
  rw [hc, eqItems_row 9998 n he f g _ (fun j hj => List.mem_range.1 hj), sameL] at h
  exact h
theorem opEqA {p : Prop} [Decidable p] (ho : o.op = .binOp .eql t x y t2) (hu : P.underlying t = some (.array n e)) (he : P.underlying e = some (.int .u8)) (hs : (P.info? e).map (·.size) = some 1) (hx : a.eval x = (cArr n).val f) (hy : a.eval y = (cArr n).val g) (hq : P.eqGuardType P.depth t = false) (hb : lst n f = lst n g ↔ p) : (execOp a.eval o).run P w = .ok (.value (.bool (decide p))) w := by
  have h := equal_arr hu he hs f g w
  have h2 : (binOp .eql t (.agg (row n f)) (.agg (row n g))).run P w = .ok (.bool (decide p)) w := by
    simp only [binOp, Sem.run_bind, h, Result.andThen_ok, Sem.run_pure]
    rw [dc hb]
  unfold execOp
  simp only [ho, hx, hy]
  simp [cArr, eqGuard, h2, hq]
theorem opNeA {p : Prop} [Decidable p] (ho : o.op = .binOp .neq t x y t2) (hu : P.underlying t = some (.array n e)) (he : P.underlying e = some (.int .u8)) (hs : (P.info? e).map (·.size) = some 1) (hx : a.eval x = (cArr n).val f) (hy : a.eval y = (cArr n).val g) (hq : P.eqGuardType P.depth t = false) (hb : lst n f ≠ lst n g ↔ p) : (execOp a.eval o).run P w = .ok (.value (.bool (decide p))) w := by
  have h := equal_arr hu he hs f g w
  have h2 : (binOp .neq t (.agg (row n f)) (.agg (row n g))).run P w = .ok (.bool (decide p)) w := by
    simp only [binOp, Sem.run_bind, h, Result.andThen_ok, Sem.run_pure]
    rw [← dc hb, decide_not]
  unfold execOp
  simp only [ho, hx, hy]
  simp [cArr, eqGuard, h2, hq]
end
end Go.Proofs.YticflflbogdljaaDoor
