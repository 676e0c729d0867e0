/- What lies in memory, told by types: codecs of values; a value that lies at a place; slices that are read; slices of the call's own. Plain theorems, over any program. -/
import Derived.Test.YticflflbogdljaaDoorCx
namespace Go.Proofs.YticflflbogdljaaDoor
open Go Go.RowKit

/-- How data of one type lie in cells. -/
structure Cod (α : Type) where
  val : α → Value
  sz : Nat
  row : Bool
  len : ∀ a, (val a).cells.size = sz
  one : ∀ a, (val a).cells.all (·.oneCell') = true
  agg : row = true → ∀ a, val a = .agg (val a).cells
  scal : row = false → ∀ a, (val a).oneCell' = true
theorem one1 {v : Value} (h : v.oneCell' = true) : (#[v] : Array Value).all (·.oneCell') = true := by simp [h]
def Cod.enc {α : Type} (C : Cod α) (a : α) : Array Value := (C.val a).cells
def cByte : Cod UInt8 := ⟨fun b => .int .u8 (b.toNat : Int), 1, false, fun _ => rfl, fun _ => one1 rfl, (fun h => by cases h), fun _ _ => rfl⟩
def cBool : Cod Bool := ⟨fun b => .bool b, 1, false, fun _ => rfl, fun _ => one1 rfl, (fun h => by cases h), fun _ _ => rfl⟩
def cInt (k : IntKind) : Cod Int := ⟨fun i => .int k i, 1, false, fun _ => rfl, fun _ => one1 rfl, (fun h => by cases h), fun _ _ => rfl⟩
def cNat (k : IntKind) : Cod Nat := ⟨fun i => .int k (i : Int), 1, false, fun _ => rfl, fun _ => one1 rfl, (fun h => by cases h), fun _ _ => rfl⟩
def cStr : Cod ByteArray := ⟨fun s => .string s, 1, false, fun _ => rfl, fun _ => one1 rfl, (fun h => by cases h), fun _ _ => rfl⟩
def cPtr : Cod (Option Addr) := ⟨fun p => .pointer p, 1, false, fun _ => rfl, fun _ => one1 rfl, (fun h => by cases h), fun _ _ => rfl⟩
/-- A slice's head. -/
def cSl : Cod (Option Addr × Nat × Nat) := ⟨fun s => .slice s.1 s.2.1 s.2.2, 1, false, fun _ => rfl, fun _ => one1 rfl, (fun h => by cases h), fun _ _ => rfl⟩
def cArr (n : Nat) : Cod (Nat → UInt8) := ⟨fun f => .agg (Go.Proofs.YticflflbogdljaaDoor.row n f), n, true, fun f => row_size n f, fun f => row_one n f, fun _ _ => rfl, (fun h => by cases h)⟩
def cPair {α β : Type} (A : Cod α) (B : Cod β) : Cod (α × β) :=
  ⟨fun x => .agg ((A.val x.1).cells ++ (B.val x.2).cells), A.sz + B.sz, true, fun x => by
    show ((A.val x.1).cells ++ (B.val x.2).cells).size = A.sz + B.sz
    rw [Array.size_append, A.len, B.len], fun x => by
    show ((A.val x.1).cells ++ (B.val x.2).cells).all (·.oneCell') = true
    rw [Array.all_append, A.one, B.one]; rfl, fun _ _ => rfl, (fun h => by cases h)⟩
def cOne {α : Type} (A : Cod α) : Cod α := ⟨fun x => .agg (A.val x).cells, A.sz, true, A.len, A.one, fun _ _ => rfl, (fun h => by cases h)⟩
def cMap {α β : Type} (f : β → α) (A : Cod α) : Cod β := ⟨fun x => A.val (f x), A.sz, A.row, fun x => A.len (f x), fun x => A.one (f x), fun h x => A.agg h (f x), fun h x => A.scal h (f x)⟩

section
variable {α β : Type} {C : Cod α} {A : Cod α} {B : Cod β} {w w0 w' : World} {b off : Nat} {x : α} {R : List Nat} {Hs : List Hl}
theorem Cod.size (C : Cod α) (x : α) : (C.enc x).size = C.sz := C.len x
theorem enc_pair (x : α × β) : (cPair A B).enc x = A.enc x.1 ++ B.enc x.2 := rfl
/-- x lies at this place. -/
def Holds (C : Cod α) (w : World) (b off : Nat) (x : α) : Prop := ∀ j u, (C.enc x)[j]? = some u → w.cell? ⟨b, off + j, none⟩ = some u
/-- The data l lie from this place on. -/
def HoldsL (C : Cod α) (w : World) (b off : Nat) (l : List α) : Prop := ∀ i x, l[i]? = some x → Holds C w b (off + i * C.sz) x
theorem Holds.fst {x : α × β} (h : Holds (cPair A B) w b off x) : Holds A w b off x.1 := fun j u hu => h j u (by
  rw [enc_pair, Array.getElem?_append_left (Array.getElem?_eq_some_iff.1 hu).1]; exact hu)
theorem Holds.snd {x : α × β} (h : Holds (cPair A B) w b off x) : Holds B w b (off + A.sz) x.2 := fun j u hu => by
  have := h (A.sz + j) u (by
    rw [enc_pair, ← A.size x.1, Array.getElem?_append_right (by omega), Nat.add_sub_cancel_left]; exact hu)
  rw [Nat.add_assoc]
  exact this
theorem Holds.one (h : Holds (cOne C) w b off x) : Holds C w b off x := h
theorem Holds.map {f : β → α} {x : β} (h : Holds (cMap f C) w b off x) : Holds C w b off (f x) := h
theorem Holds.lt (h : Holds C w b off x) (hp : 0 < C.sz) : b < w.heap.size := by
  obtain ⟨u, hu⟩ : ∃ u, (C.enc x)[0]? = some u := ⟨_, Array.getElem?_eq_getElem (by rw [C.size]; exact hp)⟩
  exact block_lt_of_cell (h 0 u hu)
theorem Holds.move (h : Holds C w b off x) (hk : w'.heap[b]? = w.heap[b]?) : Holds C w' b off x := fun j u hu => by
  rw [← h j u hu]; exact World.cell?_of_block hk
theorem HoldsL.move {l : List α} (h : HoldsL C w b off l) (hk : w'.heap[b]? = w.heap[b]?) : HoldsL C w' b off l := fun i x hx => (h i x hx).move hk
/-- A block that holds x. -/
def Blk1 (C : Cod α) (g : Nat) (t : TypeId) (x : α) : Hl := [bl g t (C.enc x)]
theorem holds_blk {g : Nat} {t : TypeId} {cs : Array Value} (h : w.heap[g]? = some (.cells cs t (0, 0))) (hc : ∀ j u, (C.enc x)[j]? = some u → cs[off + j]? = some u) : Holds C w g off x := fun j u hu => by
  rw [cell_of_row w g (off + j) cs t (0, 0) h]; exact hc j u hu
theorem HH.holds1 {g : Nat} {t : TypeId} (hH : HH w0 R Hs w) (i : Nat) (hi : Hs[i]? = some (Blk1 C g t x)) : Holds C w g 0 x := holds_blk (hH.blk i hi) fun j u hu => by rw [Nat.zero_add]; exact hu
end

section
variable {α β : Type} {C : Cod α} {P : Program} {a : Act} {o : Oper} {w w0 : World} {R : List Nat} {Hs : List Hl} {x : Operand} {v : Value} {ty t : TypeId} {b off g : Nat} {cs : Array Value}
def tyOk (P : Program) (ty : TypeId) (C : Cod α) : Bool := (P.underlying ty).map (·.isRow) == some C.row && (P.info? ty).map (·.size) == some C.sz
theorem tyOk.spec (h : tyOk P ty C = true) : (P.underlying ty).map (·.isRow) = some C.row ∧ (P.info? ty).map (·.size) = some C.sz := by
  simpa [tyOk] using h
/-- What lies at a place, read. -/
theorem opLoadT {y : α} (ho : o.op = .load ty x) (hx : a.eval x = .pointer (some ⟨b, off, none⟩)) (hty : tyOk P ty C = true) (h : Holds C w b off y) (hv : C.val y = v) : (execOp a.eval o).run P w = .ok (.value v) w := by
  subst hv
  obtain ⟨h1, h2⟩ := tyOk.spec hty
  cases hr : C.row with
  | true =>
    rw [hr] at h1
    rw [C.agg hr y]
    refine opLoadRC ho hx h1 (by rw [h2]; exact congrArg some (C.len y).symm) fun j u hu => h j u hu
  | false =>
    rw [hr] at h1
    have h3 := one_cells (C.scal hr y)
    refine opLoadC ho hx h1 ?_
    have := h 0 (C.val y) (by unfold Cod.enc; rw [h3]; rfl)
    exact this
/-- A cell of a block read. -/
theorem opLoadK (hb : w.heap[g]? = some (.cells cs t (0, 0))) (ho : o.op = .load ty x) (hx : a.eval x = .pointer (some ⟨g, off, none⟩)) (hdd : (P.underlying ty).map (·.isRow) = some false) (hc : cs[off]? = some v) : (execOp a.eval o).run P w = .ok (.value v) w :=
  opLoadC ho hx hdd (by rw [cell_of_row w g off cs t (0, 0) hb]; exact hc)
/-- What a composite literal makes. -/
theorem opBuild {parts : Array (Nat × Operand)} {cells : Array Value} {vals : List (Nat × Value)} (ho : o.op = .build ty parts) (hv : (parts.map fun (i, x) => (i, a.eval x)).toList = vals) (hb : P.built ty vals = some cells) (w : World) : (execOp a.eval o).run P w = .ok (.value (.agg cells)) w :=
  exec_build ty parts ho cells vals hv hb w
end

/-! ### Slices that are read -/
/-- A slice (of address A, length n, capacity c) of the data l. -/
structure Vu {α : Type} (C : Cod α) (w : World) (A : Option Addr) (n c : Nat) (l : List α) : Prop where
  len : l.length = n
  cap : n ≤ c
  nil : A = none → c = 0
  at' : 0 < n → ∃ b off, A = some ⟨b, off, none⟩ ∧ HoldsL C w b off l
section
variable {α : Type} {C : Cod α} {w w0 w' : World} {A : Option Addr} {n c : Nat} {l : List α} {R : List Nat} {Hs : List Hl}
theorem Vu.open (h : Vu C w A n c l) (hn : 0 < n) : ∃ b off, A = some ⟨b, off, none⟩ ∧ HoldsL C w b off l := h.at' hn
theorem Vu.none (C : Cod α) (w : World) : Vu C w none 0 0 [] := ⟨rfl, Nat.le_refl _, fun _ => rfl, fun h => absurd h (Nat.lt_irrefl _)⟩
theorem Vu.move (h : Vu C w A n c l) (hk : ∀ b off, A = some ⟨b, off, Option.none⟩ → 0 < n → w'.heap[b]? = w.heap[b]?) : Vu C w' A n c l :=
  ⟨h.len, h.cap, h.nil, fun hn => by
    obtain ⟨b, off, hA, hl⟩ := h.at' hn
    exact ⟨b, off, hA, hl.move (hk b off hA hn)⟩⟩
/-- Its block, if it has one, is none of these. -/
def Off (A : Option Addr) (n : Nat) (R : List Nat) : Prop := ∀ b off, A = some ⟨b, off, Option.none⟩ → 0 < n → b ∉ R
theorem Off.nil (A : Option Addr) (n : Nat) : Off A n [] := fun _ _ _ _ h => by cases h
/-- What was there ahead of the call, and isn't written. -/
theorem HH.vu (hH : HH w0 R Hs w) (h : Vu C w0 A n c l) (hp : 0 < C.sz) (ho : Off A n R) : Vu C w A n c l := h.move fun b off hA hn => by
  obtain ⟨b', off', hA', hl⟩ := h.at' hn
  rw [hA] at hA'
  obtain ⟨rfl, rfl⟩ : b = b' ∧ off = off' := by cases hA'; exact ⟨rfl, rfl⟩
  obtain ⟨x, hx⟩ : ∃ x, l[0]? = some x := ⟨_, List.getElem?_eq_getElem (by rw [h.len]; exact hn)⟩
  exact hH.old ((hl 0 x hx).lt hp) (ho b off hA hn)
theorem HH.holdsL {b off : Nat} (hH : HH w0 R Hs w) (h : HoldsL C w0 b off l) (hb : b < w0.heap.size) (ho : b ∉ R) : HoldsL C w b off l := h.move (hH.old hb ho)
theorem HH.holds {b off : Nat} {x : α} (hH : HH w0 R Hs w) (h : Holds C w0 b off x) (hb : b < w0.heap.size) (ho : b ∉ R) : Holds C w b off x := h.move (hH.old hb ho)
/-- A part of it. -/
def cutA (A : Option Addr) (c k sz : Nat) : Option Addr := if c = k then A else A.map (·.add (k * sz))
theorem sliced_eq (A : Option Addr) (k h c sz : Nat) : Go.sliced A k h c sz = .slice (cutA A c k sz) (h - k) (c - k) := rfl
theorem Vu.cut (h : Vu C w A n c l) {k m : Nat} (hk : k ≤ m) (hm : m ≤ n) : Vu C w (cutA A c k C.sz) (m - k) (c - k) ((l.take m).drop k) := by
  have hl := h.len
  have hc := h.cap
  refine ⟨by rw [List.length_drop, List.length_take]; omega, by omega, fun hn => ?_, fun hn => ?_⟩
  · unfold cutA at hn
    split at hn
    · have := h.nil hn; omega
    · have : A = Option.none := by cases A with
        | none => rfl
        | some a => cases hn
      have := h.nil this; omega
  · obtain ⟨b, off, rfl, hL⟩ := h.at' (by omega)
    refine ⟨b, off + k * C.sz, ?_, fun i x hx => ?_⟩
    · unfold cutA
      rw [if_neg (by omega)]
      simp [Addr.add_mid]
    · rw [List.getElem?_drop, List.getElem?_take] at hx
      split at hx
      · have := hL (k + i) x hx
        rw [Nat.add_mul, ← Nat.add_assoc] at this
        exact this
      · cases hx
end
section
variable {P : Program} {a : Act} {o : Oper} {w : World} {x : Operand} {ty e : TypeId} {sz n c k h : Nat} {A : Option Addr} {kl kh : IntKind} {jl jh : Int} {xl xh : Operand}
theorem opCutLH (ho : o.op = .slice ty x (some xl) (some xh) none) (hu : P.underlying ty = some (.slice e)) (hs : (P.info? e).map (·.size) = some sz) (hx : a.eval x = .slice A n c) (hl : a.eval xl = .int kl jl) (hh : a.eval xh = .int kh jh) (hjl : jl = (k : Int)) (hjh : jh = (h : Int)) (h1 : k ≤ h) (h2 : h ≤ c) :
    (execOp a.eval o).run P w = .ok (.value (.slice (cutA A c k sz) (h - k) (c - k))) w := by
  subst hjl hjh
  have he := elem_of hu
  have hu' : P.underlying ty = some (.slice (P.elem ty)) := by rw [he]; exact hu
  unfold execOp
  simp only [ho, Option.map_some, Option.map_none, hx, hl, hh, Sem.run_bind, Sem.run_pure, run_sliceAt_slice w ty _ _ _ _ hu', run_slice_lh w ty A n c hu' kl kh (k : Int) (h : Int) (by omega) (by omega) (by omega), he, run_sizeOf hs, Result.andThen_ok, Int.toNat_natCast, sliced_eq]
theorem opCutL (ho : o.op = .slice ty x (some xl) none none) (hu : P.underlying ty = some (.slice e)) (hs : (P.info? e).map (·.size) = some sz) (hx : a.eval x = .slice A n c) (hl : a.eval xl = .int kl jl) (hjl : jl = (k : Int)) (h1 : k ≤ n) :
    (execOp a.eval o).run P w = .ok (.value (.slice (cutA A c k sz) (n - k) (c - k))) w := by
  subst hjl
  have he := elem_of hu
  have hu' : P.underlying ty = some (.slice (P.elem ty)) := by rw [he]; exact hu
  unfold execOp
  simp only [ho, Option.map_some, Option.map_none, hx, hl, Sem.run_bind, Sem.run_pure, run_sliceAt_slice w ty _ _ _ _ hu', run_slice_l w ty A n c hu' kl (k : Int) (by omega) (by omega), he, run_sizeOf hs, Result.andThen_ok, Int.toNat_natCast, sliced_eq]
theorem cutA_zero (A : Option Addr) (c sz : Nat) : cutA A c 0 sz = A := by
  unfold cutA
  split
  · rfl
  · cases A with
    | none => rfl
    | some a => simp [Addr.add]
theorem opCutH (ho : o.op = .slice ty x none (some xh) none) (hu : P.underlying ty = some (.slice e)) (hs : (P.info? e).map (·.size) = some sz) (hx : a.eval x = .slice A n c) (hh : a.eval xh = .int kh jh) (hjh : jh = (h : Int)) (h2 : h ≤ c) :
    (execOp a.eval o).run P w = .ok (.value (.slice A h c)) w := by
  subst hjh
  have he := elem_of hu
  have hu' : P.underlying ty = some (.slice (P.elem ty)) := by rw [he]; exact hu
  unfold execOp
  simp only [ho, Option.map_some, Option.map_none, hx, hh, Sem.run_bind, Sem.run_pure, run_sliceAt_slice w ty _ _ _ _ hu', run_slice_h w ty A n c hu' kh (h : Int) (by omega) (by omega), he, run_sizeOf hs, Result.andThen_ok, Int.toNat_natCast, sliced_eq, cutA_zero, Nat.sub_zero]
theorem opCut (ho : o.op = .slice ty x none none none) (hu : P.underlying ty = some (.slice e)) (hs : (P.info? e).map (·.size) = some sz) (hx : a.eval x = .slice A n c) :
    (execOp a.eval o).run P w = .ok (.value (.slice A n c)) w := by
  have he := elem_of hu
  have hu' : P.underlying ty = some (.slice (P.elem ty)) := by rw [he]; exact hu
  unfold execOp
  simp only [ho, Option.map_none, hx, Sem.run_bind, Sem.run_pure, run_sliceAt_slice w ty _ _ _ _ hu', run_slice_all w ty A n c hu', he, run_sizeOf hs, Result.andThen_ok, sliced_eq, cutA_zero, Nat.sub_zero]
end

/-! ### Bytes as a string -/
abbrev strL (l : List UInt8) : ByteArray := ⟨l.toArray⟩
theorem opStr {P : Program} {a : Act} {o : Oper} {w : World} {x : Operand} {src dst e : TypeId} {A : Option Addr} {n c : Nat} {l : List UInt8} (ho : o.op = .convert src dst x) (hs : P.underlying src = some (.slice e)) (he : P.underlying e = some (.int .u8)) (hd : P.underlying dst = some .string)
    (hx : a.eval x = .slice A n c) (h : Vu cByte w A n c l) : (execOp a.eval o).run P w = .ok (.value (.string (strL l))) w := by
  have hr : (convert src dst (.slice A n c)).run P w = .ok (.string (strL l)) w := by
    have hl := h.len
    by_cases hn : 0 < n
    · obtain ⟨b, off, rfl, hL⟩ := h.at' hn
      subst hl
      refine run_convert_bytes_back w src dst e ⟨b, off, none⟩ c l hs he hd fun j hj => ?_
      have := hL j l[j] (List.getElem?_eq_getElem hj) 0 (.int .u8 (l[j].toNat : Int)) rfl
      rw [Addr.add_mid]
      simpa [cByte] using this
    · obtain rfl : n = 0 := by omega
      obtain rfl : l = [] := List.eq_nil_of_length_eq_zero hl
      cases A with
      | none =>
        rw [run_convert_bytes_string w _ _ _ none 0 c hs he hd]
        have := h.nil rfl
        simp [Conv.bytesToString]
        rfl
      | some p => exact run_convert_bytes_back w src dst e p c [] hs he hd fun j hj => absurd hj (Nat.not_lt_zero _)
  unfold execOp
  simp only [ho, hx, Sem.run_bind, Sem.run_pure, Result.andThen_ok, hr]

/-! ### Slices of the call's own -/
def flat {α : Type} (C : Cod α) (l : List α) : List Value := l.flatMap fun a => (C.enc a).toList
section
variable {α : Type} {C : Cod α}
theorem flat_len (l : List α) : (flat C l).length = l.length * C.sz := by
  induction l with
  | nil => simp [flat]
  | cons a r ih =>
    simp only [flat, List.flatMap_cons, List.length_append, Array.length_toList] at ih ⊢
    rw [ih, C.size, List.length_cons, Nat.add_mul, Nat.one_mul, Nat.add_comm]
theorem flat_append (l r : List α) : flat C (l ++ r) = flat C l ++ flat C r := List.flatMap_append ..
theorem flat_one (x : α) : flat C [x] = (C.enc x).toList := by simp [flat]
theorem flat_get : ∀ (l : List α) (i j : Nat) (x : α) (u : Value), l[i]? = some x → (C.enc x)[j]? = some u → (flat C l)[i * C.sz + j]? = some u
  | [], i, j, x, u, h, _ => by simp at h
  | a :: r, 0, j, x, u, h, hu => by
    obtain rfl : a = x := by simpa using h
    have hj := (Array.getElem?_eq_some_iff.1 hu).1
    simp only [flat, List.flatMap_cons, Nat.zero_mul, Nat.zero_add]
    rw [List.getElem?_append_left (by simpa using hj), Array.getElem?_toList, hu]
  | a :: r, i + 1, j, x, u, h, hu => by
    have := flat_get r i j x u (by simpa using h) hu
    simp only [flat, List.flatMap_cons]
    rw [List.getElem?_append_right (by rw [Array.length_toList, C.size, Nat.add_mul]; omega), Array.length_toList, C.size]
    rw [show (i + 1) * C.sz + j - C.sz = i * C.sz + j by rw [Nat.add_mul]; omega]
    exact this
theorem flat_one' (l : List α) : ∀ u ∈ flat C l, u.oneCell' = true := fun u hu => by
  obtain ⟨a, _, h2⟩ := List.mem_flatMap.1 hu
  have := C.one a
  rw [Array.all_eq_true_iff_forall_mem] at this
  exact this u (by simpa [Cod.enc] using h2)
theorem flat_set : ∀ (l : List α) (i : Nat) (x : α), i < l.length → flat C (l.set i x) = (flat C l).take (i * C.sz) ++ ((C.enc x).toList ++ (flat C l).drop (i * C.sz + C.sz))
  | [], i, x, h => by simp at h
  | a :: r, 0, x, _ => by
    simp only [List.set_cons_zero, flat, List.flatMap_cons, Nat.zero_mul, List.take_zero, List.nil_append, Nat.zero_add]
    congr 1
    rw [List.drop_append_of_le_length (by rw [Array.length_toList, C.size]; exact Nat.le_refl _), List.drop_eq_nil_of_le (by rw [Array.length_toList, C.size]; exact Nat.le_refl _), List.nil_append]
  | a :: r, i + 1, x, h => by
    have ih := flat_set r i x (by simpa using h)
    have ea : (C.enc a).toList.length = C.sz := by rw [Array.length_toList, C.size]
    simp only [List.set_cons_succ, flat, List.flatMap_cons] at ih ⊢
    rw [ih, show (i + 1) * C.sz = C.sz + i * C.sz by rw [Nat.add_mul, Nat.one_mul, Nat.add_comm]]
    rw [← ea, List.take_length_add_append, Nat.add_assoc, List.drop_length_add_append, List.append_assoc]
end
/-- A slice of the call's own, that may be nil. -/
def OwnT {α : Type} (C : Cod α) (e : TypeId) (v : Value) (l : List α) (E : Hl) : Prop := OwnS e C.sz v l.length (flat C l) E
/-- The cells of one that isn't nil. -/
structure Bk {α : Type} (C : Cod α) (cap : Nat) (cur : Array Value) (l : List α) : Prop where
  le : l.length ≤ cap
  max : cap ≤ maxLen
  size : cur.size = cap * C.sz
  take : cur.toList.take (l.length * C.sz) = flat C l
section
variable {α : Type} {C : Cod α} {e : TypeId} {v : Value} {l : List α} {E : Hl} {g cap n : Nat} {cur : Array Value} {w w0 : World} {R : List Nat} {Hs : List Hl}
theorem OwnT.nil (C : Cod α) (e : TypeId) : OwnT C e (.slice none 0 0) [] [] := OwnS.nil _ _
theorem OwnT.slice (h : OwnT C e v l E) : ∃ A c, v = .slice A l.length c := OwnS.slice h
theorem OwnT.cases (h : OwnT C e v l E) : (v = .slice none 0 0 ∧ l = [] ∧ E = []) ∨ ∃ g cap cur, v = .slice (some ⟨g, 0, none⟩) l.length cap ∧ E = [bl g e cur] ∧ Bk C cap cur l := by
  rcases h.2 with ⟨h1, h2, h3⟩ | ⟨g, cap, cur, h1, h2, h3, h4, h5, h6⟩
  · exact .inl ⟨h1, List.eq_nil_of_length_eq_zero h2, h3⟩
  · exact .inr ⟨g, cap, cur, h1, h2, h3, h4, h5, h6⟩
theorem OwnT.open (h : OwnT C e v l E) (hn : 0 < l.length) : ∃ g cap cur, v = .slice (some ⟨g, 0, none⟩) l.length cap ∧ E = [bl g e cur] ∧ Bk C cap cur l := by
  rcases h.cases with ⟨_, h2, _⟩ | h
  · subst h2; simp at hn
  · exact h
theorem Bk.own (h : Bk C cap cur l) (e : TypeId) (g : Nat) (hn : l.length = n) : OwnT C e (.slice (some ⟨g, 0, none⟩) n cap) l [bl g e cur] := by
  subst hn
  exact ⟨flat_len l, .inr ⟨g, cap, cur, rfl, rfl, h.le, h.max, h.size, h.take⟩⟩
theorem Bk.cell (h : Bk C cap cur l) (i j : Nat) {x : α} {u : Value} (hx : l[i]? = some x) (hu : (C.enc x)[j]? = some u) : cur[i * C.sz + j]? = some u := by
  have h1 := flat_get l i j x u hx hu
  rw [← h.take, List.getElem?_take] at h1
  split at h1
  · simpa using h1
  · cases h1
theorem Bk.holdsL (h : Bk C cap cur l) {t : TypeId} (hb : w.heap[g]? = some (.cells cur t (0, 0))) : HoldsL C w g 0 l := fun i x hx => holds_blk hb fun j u hu => by
  rw [Nat.zero_add]; exact h.cell i j hx hu
theorem HH.bk (hH : HH w0 R Hs w) (i : Nat) {t : TypeId} (hi : Hs[i]? = some [bl g t cur]) (h : Bk C cap cur l) : HoldsL C w g 0 l := h.holdsL (hH.blk i hi)
/-- One of its data laid anew. -/
theorem Bk.put (h : Bk C cap cur l) (i : Nat) (hi : i < l.length) (x : α) : Bk C cap (putL cur (i * C.sz) (C.enc x).toList) (l.set i x) := by
  have hs := h.size
  have hle := h.le
  have hb : i * C.sz + C.sz ≤ l.length * C.sz := by
    have := Nat.mul_le_mul_right C.sz (show i + 1 ≤ l.length by omega)
    rw [Nat.add_mul, Nat.one_mul] at this; exact this
  have hc : l.length * C.sz ≤ cap * C.sz := Nat.mul_le_mul_right _ hle
  refine ⟨by rw [List.length_set]; exact h.le, h.max, by rw [putL_size]; exact hs, ?_⟩
  rw [flat_set l i x hi, List.length_set, ← h.take]
  apply List.ext_getElem?
  intro k
  have hlen : (C.enc x).toList.length = C.sz := by rw [Array.length_toList, C.size]
  have hlt : (List.take (i * C.sz) (List.take (l.length * C.sz) cur.toList)).length = i * C.sz := by simp; omega
  rw [List.getElem?_take, Array.getElem?_toList, putL_get, hlen]
  by_cases h1 : k < i * C.sz
  · rw [if_pos (by omega), if_neg (by omega), List.getElem?_append_left (by omega), List.getElem?_take, if_pos h1, List.getElem?_take, if_pos (by omega), Array.getElem?_toList]
  · rw [List.getElem?_append_right (by omega), hlt]
    by_cases h2 : k < i * C.sz + C.sz
    · rw [if_pos (by omega), if_pos (by omega), List.getElem?_append_left (by omega)]
    · rw [List.getElem?_append_right (by omega), hlen, List.getElem?_drop, List.getElem?_take]
      by_cases h3 : k < l.length * C.sz
      · rw [if_pos h3, if_neg (by omega), if_pos (by omega), Array.getElem?_toList]
        congr 1; omega
      · rw [if_neg h3, if_neg (by omega)]
theorem OwnT.vu (h : OwnT C e v l E) (hE : Has E w) : ∃ A c, v = .slice A l.length c ∧ Vu C w A l.length c l := by
  rcases h.cases with ⟨rfl, rfl, rfl⟩ | ⟨g, cap, cur, rfl, rfl, hB⟩
  · exact ⟨none, 0, rfl, Vu.none C w⟩
  · exact ⟨_, cap, rfl, rfl, hB.le, (fun h => by cases h), fun _ => ⟨g, 0, rfl, hB.holdsL (t := e) (hE.blk (g, _) (by simp))⟩⟩
theorem OwnT.made {l : List α} {cs : Array Value} (hcs : cs.toList = flat C l) (hn : l.length ≤ maxLen) (hl : l.length = n) : OwnT C e (.slice (some ⟨g, 0, none⟩) n n) l [bl g e cs] := by
  subst hl
  refine Bk.own ⟨Nat.le_refl _, hn, ?_, ?_⟩ e g rfl
  · rw [← Array.length_toList, hcs, flat_len]
  · rw [hcs, ← flat_len (C := C), List.take_length]
end
section
variable {α : Type} {C : Cod α} {P : Program} {a : Act} {o : Oper} {w w0 : World} {v : Value} {x y : Operand} {t ty e : TypeId} {g off : Nat} {cs cs' : Array Value} {l m : List α} {E : Hl}
/-- What a store lays. -/
theorem smStoreT {z : α} (ho : o.op = .store ty x y) (hx : a.eval x = .pointer (some ⟨g, off, none⟩)) (hy : a.eval y = v) (hv : C.val z = v) (hty : tyOk P ty C = true) (hn : off + C.sz ≤ cs.size) (hcs : putL cs off (C.enc z).toList = cs') :
    Small P a o [bl g t cs] (fun _ => True) (fun _ E' => E' = [bl g t cs']) := by
  subst hv
  obtain ⟨h1, h2⟩ := tyOk.spec hty
  cases hr : C.row with
  | true =>
    rw [C.agg hr z] at hy
    exact smStoreR ho hx hy (by rw [h2]; exact congrArg some (C.len z).symm) (by rw [C.len]; exact hn) (C.one z) hcs
  | false =>
    have h3 := one_cells (C.scal hr z)
    have hsz : C.sz = 1 := by rw [← C.len z, h3]; rfl
    refine smStore ho hx hy (by rw [h2, hsz]) (by omega) (C.scal hr z) ?_
    rw [← hcs]
    show _ = putL cs off (C.val z).cells.toList
    rw [h3]; rfl
/-- append, to a slice of the call's own. -/
theorem smAppT {n c by_ : Nat} {z : Value} {A : Option Addr} (ho : o.op = .call { callee := .builtin .append, args := #[x, y], argTypes := #[ty, ty] })
    (hu : P.underlying ty = some (.slice e)) (hi : (P.info? e).map (fun i => (i.zero, i.size, i.bytes)) = some (some z, C.sz, by_)) (hzs : z.cells.size = C.sz) (hsz : 0 < C.sz)
    (hx : a.eval x = v) (hO : OwnT C e v l E) (hy : a.eval y = .slice A n c) (hn : m.length = n) (hA : A = none → n = 0 ∧ c = 0) (h63 : l.length + n ≤ maxLen) (hbytes : (l.length + n) * by_ ≤ 140737488355328) :
    Small P a o E (fun w => Vu C w A n c m) (fun v' E' => OwnT C e v' (l ++ m) E' ∧ (v' = .slice none 0 0 ↔ v = .slice none 0 0 ∧ n = 0)) := fun w hE hR => by
  subst hn
  have h := smAppend (xs := flat C l) (news := flat C m) ho hu hi hzs hsz hx hO hy hA (flat_len m) (flat_one' m) h63 hbytes w hE (fun p j u hp hj => ?_)
  · refine h.mono ?_
    rintro v' w' ⟨E', ⟨h1, h2⟩, h3⟩
    refine ⟨E', ⟨?_, h2⟩, h3⟩
    unfold OwnT
    rw [List.length_append, flat_append]
    exact h1
  · have hlen : j < m.length * C.sz := by
      have := (List.getElem?_eq_some_iff.1 hj).1
      rw [flat_len] at this; exact this
    have hm : 0 < m.length := by
      rcases Nat.eq_zero_or_pos m.length with h0 | h0
      · rw [h0] at hlen; simp at hlen
      · exact h0
    obtain ⟨b, off, hA', hL⟩ := hR.at' hm
    rw [hp] at hA'
    obtain rfl := Option.some.inj hA'
    have hdiv : j / C.sz < m.length := (Nat.div_lt_iff_lt_mul hsz).2 hlen
    have hmod : j % C.sz < C.sz := Nat.mod_lt _ hsz
    have hx' : m[j / C.sz]? = some m[j / C.sz] := List.getElem?_eq_getElem hdiv
    have hu' : (C.enc m[j / C.sz])[j % C.sz]? = some ((C.enc m[j / C.sz])[j % C.sz]'(by rw [C.size]; exact hmod)) := Array.getElem?_eq_getElem (by rw [C.size]; exact hmod)
    have h1 := flat_get m _ _ _ _ hx' hu'
    rw [Nat.div_add_mod' j C.sz, hj] at h1
    obtain rfl := Option.some.inj h1
    have h2 := hL _ _ hx' _ _ hu'
    rw [Addr.add_mid, ← h2]
    congr 2
    rw [Nat.add_assoc, Nat.div_add_mod']
end
end Go.Proofs.YticflflbogdljaaDoor
