/- What a round over slices.Chunk keeps; the sum of a text's parts. -/
import Derived.Test.YtajifdnfibojfaaDoorChunk
import Derived.Test.YtajifdnfibojfaaDoorOLeaf
import Derived.Test.YtajifdnfibojfaaDoorBytes
namespace Go.Proofs.YtajifdnfibojfaaDoor
open Go Go.RowKit Go.Shelf
set_option maxRecDepth 100000

theorem Row.kept {W W' : World} {row' : Option Nat} {g : Nat} {t : TypeId} {n : Nat} {f : Nat → UInt8} (h : Row W g t n f) (hg : W.grownBy W' row') (hr : ∀ r, row' = some r → ∃ o : Obj, W.heap[r]? = some o ∧ o.isCells = false) : Row W' g t n f := by
  refine (hg.block g h.lt fun e => ?_).trans h
  obtain ⟨o, ho, hc⟩ := hr g e.symm
  rw [show W.heap[g]? = _ from h] at ho
  obtain rfl := Option.some.inj ho
  cases hc
theorem Blk.kept {W W' : World} {row' : Option Nat} {g : Nat} {t : TypeId} {cs : Array Value} (h : Blk W g t cs) (hg : W.grownBy W' row') (hr : ∀ r, row' = some r → ∃ o : Obj, W.heap[r]? = some o ∧ o.isCells = false) : Blk W' g t cs := by
  refine (hg.block g h.lt fun e => ?_).trans h
  obtain ⟨o, ho, hc⟩ := hr g e.symm
  rw [show W.heap[g]? = _ from h] at ho
  obtain rfl := Option.some.inj ho
  cases hc

/-- What a round keeps: what is no cells from B on, and two blocks. -/
def Side (B Bs : Nat) (W W' : World) : Prop := KeepsFrom B W W' ∧ KeptAt Bs W W' ∧ Bs + 1 < W'.heap.size
section
variable {B Bs : Nat} {W W' W'' : World}
theorem Side.refl (h : Bs + 1 < W.heap.size) : Side B Bs W W := ⟨KeepsFrom.refl _ _, ⟨rfl, rfl⟩, h⟩
theorem Side.drew (h : Side B Bs W W') : Side B Bs W W'.drew := ⟨⟨h.1.size, h.1.same⟩, h.2⟩
theorem Side.below (h : Side B Bs W W') (hb : Below W'.heap.size W' W'') : Side B Bs W W'' := by
  have h3 := h.2.2
  refine ⟨h.1.trans ⟨hb.size, fun k o _ hk _ => (hb.block k (Array.getElem?_eq_some_iff.1 hk).1).trans hk⟩, ⟨(hb.block _ (by omega)).trans h.2.1.1, (hb.block _ h3).trans h.2.1.2⟩, Nat.lt_of_lt_of_le h3 hb.size⟩
theorem Side.alloc (h : Side B Bs W W') (o : Obj) : Side B Bs W (W'.alloc o) := h.below ((Below.refl _ _).alloc (Nat.le_refl _) _)
/-- Another block of cells is changed. -/
theorem Side.other (h : Side B Bs W W') {g : Nat} {t : TypeId} {cs : Array Value} {fr : Nat × Nat} (hg : W'.heap[g]? = some (.cells cs t fr)) (h1 : g ≠ Bs) (h2 : g ≠ Bs + 1) (hs : W'.heap.size ≤ W''.heap.size)
    (hk : ∀ k, k < W'.heap.size → k ≠ g → W''.heap[k]? = W'.heap[k]?) : Side B Bs W W'' := by
  have h3 := h.2.2
  refine ⟨h.1.trans ⟨hs, fun k o _ hk' ho => ?_⟩, ⟨(hk _ (by omega) (Ne.symm h1)).trans h.2.1.1, (hk _ h3 (Ne.symm h2)).trans h.2.1.2⟩, by omega⟩
  by_cases e : k = g
  · subst e
    rw [hg] at hk'
    obtain rfl := Option.some.inj hk'
    cases ho
  · exact (hk k (Array.getElem?_eq_some_iff.1 hk').1 e).trans hk'
theorem Side.setRow (h : Side B Bs W W') {g : Nat} {t : TypeId} {n : Nat} {f : Nat → UInt8} (hg : Row W' g t n f) (h1 : g ≠ Bs) (h2 : g ≠ Bs + 1) (cs : Array Value) : Side B Bs W (W'.setRow g cs) :=
  h.other hg h1 h2 (by simp [World.setRow]) fun k _ hk => setRow_other _ _ _ _ hk
end

/-- A part as a block. -/
def partB (n : Nat) (f : Nat → UInt8) (i : Nat) : Nat → UInt8 := padB (plen n i) fun j => f (16 * i + j)
/-- The exclusive or of parts. -/
def sumTo (n : Nat) (f : Nat → UInt8) (l : List Nat) : Nat → UInt8 := l.foldl (fun s i => added s (partB n f i)) fun _ => 0
theorem sumTo_snoc (n : Nat) (f : Nat → UInt8) (l : List Nat) (i : Nat) : sumTo n f (l ++ [i]) = added (sumTo n f l) (partB n f i) := by simp [sumTo]
theorem part_len {n i : Nat} (h : 16 * i < n) : 0 < plen n i ∧ plen n i ≤ 16 ∧ 16 * i + plen n i ≤ n := by unfold plen; omega
theorem opadded_part (b off n i : Nat) (f : Nat → UInt8) (w : World) (hi : 16 * i < n) (hd : ∀ j, j < n → w.cell? ⟨b, off + j, none⟩ = some (.int .u8 ((f j).toNat : Int))) :
    Calls Tryd.prog 44 #[partV b off n i] w fun e w' => e = .returned (.agg (row 16 (partB n f i))) ∧ Below w.heap.size w w' := by
  obtain ⟨h1, h2, h3⟩ := part_len hi
  exact opadded_c b (off + 16 * i) (plen n i) (plen n i) _ w h1 h2 fun j hj => by rw [Nat.add_assoc]; exact hd (16 * i + j) (by omega)
end Go.Proofs.YtajifdnfibojfaaDoor
