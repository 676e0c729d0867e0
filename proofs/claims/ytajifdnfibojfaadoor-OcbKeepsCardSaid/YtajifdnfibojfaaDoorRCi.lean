/- The document's Cipher as a block of memory: 752 bytes, and how many rounds there are. Over any program. -/
import Derived.Test.YtajifdnfibojfaaDoorGuard
namespace Go.Proofs.YtajifdnfibojfaaDoor
open Go Go.RowKit

def ciRow (F : Nat → UInt8) (r : Int) : Array Value := (row 752 F).push (.int .i64 r)
/-- Block g is just a Cipher: the bytes F, r rounds. -/
def Ci (w : World) (g : Nat) (t : TypeId) (F : Nat → UInt8) (r : Int) : Prop := w.heap[g]? = some (.cells (ciRow F r) t (0, 0))
theorem ciRow_size (F : Nat → UInt8) (r : Int) : (ciRow F r).size = 753 := by simp [ciRow, row_size]
theorem ciRow_get (F : Nat → UInt8) (r : Int) (i : Nat) (h : i < 752) : (ciRow F r)[i]? = some (by8 (F i)) := by
  have hn : ¬ i = 752 := by omega
  unfold ciRow
  rw [Array.getElem?_push, row_size, if_neg hn]
  exact row_get 752 F i h
theorem ciRow_last (F : Nat → UInt8) (r : Int) : (ciRow F r)[752]? = some (.int .i64 r) := by
  unfold ciRow
  rw [Array.getElem?_push, row_size, if_pos rfl]
theorem ciRow_set (F : Nat → UInt8) (r : Int) (i : Nat) (x : UInt8) (hi : i < 752) : (ciRow F r).setIfInBounds i (by8 x) = ciRow (fun j => if j = i then x else F j) r := by
  unfold ciRow
  rw [← row_set]
  apply Array.ext_getElem?
  intro j
  have hn : ¬ i = 752 := by omega
  rw [Array.getElem?_setIfInBounds, Array.getElem?_push, Array.getElem?_push, row_size, Array.size_setIfInBounds, row_size, Array.size_push, row_size, Array.getElem?_setIfInBounds, row_size]
  by_cases h : i = j
  · subst h
    rw [if_pos rfl, if_neg hn, if_pos rfl, if_pos hi, if_pos (by omega)]
  · rw [if_neg h, if_neg h]
theorem ciRow_one (F : Nat → UInt8) (r : Int) : (ciRow F r).all (·.oneCell') = true := by
  rw [Array.all_eq_true_iff_forall_mem]
  intro v hv
  unfold ciRow at hv
  rcases Array.mem_push.1 hv with h | rfl
  · exact Array.all_eq_true_iff_forall_mem.1 (row_one 752 F) v h
  · rfl
section
variable {w w' : World} {g : Nat} {t : TypeId} {F : Nat → UInt8} {r : Int}
theorem Ci.lt (h : Ci w g t F r) : g < w.heap.size := by
  rcases Nat.lt_or_ge g w.heap.size with hlt | hge
  · exact hlt
  · unfold Ci at h; rw [Array.getElem?_eq_none hge] at h; cases h
theorem Ci.cell (h : Ci w g t F r) (i : Nat) (hi : i < 752) : w.cell? ⟨g, i, none⟩ = some (.int .u8 ((F i).toNat : Int)) := by
  rw [cell_of_row w g i _ t (0, 0) h, ciRow_get F r i hi]; rfl
theorem Ci.last (h : Ci w g t F r) : w.cell? ⟨g, 752, none⟩ = some (.int .i64 r) := by
  rw [cell_of_row w g 752 _ t (0, 0) h, ciRow_last]
theorem Ci.frozen (h : Ci w g t F r) (i : Nat) : w.frozen? ⟨g, i, none⟩ = false := by
  unfold Ci at h
  simp [World.frozen?, h]
theorem Ci.new (w : World) (t : TypeId) (F : Nat → UInt8) (r : Int) : Ci (w.alloc (.cells (ciRow F r) t)) w.heap.size t F r := heap_alloc_new w _
theorem Ci.drew (h : Ci w g t F r) : Ci w.drew g t F r := h
theorem Ci.alloc (h : Ci w g t F r) (o : Obj) : Ci (w.alloc o) g t F r := (Below.heap_alloc w o g h.lt).trans h
theorem Ci.set_ (h : Ci w g t F r) (i : Nat) (hi : i < 752) (x : UInt8) : Ci (w.setCell ⟨g, i, none⟩ (.int .u8 (x.toNat : Int))) g t (fun j => if j = i then x else F j) r := by
  unfold Ci at h ⊢
  rw [heap_setCell_same w g i _ t _ h]
  have e := ciRow_set F r i x hi
  unfold by8 at e
  rw [e]
theorem Ci.far (h : Ci w g t F r) {p : Addr} (hp : g ≠ p.block) (u : Value) : Ci (w.setCell p u) g t F r := (Below.heap_setCell w p u g hp).trans h
theorem Ci.below {B : Nat} (h : Ci w g t F r) (hb : Below B w w') (hg : g < B) : Ci w' g t F r := (hb.block g hg).trans h
theorem Ci.congr {F' : Nat → UInt8} (h : Ci w g t F r) (hf : ∀ i, i < 752 → F i = F' i) : Ci w g t F' r := by
  unfold Ci at *; rw [h]; unfold ciRow; rw [row_congr hf]
theorem Ci.setRow_far (h : Ci w g t F r) {k : Nat} (hk : k ≠ g) (cs : Array Value) : Ci (w.setRow k cs) g t F r := (setRow_other w k g cs (Ne.symm hk)).trans h
end
section
variable {P : Program} {w : World}
/-- A struct or an array written out, whose cells are known. -/
theorem wpList_build_eq {ops : Array Oper} {rest : List Oper} {o : Oper} {a : Act} {Q : Exit → Act → World → Prop} (hgd : o.guard = none) (t : TypeId) (parts : Array (Nat × Operand)) (ho : o.op = .build t parts) (cells : Array Value)
    (hb : P.built t (parts.map fun (i, x) => (i, a.eval x)).toList = some cells)
    (h : wpList P ops Q rest (a.put o.dst (.agg cells)) w) : wpList P ops Q (o :: rest) a w := by
  refine wpList_build hgd t parts ho (by rw [hb]; rfl) ?_
  rw [hb]
  exact h
/-- A new variable that begins with known cells. -/
theorem wpList_box_agg {ops : Array Oper} {rest : List Oper} {o : Oper} {a : Act} {Q : Exit → Act → World → Prop} (hgd : o.guard = none) (t : TypeId) (x : Operand) (ho : o.op = .box t x) (cells : Array Value) (hx : a.eval x = .agg cells)
    (h : wpList P ops Q rest (a.put o.dst (.pointer (some ⟨w.heap.size, 0, none⟩))) (w.alloc (.cells cells t))) : wpList P ops Q (o :: rest) a w :=
  wpList_plain hgd fun _ hK => by
    unfold Oper.wp execOp
    simp [ho, hx, Instr.box, newVar, newRow, Value.cells]
    exact hK _ _ h
end
end Go.Proofs.YtajifdnfibojfaaDoor
