/- Slices of bytes: what came in, what is the call's own; append; strings of bytes. -/
import Derived.Test.YtchojbhmfjibmaaTy
import Derived.WalkKit
import Derived.ChangeKeysEq
import Derived.Carry
import Derived.Deep.DeepHandedRow
import Derived.Laws.AppendOwn
import Derived.Laws.AppendOwnNone
import Derived.Laws.IdiomStrings
import Derived.Laws.Concat
import Derived.SizedLaws
import Derived.OwnWalk
namespace Go.Proofs.Ytchojbhmfjibmaa
open Go Go.RowKit Go.ChangeShapes Go.WideShapes Go.ChangeAt
set_option maxRecDepth 100000

/-- The n bytes f, as a string. -/
def bytesOf (n : Nat) (f : Nat → UInt8) : ByteArray := ⟨((List.range n).map f).toArray⟩
theorem bytesOf_size (n : Nat) (f : Nat → UInt8) : (bytesOf n f).size = n := by simp [bytesOf, ByteArray.size]
theorem bytesOf_congr {n : Nat} {f g : Nat → UInt8} (h : ∀ i, i < n → f i = g i) : bytesOf n f = bytesOf n g := by
  unfold bytesOf
  rw [List.map_congr_left fun i hi => h i (List.mem_range.1 hi)]
theorem bytesOf_get {n : Nat} {f : Nat → UInt8} (i : Nat) (h : i < n) : (bytesOf n f).data[i]? = some (f i) := by
  simp [bytesOf, h]
theorem bytesOf_inj {n m : Nat} {f g : Nat → UInt8} (h : bytesOf n f = bytesOf m g) : n = m ∧ ∀ i, i < n → f i = g i := by
  have h1 := congrArg ByteArray.size h
  rw [bytesOf_size, bytesOf_size] at h1
  subst h1
  refine ⟨rfl, fun i hi => ?_⟩
  have h2 := bytesOf_get (f := f) i hi
  rw [h, bytesOf_get i hi] at h2
  exact (Option.some.inj h2).symm
def both (n : Nat) (f g : Nat → UInt8) : Nat → UInt8 := fun j => if j < n then f j else g (j - n)
theorem bytesOf_append (n m : Nat) (f g : Nat → UInt8) : bytesOf n f ++ bytesOf m g = bytesOf (n + m) (both n f g) := by
  unfold bytesOf
  rw [ByteArray.mk_append_mk, List.range_add, List.map_append, List.map_map]
  congr 3
  · exact List.map_congr_left fun i hi => (if_pos (List.mem_range.1 hi)).symm
  · refine List.map_congr_left fun i _ => ?_
    show g i = (if n + i < n then f (n + i) else g (n + i - n))
    rw [if_neg (by omega), Nat.add_sub_cancel_left]

/-- A slice of n bytes f, of capacity c, nil or anywhere. -/
def Bts (w : World) (A : Option Addr) (n c : Nat) (f : Nat → UInt8) : Prop :=
  (0 < n → ∃ b off, A = some ⟨b, off, none⟩ ∧ ∀ j, j < n → w.cell? ⟨b, off + j, none⟩ = some (.int .u8 ((f j).toNat : Int))) ∧ (A = none → n = 0 ∧ c = 0) ∧ n ≤ c
theorem Bts.below {w w' : World} {A : Option Addr} {n c : Nat} {f : Nat → UInt8} (h : Bts w A n c f) (hb : Below w.heap.size w w') : Bts w' A n c f := by
  refine ⟨fun hn => ?_, h.2⟩
  obtain ⟨b, off, hA, hc⟩ := h.1 hn
  refine ⟨b, off, hA, fun j hj => ?_⟩
  have hlt : b < w.heap.size := block_lt_of_cell (hc j hj)
  exact (hb.cell (p := ⟨b, off + j, none⟩) hlt).trans (hc j hj)
theorem Bts.of_cells {w : World} {b off n c : Nat} {f : Nat → UInt8} (h : ∀ j, j < n → w.cell? ⟨b, off + j, none⟩ = some (.int .u8 ((f j).toNat : Int))) (hc : n ≤ c) : Bts w (some ⟨b, off, none⟩) n c f :=
  ⟨fun _ => ⟨b, off, rfl, h⟩, (fun h => by cases h), hc⟩
theorem Bts.drew {w : World} {A : Option Addr} {n c : Nat} {f : Nat → UInt8} (h : Bts w A n c f) : Bts w.drew A n c f := h

theorem undStr : Try.prog.underlying 9 = some .string := by kernel_rfl
theorem info8' : (Try.prog.info? 5).map (fun i => (i.zero, i.size, i.bytes)) = some (some (.int .u8 0), 1, 1) := by kernel_rfl

theorem run_str {w : World} {A : Option Addr} {n c : Nat} {f : Nat → UInt8} (h : Bts w A n c f) : (convert 64 9 (.slice A n c)).run Try.prog w = .ok (.string (bytesOf n f)) w := by
  have hl : ((List.range n).map f).length = n := by simp
  cases A with
  | none =>
    obtain ⟨rfl, rfl⟩ := h.2.1 rfl
    rw [run_convert_bytes_string w _ _ _ none 0 0 undB und8 undStr]
    simp [Conv.bytesToString]
    rfl
  | some a =>
    have hr := run_convert_bytes_back (P := Try.prog) w 64 9 5 a c ((List.range n).map f) undB und8 undStr (fun j hj => by
      rw [hl] at hj
      obtain ⟨b, off, hA, hc⟩ := h.1 (by omega)
      obtain rfl := Option.some.inj hA
      rw [Addr.add_mid, hc j hj]
      simp)
    rw [hl] at hr
    exact hr

/-- The n bytes f in a slice of the call's own. -/
def Own (w : World) (base : Nat) (v : Value) (n : Nat) (f : Nat → UInt8) : Prop := w.ownsRow base 5 1 v n (row n f).toList
theorem Own.below {w w' : World} {base n : Nat} {v : Value} {f : Nat → UInt8} (h : Own w base v n f) (hb : Below w.heap.size w w') : Own w' base v n f := by
  refine ⟨h.1, ?_⟩
  rcases h.2 with h | ⟨g, cap, cur, h1, h2, h3, h4⟩
  · exact .inl h
  · refine .inr ⟨g, cap, cur, h1, h2, ?_, h4⟩
    have hlt : g < w.heap.size := (Array.getElem?_eq_some_iff.1 h3).1
    exact (hb.block g hlt).trans h3
theorem Own.bts {w : World} {base n : Nat} {v : Value} {f : Nat → UInt8} (h : Own w base v n f) : ∃ A c, v = .slice A n c ∧ Bts w A n c f ∧ c ≤ maxLen ∧ (∀ a, A = some a → ∃ g, a = ⟨g, 0, none⟩ ∧ base ≤ g) := by
  rcases h.2 with ⟨rfl, rfl⟩ | ⟨g, cap, cur, rfl, h2, h3, h4, h5, h6, h7⟩
  · exact ⟨none, 0, rfl, ⟨fun h => absurd h (by omega), fun _ => ⟨rfl, rfl⟩, Nat.le_refl _⟩, Nat.zero_le _, fun a h => by cases h⟩
  · refine ⟨_, cap, rfl, Bts.of_cells (fun j hj => ?_) h4, h5, fun a h => ⟨g, (Option.some.inj h).symm, h2⟩⟩
    rw [Nat.zero_add, cell_of_row w g j _ _ (0, 0) h3]
    have h8 : (cur.toList.take (n * 1))[j]? = (row n f).toList[j]? := by rw [h7]
    rw [Nat.mul_one, List.getElem?_take, if_pos hj, Array.getElem?_toList, Array.getElem?_toList, row_get n f j hj] at h8
    exact h8
theorem Own.new (w : World) (base : Nat) (h : base ≤ w.heap.size) (f : Nat → UInt8) : Own (w.alloc (.cells #[] 5)) base (.slice (some ⟨w.heap.size, 0, none⟩) 0 0) 0 f :=
  World.ownsRow_made w #[] 0 h (Nat.zero_le _) rfl
theorem row_both (n m : Nat) (f g : Nat → UInt8) : (row n f).toList ++ (row m g).toList = (row (n + m) (both n f g)).toList := by
  apply List.ext_getElem?
  intro j
  rw [List.getElem?_append, Array.length_toList, row_size, Array.getElem?_toList, Array.getElem?_toList, Array.getElem?_toList]
  by_cases h : j < n
  · rw [if_pos h, row_get _ _ j h, row_get _ _ j (by omega)]
    unfold both; rw [if_pos h]
  · rw [if_neg h]
    by_cases h2 : j - n < m
    · rw [row_get _ _ _ h2, row_get _ _ j (by omega)]
      unfold both; rw [if_neg h]
    · rw [Array.getElem?_eq_none (by rw [row_size]; omega), Array.getElem?_eq_none (by rw [row_size]; omega)]
/-- append, of bytes, to a slice of the call's own. -/
theorem wpList_app {w : World} {ops : Array Oper} {rest : List Oper} {o : Oper} {a : Act} {Q : Exit → Act → World → Prop} (hgd : o.guard = none) (s x : Operand)
    (ho : o.op = .call { callee := .builtin .append, args := #[s, x], argTypes := #[64, 64] }) (base : Nat) (v : Value) (n : Nat) (f : Nat → UInt8) (hs : a.eval s = v) (hown : Own w base v n f)
    (A : Option Addr) (m c : Nat) (g : Nat → UInt8) (hx : a.eval x = .slice A m c) (hA : Bts w A m c g) (hb : n + m ≤ 140737488355328) (hbase : base ≤ w.heap.size)
    (h : ∀ v' w', Own w' base v' (n + m) (both n f g) → (∀ B, B ≤ base → ∀ w0, Below B w0 w → Below B w0 w') → wpList Try.prog ops Q rest (a.put o.dst v') w') : wpList Try.prog ops Q (o :: rest) a w := by
  obtain ⟨i0, hi, hz0, hz1, hz2⟩ := info_parts info8'
  cases A with
  | none =>
    obtain ⟨rfl, rfl⟩ := hA.2.1 rfl
    refine wpList_append_own_none hgd s x 64 ho base 5 i0 1 undB hi v n (row n f).toList hs hown hx (h v w ?_ fun B _ w0 hb => hb)
    have e : row n f = row n (both n f g) := row_congr fun i hi => by unfold both; rw [if_pos hi]
    unfold Own
    rw [Nat.add_zero, ← e]
    exact hown
  | some ad =>
    refine wpList_append_own w hgd s x 64 ho base 5 i0 (.int .u8 0) 1 1 undB hi hz0 hz1 hz2 rfl (by decide) v n (row n f).toList hs hown ad m c (row m g).toList hx (by rw [Array.length_toList, row_size, Nat.mul_one]) (fun j u hu => ?_) (fun u hu => ?_) (by unfold maxLen; omega) (by omega) hbase fun v' w' h1 h2 _ => ?_
    · rw [Array.getElem?_toList] at hu
      have hj : j < m := by
        have := (Array.getElem?_eq_some_iff.1 hu).1
        simpa [row_size] using this
      rw [row_get m g j hj] at hu
      obtain rfl := Option.some.inj hu
      obtain ⟨b, off, hA', hc⟩ := hA.1 (by omega)
      obtain rfl := Option.some.inj hA'
      rw [Addr.add_mid]
      exact hc j hj
    · have h3 := row_one m g
      rw [Array.all_eq_true_iff_forall_mem] at h3
      exact h3 u (by simpa using hu)
    · rw [row_both] at h1
      refine h v' w' h1 fun B hB w0 hb => hb.grown h2 (by omega) fun k hk => ?_
      have := World.ownsRow.lt hown k hk
      omega
/-- A call, the last operation of a region. -/
theorem Seq.call_last {P : Program} {ops : Array Oper} {S : World → Prop} {Q : Exit → Act → World → Prop} {o : Oper} {a : Act} (d : Option Tmp) (hd : o.dst = d) (hwant : Region.wanted o (yielded ops a.tmps) = true) (f : FuncId) (args : Array Value)
    (hr : ∀ w, (execOp a.eval o).run P w = .ok (.enter f args) w) (h : ∀ w, S w → Calls P f args w fun e w' => ∃ v, e = .returned v ∧ Q .normal (a.put d v) w') : Seq P ops Q S [o] a := by
  subst hd
  refine Seq.last hwant fun w hS => ?_
  unfold Oper.wp
  rw [hr w]
  refine (h w hS).mono ?_
  rintro e w' ⟨v, rfl, h1⟩
  exact h1

/-- A slice of bytes that came in, with what the form says of its size. -/
theorem openB2 {H : Type} {enc : TypeId × Value → H} {W : World} {base : Nat} {v : Value} {d : DataW H} {p : List MemPlace} (hval : Value.okWide Try.prog W .any base 64 v) (h : DataW.Trod enc Try.prog W 0 (fun _ => true) true 64 v d p) :
    ∃ (A : Option Addr) (n c : Nat) (f : Nat → UInt8), v = .slice A n c ∧ c ≤ maxLen ∧ Bts W A n c f ∧
      (∀ (ts : List TypeId) (ds : List (DataW H)) (j : Nat), (DataW.weightsEach Try.prog ts ds).all (· ≤ reachBytes) = true → ts[j]? = some 64 → ds[j]? = some d → c ≤ 140737488351232) := by
  obtain ⟨a1, len, cap, rfl⟩ := okWide_slice undB hval
  obtain ⟨fuel, hf⟩ := h
  rcases open_ints undB und8 cells8 hf with ⟨hcs, _⟩ | ⟨a, len', cap', zs, hcs, _, hl, hm, hz, hx, hcell, hwz⟩
  · simp [Value.cells] at hcs
    obtain ⟨rfl, rfl, rfl⟩ := hcs
    exact ⟨none, 0, 0, fun _ => 0, rfl, Nat.zero_le _, ⟨fun h => absurd h (by omega), fun _ => ⟨rfl, rfl⟩, Nat.le_refl _⟩, fun _ _ _ _ _ _ => by omega⟩
  · simp [Value.cells] at hcs
    obtain ⟨rfl, rfl, rfl⟩ := hcs
    simp only [if_true] at hz
    refine ⟨some a, len, cap, fun j => UInt8.ofNat (zs.getD j 0).toNat, rfl, hm, ⟨fun hn => ?_, (fun h => by cases h), hl⟩, fun ts ds j hs ht hd => ?_⟩
    · obtain ⟨ab, ao, spot⟩ := a
      have hspot : spot = none := by simpa [Addr.add] using World.cell?_spot (hcell 0 (by omega))
      subst hspot
      refine ⟨ab, ao, rfl, fun j hj => ?_⟩
      have hcj := hcell j (by omega)
      rw [Addr.add_lit] at hcj
      rw [hcj]
      have hb := range_u8 hwz j
      show some (Value.int .u8 (zs.getD j 0)) = some (Value.int .u8 ((UInt8.ofNat (zs.getD j 0).toNat).toNat : Int))
      simp only [List.getD_eq_getElem?_getD] at hb ⊢
      rw [UInt8.toNat_ofNat']
      congr 2
      omega
    · have hxd : d = .slice (lits .u8 (zs.take len)) (lits .u8 (zs.drop len)) := congrArg Prod.fst hx
      rw [hxd] at hd
      have h1 := sized_slice hs (j := j) ht hd undB
      have hby : Try.prog.bytesOf 5 = 1 := by kernel_rfl
      rw [hby] at h1
      simp only [lits, List.length_map, List.length_take, List.length_drop, reachBytes] at h1
      omega
/-- Bytes cut ahead. -/
theorem Bts.cut {w : World} {b o r c : Nat} {f : Nat → UInt8} (h : Bts w (some ⟨b, o, none⟩) r c f) (k : Nat) (hk : k ≤ r) : Bts w (some ⟨b, o + k, none⟩) (r - k) (c - k) (fun j => f (k + j)) := by
  have h3 := h.2.2
  refine ⟨fun hr => ⟨b, o + k, rfl, fun j hj => ?_⟩, (fun e => by cases e), by omega⟩
  obtain ⟨b', o', e, hc⟩ := h.1 (by omega)
  obtain ⟨rfl, rfl⟩ : b = b' ∧ o = o' := by
    have := Option.some.inj e
    exact ⟨congrArg Addr.block this, congrArg Addr.off this⟩
  rw [Nat.add_assoc]
  exact hc (k + j) (by omega)
def lenV : Value → Nat | .slice _ n _ => n | _ => 0
theorem bts_at {w : World} {b o r c : Nat} {f : Nat → UInt8} (h : Bts w (some ⟨b, o, none⟩) r c f) (j : Nat) (hj : j < r) : w.cell? ⟨b, o + j, none⟩ = some (.int .u8 ((f j).toNat : Int)) := by
  obtain ⟨b', o', e, hc⟩ := h.1 (by omega)
  obtain ⟨rfl, rfl⟩ : b = b' ∧ o = o' := by
    have := Option.some.inj e
    exact ⟨congrArg Addr.block this, congrArg Addr.off this⟩
  exact hc j hj
end Go.Proofs.Ytchojbhmfjibmaa
