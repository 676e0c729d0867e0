/- Small laws that the written walks (vc.py) lean on. Plain theorems, over any program. -/
import Derived.Test.YticflflbogdljaaDoorBd
namespace Go.Proofs.YticflflbogdljaaDoor
open Go Go.RowKit

section
variable {P : Program} {ops : Array Oper} {Q : Exit → Act → World → Prop} {rest : List Oper} {w : World} {n : Sz} {m k : Nat} {l l1 l2 : Slots} {p : Prop} [Decidable p] {b : Bool} {Ss : Pend} {L : Array Bool}
theorem Fr.set {a : Act} {v v' : Value} (hF : Fr n l a) (i : Nat) (hi : l[i]? = some (k, v)) (e : v = v') : Fr n (l.set i (k, v')) a := by
  subst e
  refine hF.of fun z hz => ?_
  obtain ⟨j, hj, rfl⟩ := List.mem_iff_getElem.1 hz
  rw [List.getElem_set]
  split
  · exact List.mem_of_getElem? hi
  · exact List.getElem_mem _
theorem pxSplitP (i : Nat) (hi : l[i]? = some (k, .bool (decide p))) (h1 : l.set i (k, .bool true) = l1) (h2 : l.set i (k, .bool false) = l2) (ht : p → PX P ops Q rest n l1 w) (hf : ¬ p → PX P ops Q rest n l2 w) : PX P ops Q rest n l w := fun a hF => by
  subst h1 h2
  by_cases h : p
  · exact ht h a (hF.set i hi (by rw [decide_eq_true h]))
  · exact hf h a (hF.set i hi (by rw [decide_eq_false h]))
theorem pxSplitB (i : Nat) (hi : l[i]? = some (k, .bool b)) (h1 : l.set i (k, .bool true) = l1) (h2 : l.set i (k, .bool false) = l2) (ht : b = true → PX P ops Q rest n l1 w) (hf : b = false → PX P ops Q rest n l2 w) : PX P ops Q rest n l w := fun a hF => by
  subst h1 h2
  cases b
  · exact hf rfl a (hF.set i hi rfl)
  · exact ht rfl a (hF.set i hi rfl)
theorem rxSplitP (i : Nat) (hi : l[i]? = some (k, .bool (decide p))) (h1 : l.set i (k, .bool true) = l1) (h2 : l.set i (k, .bool false) = l2) (ht : p → RX P ops Q m Ss L n l1 w) (hf : ¬ p → RX P ops Q m Ss L n l2 w) : RX P ops Q m Ss L n l w := fun h0 hc hs a hF => by
  subst h1 h2
  by_cases h : p
  · exact ht h h0 hc hs a (hF.set i hi (by rw [decide_eq_true h]))
  · exact hf h h0 hc hs a (hF.set i hi (by rw [decide_eq_false h]))
theorem rxSplitB (i : Nat) (hi : l[i]? = some (k, .bool b)) (h1 : l.set i (k, .bool true) = l1) (h2 : l.set i (k, .bool false) = l2) (ht : b = true → RX P ops Q m Ss L n l1 w) (hf : b = false → RX P ops Q m Ss L n l2 w) : RX P ops Q m Ss L n l w := fun h0 hc hs a hF => by
  subst h1 h2
  cases b
  · exact hf rfl h0 hc hs a (hF.set i hi rfl)
  · exact ht rfl h0 hc hs a (hF.set i hi rfl)
end
section
variable {α : Type} {C : Cod α} {w w0 : World} {g : Nat} {t : TypeId} {x : α} {l : List α} {cap : Nat} {cur : Array Value} {A : Option Addr} {n c : Nat} {R : List Nat}
theorem holds_blk0 (h : w.heap[g]? = some (.cells (C.enc x) t (0, 0))) : Holds C w g 0 x := holds_blk h fun j u hu => by rw [Nat.zero_add]; exact hu
theorem put_whole (C : Cod α) (x z : α) : putL (C.enc x) 0 (C.enc z).toList = C.enc z := by
  apply Array.ext_getElem?
  intro k
  rw [putL_get, Array.length_toList, C.size, C.size]
  by_cases hk : k < C.sz
  · rw [if_pos (by omega), Nat.sub_zero, Array.getElem?_toList]
  · rw [if_neg (by omega), Array.getElem?_eq_none (by rw [C.size]; omega), Array.getElem?_eq_none (by rw [C.size]; omega)]
theorem put_at (h : Bk C cap cur l) (i : Nat) (hi : i < l.length) (x : α) : Bk C cap (putL cur (0 + i * C.sz) (C.enc x).toList) (l.set i x) := by rw [Nat.zero_add]; exact h.put i hi x
theorem room_at (h : Bk C cap cur l) {i : Nat} (hi : i < l.length) : 0 + i * C.sz + C.sz ≤ cur.size := by
  rw [h.size, Nat.zero_add]
  have := Nat.mul_le_mul_right C.sz (show i + 1 ≤ cap by have := h.le; omega)
  rw [Nat.add_mul, Nat.one_mul] at this
  exact this
theorem get_at (l : List α) (i : Nat) (h : i < l.length) : ∃ x, l[i]? = some x := ⟨_, List.getElem?_eq_getElem h⟩
theorem Vu.blk (h : Vu C w0 A n c l) (hp : 0 < C.sz) (hO : Off A n R) (hn : 0 < n) : ∃ b off, A = some ⟨b, off, Option.none⟩ ∧ HoldsL C w0 b off l ∧ b < w0.heap.size ∧ b ∉ R := by
  obtain ⟨b, off, hA, hL⟩ := h.at' hn
  obtain ⟨x, hx⟩ := get_at l 0 (by rw [h.len]; exact hn)
  exact ⟨b, off, hA, hL, (hL 0 x hx).lt hp, hO b off hA hn⟩
end
theorem ltb {a b : Nat} (h : Nat.blt a b = true) : a < b := by simpa [Nat.blt_eq] using h
theorem leb {a b : Nat} (h : Nat.ble a b = true) : a ≤ b := Nat.le_of_ble_eq_true h
theorem drop_at {α : Type} {l : List α} {i : Nat} {x : α} (h : l[i]? = some x) : l.drop i = x :: l.drop (i + 1) := by
  obtain ⟨hi, rfl⟩ := List.getElem?_eq_some_iff.1 h
  exact List.drop_eq_getElem_cons hi
theorem getD_at {α : Type} {l : List α} {i : Nat} {x d : α} (h : l[i]? = some x) : l.getD i d = x := by rw [List.getD_eq_getElem?_getD, h]; rfl
theorem Bk.lit1 {α : Type} {C : Cod α} (x : α) : Bk C 1 (C.enc x) [x] := ⟨Nat.le_refl _, by unfold maxLen; decide, by rw [C.size, Nat.one_mul], by
  rw [flat_one, List.length_singleton, Nat.one_mul, ← C.size x, ← Array.length_toList, List.take_length]⟩
theorem Bk.lit0 {α : Type} {C : Cod α} : Bk C 0 #[] [] := ⟨Nat.le_refl _, Nat.zero_le _, by simp, by simp [flat]⟩
theorem Bk.vu {α : Type} {C : Cod α} {cap : Nat} {cur : Array Value} {l : List α} {w : World} {g n : Nat} {t : TypeId} (h : Bk C cap cur l) (hb : w.heap[g]? = some (.cells cur t (0, 0))) (hn : l.length = n) : Vu C w (some ⟨g, 0, none⟩) n cap l :=
  ⟨hn, hn ▸ h.le, (fun h => by cases h), fun _ => ⟨g, 0, rfl, h.holdsL hb⟩⟩
theorem OwnT.len {α : Type} {C : Cod α} {e : TypeId} {A : Option Addr} {n c : Nat} {l : List α} {E : Hl} (h : OwnT C e (.slice A n c) l E) : n = l.length := by
  obtain ⟨A', c', e'⟩ := h.slice
  injection e'
theorem madeCells_flat {α : Type} (C : Cod α) (z : α) (n : Nat) (hsz : 0 < C.sz) : (madeCells (C.enc z) (n * C.sz)).toList = flat C (List.replicate n z) := by
  apply List.ext_getElem?
  intro k
  have hlen : (flat C (List.replicate n z)).length = n * C.sz := by rw [flat_len, List.length_replicate]
  by_cases hk : k < n * C.sz
  · have hdiv : k / C.sz < n := (Nat.div_lt_iff_lt_mul hsz).2 hk
    have hmod : k % C.sz < C.sz := Nat.mod_lt _ hsz
    have hu : (C.enc z)[k % C.sz]? = some ((C.enc z)[k % C.sz]'(by rw [C.size]; exact hmod)) := Array.getElem?_eq_getElem (by rw [C.size]; exact hmod)
    have h1 := flat_get (C := C) (List.replicate n z) (k / C.sz) (k % C.sz) z _ (by simp [hdiv]) hu
    rw [Nat.div_add_mod' k C.sz] at h1
    rw [h1]
    have hm : (C.enc z).size = C.sz := C.size z
    simp only [madeCells, Array.toList_map, Array.toList_range, List.getElem?_map, List.getElem?_range hk, Option.map_some]
    congr 1
    have e : k % (C.enc z).size = k % C.sz := by rw [hm]
    simp only [e]
    exact getElem!_pos _ _ (by rw [hm]; exact hmod)
  · rw [List.getElem?_eq_none (by rw [Array.length_toList, size_madeCells]; omega), List.getElem?_eq_none (by rw [hlen]; omega)]
theorem Bk.make {α : Type} {C : Cod α} (z : α) (n : Nat) (hsz : 0 < C.sz) (hn : n ≤ maxLen) : Bk C n (madeCells (C.enc z) (n * C.sz)) (List.replicate n z) := by
  refine ⟨by rw [List.length_replicate]; exact Nat.le_refl _, hn, by simp [madeCells], ?_⟩
  rw [madeCells_flat C z n hsz, List.length_replicate]
  have : (flat C (List.replicate n z)).length = n * C.sz := by rw [flat_len, List.length_replicate]
  rw [← this, List.take_length]
/-- Blocks of two heaplets are apart. -/
theorem HH.apart {w0 w : World} {R : List Nat} {Hs : List Hl} (h : HH w0 R Hs w) {i j : Nat} {E F : Hl} (hi : Hs[i]? = some E) (hj : Hs[j]? = some F) (hij : i ≠ j) : ∀ x ∈ E, ∀ y ∈ F, x.1 ≠ y.1 := by
  have key : ∀ {i j : Nat} {E F : Hl}, Hs[i]? = some E → Hs[j]? = some F → i < j → ∀ x ∈ E, ∀ y ∈ F, x.1 ≠ y.1 := fun {i j E F} hi hj hij x hx y hy => by
    have hn := Hold.has h |>.ne
    obtain ⟨L, L', h1, _⟩ := flatten_split hi
    have hd : Hs = Hs.take i ++ (E :: Hs.drop (i + 1)) := by
      rw [← drop_at hi, List.take_append_drop]
    have hy' : y ∈ (Hs.drop (i + 1)).flatten := List.mem_flatten.2 ⟨F, by
      have : (Hs.drop (i + 1))[j - (i + 1)]? = some F := by rw [List.getElem?_drop, ← hj]; congr 1; omega
      exact List.mem_of_getElem? this, hy⟩
    rw [hd, List.flatten_append, List.flatten_cons] at hn
    have hn2 := (List.pairwise_append.1 hn).2.1
    exact (List.pairwise_append.1 hn2).2.2 x hx y hy'
  rcases Nat.lt_or_ge i j with h1 | h1
  · exact key hi hj h1
  · intro x hx y hy e
    exact key hj hi (by omega) y hy x hx e.symm
/-- These heaplets, in this order. -/
theorem HH.pick {w0 w : World} {R : List Nat} {Hs Hs' : List Hl} (h : HH w0 R Hs w) (is : List Nat) (hi : is.map (fun i => Hs[i]?) = Hs'.map some) (hn : is.Nodup) : Hold w0 R Hs'.flatten w := by
  have hlen : is.length = Hs'.length := by simpa using congrArg List.length hi
  have hget : ∀ (k : Nat) (E : Hl), Hs'[k]? = some E → ∃ i, is[k]? = some i ∧ Hs[i]? = some E := fun k E hE => by
    have h1 := congrArg (fun l => l[k]?) hi
    simp only [List.getElem?_map, hE, Option.map_some] at h1
    cases hk : is[k]? with
    | none => rw [hk] at h1; cases h1
    | some i => rw [hk] at h1; exact ⟨i, rfl, by simpa using h1⟩
  have hmem : ∀ E ∈ Hs', ∃ i, Hs[i]? = some E := fun E hE => by
    obtain ⟨k, hk⟩ := List.getElem?_of_mem hE
    obtain ⟨i, _, hi⟩ := hget k E hk
    exact ⟨i, hi⟩
  have hsub : ∀ x ∈ Hs'.flatten, x ∈ Hs.flatten := fun x hx => by
    obtain ⟨E, hE, hx⟩ := List.mem_flatten.1 hx
    obtain ⟨i, hi⟩ := hmem E hE
    exact List.mem_flatten.2 ⟨E, List.mem_of_getElem? hi, hx⟩
  have h0 : Hold w0 R Hs.flatten w := h
  refine ⟨h0.os, h0.tape, h0.output, h0.size, fun x hx => h0.blk x (hsub x hx), ?_, fun x hx => h0.own x (hsub x hx), h0.frame⟩
  refine List.pairwise_flatten.2 ⟨fun E hE => ?_, ?_⟩
  · obtain ⟨i, hi⟩ := hmem E hE
    exact (h.has i hi).ne
  · rw [List.pairwise_iff_getElem]
    intro a b ha hb hab x hx y hy
    obtain ⟨i, hia, hi⟩ := hget a _ (List.getElem?_eq_getElem ha)
    obtain ⟨j, hjb, hj⟩ := hget b _ (List.getElem?_eq_getElem hb)
    refine h.apart hi hj (fun e => ?_) x hx y hy
    subst e
    obtain ⟨ha', ea⟩ := List.getElem?_eq_some_iff.1 hia
    obtain ⟨hb', eb⟩ := List.getElem?_eq_some_iff.1 hjb
    have := List.pairwise_iff_getElem.1 hn a b ha' hb' hab
    exact this (ea.trans eb.symm)
/-- A slice of what was there is none of the call's blocks. -/
theorem HH.off {α : Type} {C : Cod α} {w0 w : World} {R : List Nat} {Hs : List Hl} {A : Option Addr} {n c : Nat} {l : List α} {E : Hl} (hH : HH w0 R Hs w) (k : Nat) (hk : Hs[k]? = some E) (hV : Vu C w0 A n c l) (hp : 0 < C.sz) (ho : Off A n R) : Off A n (bks E) := fun b off hA hn hm => by
  obtain ⟨b', off', hA', hL⟩ := hV.at' hn
  rw [hA] at hA'
  obtain rfl : b = b' := by injection hA' with h; injection h
  obtain ⟨x, hx⟩ : ∃ x, l[0]? = some x := ⟨_, List.getElem?_eq_getElem (by rw [hV.len]; exact hn)⟩
  have hlt := (hL 0 x hx).lt hp
  obtain ⟨y, hy, e⟩ := List.mem_map.1 hm
  rcases Hold.own hH y (List.mem_flatten.2 ⟨E, List.mem_of_getElem? hk, hy⟩) with h1 | h1
  · omega
  · exact ho b off hA hn (e ▸ h1)
/-- A slice of another of the call's blocks. -/
theorem HH.off2 {w0 w : World} {R : List Nat} {Hs : List Hl} {g off n : Nat} {t : TypeId} {cs : Array Value} {E : Hl} (hH : HH w0 R Hs w) (k j : Nat) (hk : Hs[k]? = some E) (hj : Hs[j]? = some [bl g t cs]) (hkj : (k == j) = false) : Off (some ⟨g, off, none⟩) n (bks E) := fun b off' hA _ hm => by
  obtain rfl : g = b := by injection hA with h; injection h
  obtain ⟨y, hy, e⟩ := List.mem_map.1 hm
  exact hH.apart hk hj (by simpa using hkj) y hy _ (List.mem_singleton.2 rfl) e
/-! ### Parts of slices; copy -/
theorem HoldsL.cut {α : Type} {C : Cod α} {w : World} {b off : Nat} {l : List α} (h : HoldsL C w b off l) (k m : Nat) : HoldsL C w b (off + k * C.sz) ((l.take m).drop k) := fun i x hx => by
  rw [List.getElem?_drop, List.getElem?_take] at hx
  split at hx
  · have := h (k + i) x hx
    rw [Nat.add_mul, ← Nat.add_assoc] at this
    exact this
  · cases hx
theorem HoldsL.drop {α : Type} {C : Cod α} {w : World} {b off : Nat} {l : List α} (h : HoldsL C w b off l) (k : Nat) : HoldsL C w b (off + k * C.sz) (l.drop k) := fun i x hx => by
  rw [List.getElem?_drop] at hx
  have := h (k + i) x hx
  rw [Nat.add_mul, ← Nat.add_assoc] at this
  exact this
theorem Vu.from {α : Type} {C : Cod α} {w : World} {A : Option Addr} {n c : Nat} {l : List α} (h : Vu C w A n c l) {k : Nat} (hk : k ≤ n) : Vu C w (cutA A c k C.sz) (n - k) (c - k) (l.drop k) := by
  have := h.cut hk (Nat.le_refl n)
  rw [← h.len, List.take_length, h.len] at this
  exact this
theorem cutA_some {b off c k sz : Nat} (h : k < c) : cutA (some ⟨b, off, none⟩) c k sz = some ⟨b, off + k * sz, none⟩ := by
  unfold cutA
  rw [if_neg (by omega)]
  simp [Addr.add_mid]
/-- n bytes from place k on, as an array; an array's bytes. -/
def cutF (l : List UInt8) (k : Nat) : Nat → UInt8 := fun j => l.getD (k + j) 0
def lst (n : Nat) (f : Nat → UInt8) : List UInt8 := (List.range n).map f
theorem lst_len (n : Nat) (f : Nat → UInt8) : (lst n f).length = n := by simp [lst]
theorem lst_get {n : Nat} {f : Nat → UInt8} {i : Nat} (h : i < n) : (lst n f)[i]? = some (f i) := by simp [lst, h]
theorem enc_arr (n : Nat) (f : Nat → UInt8) : (cArr n).enc f = row n f := rfl
theorem HoldsL.arr {w : World} {b off : Nat} {l : List UInt8} (h : HoldsL cByte w b off l) (k n : Nat) (hk : k + n ≤ l.length) : Holds (cArr n) w b (off + k * 1) (cutF l k) := fun j u hu => by
  have hj : j < n := by
    have := (Array.getElem?_eq_some_iff.1 hu).1
    rwa [enc_arr, row_size] at this
  rw [enc_arr, row_get n _ j hj] at hu
  obtain rfl := Option.some.inj hu
  have hx : l[k + j]? = some (cutF l k j) := by
    unfold cutF
    rw [List.getD_eq_getElem?_getD, List.getElem?_eq_getElem (by omega)]; rfl
  have := h (k + j) _ hx 0 (by8 (cutF l k j)) rfl
  rw [Nat.mul_one, Nat.add_assoc]
  simpa [cByte] using this
theorem flat_lst (n : Nat) (f : Nat → UInt8) : flat cByte (lst n f) = (row n f).toList := by
  apply List.ext_getElem?
  intro j
  by_cases hj : j < n
  · have := flat_get (C := cByte) (lst n f) j 0 (f j) (by8 (f j)) (lst_get hj) rfl
    rw [show j * cByte.sz + 0 = j from Nat.mul_one j] at this
    rw [this, Array.getElem?_toList (xs := row n f), row_get n f j hj]
  · rw [List.getElem?_eq_none (by rw [flat_len, lst_len]; show n * 1 ≤ j; omega), List.getElem?_eq_none (by rw [Array.length_toList, row_size]; omega)]
theorem holdsL_arr {w : World} {g n : Nat} {f : Nat → UInt8} {t : TypeId} (hb : w.heap[g]? = some (.cells ((cArr n).enc f) t (0, 0))) : HoldsL cByte w g 0 (lst n f) := fun i x hx => by
  have hi : i < n := by
    have := (List.getElem?_eq_some_iff.1 hx).1
    rwa [lst_len] at this
  rw [lst_get hi] at hx
  obtain rfl := Option.some.inj hx
  refine holds_blk hb fun j u hu => ?_
  obtain rfl : j = 0 := by
    have : j < 1 := (Array.getElem?_eq_some_iff.1 hu).1
    omega
  obtain rfl := Option.some.inj hu
  rw [Nat.zero_add, show i * cByte.sz + 0 = i from Nat.mul_one i, enc_arr, row_get n f i hi]
  rfl
theorem vu_arr {w : World} {g n : Nat} {f : Nat → UInt8} {t : TypeId} (hb : w.heap[g]? = some (.cells ((cArr n).enc f) t (0, 0))) : Vu cByte w (some ⟨g, 0, none⟩) n n (lst n f) :=
  ⟨lst_len n f, Nat.le_refl _, (fun h => by cases h), fun _ => ⟨g, 0, rfl, holdsL_arr hb⟩⟩
section
variable {α : Type} {C : Cod α} {P : Program} {a : Act} {o : Oper} {w w0 : World} {v : Value} {x y : Operand} {t ty ty2 e : TypeId} {g off cap k : Nat} {cs cs' cur : Array Value} {l m : List α} {E : Hl}
theorem Bk.copy (h : Bk C cap cur l) (k : Nat) (m : List α) (hk : k + m.length ≤ l.length) : Bk C cap (putL cur (0 + k * C.sz) (flat C m)) (l.take k ++ (m ++ l.drop (k + m.length))) := by
  have hs := h.size
  have hle := h.le
  have hl : (l.take k ++ (m ++ l.drop (k + m.length))).length = l.length := by simp; omega
  have hb : k * C.sz + m.length * C.sz ≤ l.length * C.sz := by rw [← Nat.add_mul]; exact Nat.mul_le_mul_right _ hk
  have hc : l.length * C.sz ≤ cap * C.sz := Nat.mul_le_mul_right _ hle
  have hfl : (flat C l).length = l.length * C.sz := flat_len l
  refine ⟨by rw [hl]; exact hle, h.max, by rw [putL_size]; exact hs, ?_⟩
  have e1 : flat C (l.take k) = (flat C l).take (k * C.sz) := by
    have := flat_append (C := C) (l.take k) (l.drop k)
    rw [List.take_append_drop] at this
    rw [this]
    have h1 : (flat C (l.take k)).length = k * C.sz := by rw [flat_len, List.length_take]; congr 1; omega
    rw [← h1, List.take_left']
    rfl
  have e2 : flat C (l.drop (k + m.length)) = (flat C l).drop (k * C.sz + m.length * C.sz) := by
    have := flat_append (C := C) (l.take (k + m.length)) (l.drop (k + m.length))
    rw [List.take_append_drop] at this
    rw [this]
    have h1 : (flat C (l.take (k + m.length))).length = k * C.sz + m.length * C.sz := by rw [flat_len, List.length_take, ← Nat.add_mul]; congr 1; omega
    rw [← h1, List.drop_left']
    rfl
  rw [hl, flat_append, flat_append, e1, e2, Nat.zero_add, ← h.take]
  apply List.ext_getElem?
  intro j
  have hlen : (flat C m).length = m.length * C.sz := flat_len m
  have hlt : (List.take (k * C.sz) (List.take (l.length * C.sz) cur.toList)).length = k * C.sz := by simp; omega
  rw [List.getElem?_take, Array.getElem?_toList, putL_get, hlen]
  by_cases h1 : j < k * C.sz
  · rw [if_pos (by omega), if_neg (by omega), List.getElem?_append_left (by omega), List.getElem?_take, if_pos h1, List.getElem?_take, if_pos (by omega), Array.getElem?_toList]
  · rw [List.getElem?_append_right (by omega), hlt]
    by_cases h2 : j < k * C.sz + m.length * C.sz
    · rw [if_pos (by omega), if_pos (by omega), List.getElem?_append_left (by omega)]
    · rw [List.getElem?_append_right (by omega), hlen, List.getElem?_drop, List.getElem?_take]
      by_cases h3 : j < l.length * C.sz
      · rw [if_pos h3, if_neg (by omega), if_pos (by omega), Array.getElem?_toList]
        congr 1; omega
      · rw [if_neg h3, if_neg (by omega)]
theorem room_cp (h : Bk C cap cur l) {k n : Nat} (hk : k + n ≤ l.length) : 0 + k * C.sz + n * C.sz ≤ cur.size := by
  rw [h.size, Nat.zero_add, ← Nat.add_mul]
  exact Nat.mul_le_mul_right _ (Nat.le_trans hk h.le)
theorem OwnT.capLe {A : Option Addr} {n c : Nat} (h : OwnT C e (.slice A n c) l E) : n ≤ c := by
  rcases h.cases with ⟨h1, _, _⟩ | ⟨g, cap, cur, h1, _, hB⟩
  · injection h1 with _ h2 h3; omega
  · injection h1 with _ h2 h3; have := hB.le; omega
/-- copy, the whole of a slice into a block. -/
theorem smCopyT {dn dc sn sc : Nat} {A : Option Addr} (ho : o.op = .call { callee := .builtin .copy, args := #[x, y], argTypes := #[ty, ty2] })
    (hu : P.underlying ty = some (.slice e)) (hs : (P.info? e).map (·.size) = some C.sz) (hsz : 0 < C.sz) (hx : a.eval x = .slice (some ⟨g, off, none⟩) dn dc) (hy : a.eval y = .slice A sn sc)
    (hk : sn ≤ dn) (hm : m.length = sn) (hfit : off + sn * C.sz ≤ cs.size) (hcs : putL cs off (flat C m) = cs') :
    Small P a o [bl g t cs] (fun w => Vu C w A sn sc m) (fun v' E' => v' = .int .i64 (sn : Int) ∧ E' = [bl g t cs']) := fun w hE hR => by
  subst hm
  refine smCopy (news := flat C m) ho hu hs hx hy (fun hA => ?_) (Nat.min_eq_left hk).symm (flat_len m) (flat_one' m) hfit hcs w hE fun p j u hp hj => ?_
  · have := hR.nil hA
    have := hR.cap
    omega
  · have hlen : j < m.length * C.sz := by
      have := (List.getElem?_eq_some_iff.1 hj).1
      rw [flat_len] at this; exact this
    have hm : 0 < m.length := by
      rcases Nat.eq_zero_or_pos m.length with h0 | h0
      · rw [h0] at hlen; simp at hlen
      · exact h0
    obtain ⟨b, off', hA', hL⟩ := hR.at' hm
    rw [hp] at hA'
    obtain rfl := Option.some.inj hA'
    have hdiv : j / C.sz < m.length := (Nat.div_lt_iff_lt_mul hsz).2 hlen
    have hmod : j % C.sz < C.sz := Nat.mod_lt _ hsz
    have hx' : m[j / C.sz]? = some m[j / C.sz] := List.getElem?_eq_getElem hdiv
    have hu' : (C.enc m[j / C.sz])[j % C.sz]? = some ((C.enc m[j / C.sz])[j % C.sz]'(by rw [C.size]; exact hmod)) := Array.getElem?_eq_getElem (by rw [C.size]; exact hmod)
    have h1 := flat_get m _ _ _ _ hx' hu'
    rw [Nat.div_add_mod' j C.sz, hj] at h1
    obtain rfl := Option.some.inj h1
    have h2 := hL _ _ hx' _ _ hu'
    rw [Addr.add_mid, ← h2]
    congr 2
    rw [Nat.add_assoc, Nat.div_add_mod']
/-- copy, as much as there is room for. -/
theorem smCopyK {dn dc sn sc : Nat} {A : Option Addr} (kk : Nat) (hkk : Nat.min sn dn = kk) (ho : o.op = .call { callee := .builtin .copy, args := #[x, y], argTypes := #[ty, ty2] })
    (hu : P.underlying ty = some (.slice e)) (hs : (P.info? e).map (·.size) = some C.sz) (hsz : 0 < C.sz) (hx : a.eval x = .slice (some ⟨g, off, none⟩) dn dc) (hy : a.eval y = .slice A sn sc)
    (hm : m.length = sn) (hfit : off + kk * C.sz ≤ cs.size) (hcs : putL cs off (flat C (m.take kk)) = cs') :
    Small P a o [bl g t cs] (fun w => Vu C w A sn sc m) (fun v' E' => v' = .int .i64 (kk : Int) ∧ E' = [bl g t cs']) := fun w hE hR => by
  subst hm hkk
  have hk : (m.take (Nat.min m.length dn)).length = Nat.min m.length dn := by rw [List.length_take]; exact Nat.min_eq_left (Nat.min_le_left _ _)
  refine smCopy (news := flat C (m.take (Nat.min m.length dn))) ho hu hs hx hy (fun hA => ?_) rfl (by rw [flat_len, hk]) (flat_one' _) hfit hcs w hE fun p j u hp hj => ?_
  · have := hR.nil hA
    have := hR.cap
    omega
  · have hlen : j < (m.take (Nat.min m.length dn)).length * C.sz := by
      have := (List.getElem?_eq_some_iff.1 hj).1
      rw [flat_len] at this; exact this
    have hm : 0 < m.length := by
      rcases Nat.eq_zero_or_pos m.length with h0 | h0
      · rw [List.eq_nil_of_length_eq_zero h0] at hlen; simp at hlen
      · exact h0
    obtain ⟨b, off', hA', hL⟩ := hR.at' hm
    rw [hp] at hA'
    obtain rfl := Option.some.inj hA'
    have hdiv : j / C.sz < (m.take (Nat.min m.length dn)).length := (Nat.div_lt_iff_lt_mul hsz).2 hlen
    have hmod : j % C.sz < C.sz := Nat.mod_lt _ hsz
    obtain ⟨z, hz⟩ := get_at _ _ hdiv
    have hu' : (C.enc z)[j % C.sz]? = some ((C.enc z)[j % C.sz]'(by rw [C.size]; exact hmod)) := Array.getElem?_eq_getElem (by rw [C.size]; exact hmod)
    have h1 := flat_get _ _ _ _ _ hz hu'
    rw [Nat.div_add_mod' j C.sz, hj] at h1
    obtain rfl := Option.some.inj h1
    rw [List.getElem?_take] at hz
    split at hz
    · have h2 := hL _ _ hz _ _ hu'
      rw [Addr.add_mid, ← h2]
      congr 2
      rw [Nat.add_assoc, Nat.div_add_mod']
    · cases hz
/-- An element's place, in a slice whose address is told by an equation. -/
theorem opIndexC {A : Option Addr} {b n c i sz : Nat} {ki : IntKind} {j : Int} (ho : o.op = .indexAddr ty x y) (hu : P.underlying ty = some (.slice e)) (hs : (P.info? e).map (·.size) = some sz) (hx : a.eval x = .slice A n c) (hA : A = some ⟨b, off, none⟩) (hy : a.eval y = .int ki j) (hj : j = (i : Int)) (hi : i < n) :
    (execOp a.eval o).run P w = .ok (.value (.pointer (some ⟨b, off + i * sz, none⟩))) w := opIndex ho hu hs (hA ▸ hx) hy hj hi
/-- A part of a slice that is not nil, from a place inside it on. -/
theorem opSlcL {n c sz : Nat} {b : Nat} {kl : IntKind} {jl : Int} {xl : Operand} (ho : o.op = .slice ty x (some xl) none none) (hu : P.underlying ty = some (.slice e)) (hs : (P.info? e).map (·.size) = some sz) (hx : a.eval x = .slice (some ⟨b, off, none⟩) n c) (hl : a.eval xl = .int kl jl) (hjl : jl = (k : Int)) (h1 : k ≤ n) (h2 : k < c) :
    (execOp a.eval o).run P w = .ok (.value (.slice (some ⟨b, off + k * sz, none⟩) (n - k) (c - k))) w := by
  have := opCutL (w := w) ho hu hs hx hl hjl h1
  rw [cutA_some h2] at this
  exact this
theorem opSlcLH {n c sz h : Nat} {b : Nat} {kl kh : IntKind} {jl jh : Int} {xl xh : Operand} (ho : o.op = .slice ty x (some xl) (some xh) none) (hu : P.underlying ty = some (.slice e)) (hs : (P.info? e).map (·.size) = some sz) (hx : a.eval x = .slice (some ⟨b, off, none⟩) n c) (hl : a.eval xl = .int kl jl) (hh : a.eval xh = .int kh jh) (hjl : jl = (k : Int)) (hjh : jh = (h : Int)) (h1 : k ≤ h) (h2 : h ≤ c) (h3 : k < c) :
    (execOp a.eval o).run P w = .ok (.value (.slice (some ⟨b, off + k * sz, none⟩) (h - k) (c - k))) w := by
  have := opCutLH (w := w) ho hu hs hx hl hh hjl hjh h1 h2
  rw [cutA_some h3] at this
  exact this
end
theorem HH.sel {w0 w : World} {R : List Nat} {Hs Hs' : List Hl} (h : HH w0 R Hs w) (is : List Nat) (hi : is.map (fun i => Hs[i]?) = Hs'.map some) (hn : is.Nodup) : HH w0 R Hs' w := h.pick is hi hn
section
variable {α : Type} {C : Cod α} {e : TypeId} {A : Option Addr} {n c : Nat} {l : List α} {E : Hl} {w : World}
theorem OwnT.vuAt (h : OwnT C e (.slice A n c) l E) (hE : Has E w) : Vu C w A n c l := by
  obtain ⟨A', c', he, hV⟩ := h.vu hE
  injection he with h1 h2 h3
  subst h1 h2 h3
  exact hV
theorem OwnT.nilA (h : OwnT C e (.slice A n c) l E) (hA : A = none) : n = 0 ∧ c = 0 := by
  rcases h.cases with ⟨h1, _, _⟩ | ⟨g, cap, cur, h1, _, _⟩
  · injection h1 with _ h2 h3; exact ⟨h2, h3⟩
  · injection h1 with h1; rw [hA] at h1; cases h1
end
theorem HH.off3 {α : Type} {C : Cod α} {w0 w : World} {R : List Nat} {Hs : List Hl} {A : Option Addr} {n c : Nat} {e : TypeId} {l : List α} {E F : Hl} (hH : HH w0 R Hs w) (k j : Nat) (hk : Hs[k]? = some E) (hj : Hs[j]? = some F) (hkj : (k == j) = false) (hO : OwnT C e (.slice A n c) l F) : Off A n (bks E) := fun b off hA hn hm => by
  rcases hO.cases with ⟨h1, _, _⟩ | ⟨g, cap, cur, h1, rfl, _⟩
  · injection h1 with h1; rw [hA] at h1; cases h1
  · injection h1 with h1
    rw [hA] at h1
    obtain rfl : b = g := by injection h1 with h; injection h
    obtain ⟨y, hy, e⟩ := List.mem_map.1 hm
    exact hH.apart hk hj (by simpa using hkj) y hy _ (List.mem_singleton.2 rfl) e
theorem vu_holds {w : World} {b off n : Nat} {f : Nat → UInt8} (h : Holds (cArr n) w b off f) : Vu cByte w (some ⟨b, off, none⟩) n n (lst n f) :=
  ⟨lst_len n f, Nat.le_refl _, (fun h => by cases h), fun _ => ⟨b, off, rfl, fun i x hx j u hu => by
    have hi : i < n := by
      have := (List.getElem?_eq_some_iff.1 hx).1
      rwa [lst_len] at this
    rw [lst_get hi] at hx
    obtain rfl := Option.some.inj hx
    obtain rfl : j = 0 := by
      have : j < 1 := (Array.getElem?_eq_some_iff.1 hu).1
      omega
    obtain rfl := Option.some.inj hu
    have := h i (by8 (f i)) (by rw [enc_arr]; exact row_get n f i hi)
    rw [show off + i * cByte.sz + 0 = off + i from by show off + i * 1 + 0 = _; omega]
    exact this⟩⟩
/-- Heaplets of nothing beside the others. -/
theorem HH.pad {w0 w : World} {R : List Nat} {Hs : List Hl} (h : HH w0 R Hs w) (m : Nat) : HH w0 R (Hs ++ List.replicate m []) w := h.cast (by simp)
/-- A heaplet forgotten. -/
theorem HH.forget {w0 w : World} {R : List Nat} {Hs : List Hl} (h : HH w0 R Hs w) (i : Nat) : HH w0 R (Hs.set i []) w := by
  by_cases hi : i < Hs.length
  · obtain ⟨L, L', h1, h2⟩ := flatten_split (List.getElem?_eq_getElem hi)
    unfold HH at *
    rw [h1] at h
    rw [h2]
    exact Hold.sub h (by simp)
  · rw [List.set_eq_of_length_le (by omega)]; exact h
/-- Some of a list: a mask. -/
def pickG {α : Type} : List Bool → List α → List α
  | true :: m, x :: l => x :: pickG m l
  | false :: m, _ :: l => pickG m l
  | _, _ => []
theorem pickG_sub {α : Type} : ∀ (m : List Bool) (l : List α), (pickG m l).Sublist l
  | [], l => by cases l <;> exact List.nil_sublist _
  | true :: _, [] => List.nil_sublist _
  | false :: _, [] => List.nil_sublist _
  | true :: m, x :: l => (pickG_sub m l).cons_cons x
  | false :: m, x :: l => (pickG_sub m l).cons x
/-- What is handed back: these heaplets. -/
theorem HH.out {w0 w : World} {R : List Nat} {Hs : List Hl} (h : HH w0 R Hs w) (m : List Bool) : Hold w0 R (pickG m Hs).flatten w := Hold.sub h (flatten_sub (pickG_sub m Hs))
theorem HH.out1 {w0 w : World} {R : List Nat} {Hs : List Hl} {E : Hl} (h : HH w0 R Hs w) (m : List Bool) (e : pickG m Hs = [E]) : Hold w0 R E w := by
  have := h.out m
  rw [e] at this
  simpa using this
theorem HH.only {w0 w : World} {R : List Nat} {Hs : List Hl} (h : HH w0 R Hs w) (m : List Bool) : HH w0 R (pickG m Hs) w := h.drop (pickG_sub m Hs)
end Go.Proofs.YticflflbogdljaaDoor
