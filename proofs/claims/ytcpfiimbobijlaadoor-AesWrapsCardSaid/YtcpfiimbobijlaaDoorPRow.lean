/- A block whose first n cells are the bytes f, whatever stands behind them (what append leaves): read, written by copy. -/
import Derived.Test.YtcpfiimbobijlaaDoorBytes
import Derived.Test.YtcpfiimbobijlaaDoorGuard
import Derived.Test.YtcpfiimbobijlaaDoorWPure
namespace Go.Proofs.YtcpfiimbobijlaaDoor
open Go Go.RowKit

def PRow (w : World) (g : Nat) (t : TypeId) (n : Nat) (f : Nat → UInt8) : Prop :=
  ∃ cur, w.heap[g]? = some (.cells cur t (0, 0)) ∧ ∀ i, i < n → cur[i]? = some (by8 (f i))
section
variable {w w' : World} {g : Nat} {t : TypeId} {n : Nat} {f : Nat → UInt8}
theorem PRow.lt (h : PRow w g t n f) : g < w.heap.size := by
  obtain ⟨cur, h, _⟩ := h
  exact (Array.getElem?_eq_some_iff.1 h).1
theorem PRow.cell (h : PRow w g t n f) (i : Nat) (hi : i < n) : w.cell? ⟨g, i, none⟩ = some (.int .u8 ((f i).toNat : Int)) := by
  obtain ⟨cur, h, hc⟩ := h
  rw [cell_of_row w g i _ t (0, 0) h, hc i hi]; rfl
theorem PRow.frozen (h : PRow w g t n f) (i : Nat) : w.frozen? ⟨g, i, none⟩ = false := by
  obtain ⟨cur, h, _⟩ := h
  simp [World.frozen?, h]
theorem PRow.drew (h : PRow w g t n f) : PRow w.drew g t n f := h
theorem PRow.alloc (h : PRow w g t n f) (o : Obj) : PRow (w.alloc o) g t n f := by
  have hl := h.lt
  obtain ⟨cur, h, hc⟩ := h
  exact ⟨cur, (Below.heap_alloc w o g hl).trans h, hc⟩
theorem PRow.setRow_far (h : PRow w g t n f) {k : Nat} (hk : k ≠ g) (cs : Array Value) : PRow (w.setRow k cs) g t n f := by
  obtain ⟨cur, h, hc⟩ := h
  exact ⟨cur, (setRow_other w k g cs (Ne.symm hk)).trans h, hc⟩
theorem PRow.far (h : PRow w g t n f) {p : Addr} (hp : g ≠ p.block) (u : Value) : PRow (w.setCell p u) g t n f := by
  obtain ⟨cur, h, hc⟩ := h
  exact ⟨cur, (Below.heap_setCell w p u g hp).trans h, hc⟩
theorem PRow.below {B : Nat} (h : PRow w g t n f) (hb : Below B w w') (hg : g < B) : PRow w' g t n f := by
  obtain ⟨cur, h, hc⟩ := h
  exact ⟨cur, (hb.block g hg).trans h, hc⟩
theorem PRow.congr {f' : Nat → UInt8} (h : PRow w g t n f) (hf : ∀ i, i < n → f i = f' i) : PRow w g t n f' := by
  obtain ⟨cur, h, hc⟩ := h
  exact ⟨cur, h, fun i hi => by rw [hc i hi, hf i hi]⟩
theorem Row.prow (h : Row w g t n f) : PRow w g t n f := ⟨_, h, fun i hi => row_get n f i hi⟩
end
/-- copy into such a block. -/
theorem run_copy_P {P : Program} {w : World} (dT sT ty e : TypeId) (g off dLen dCap : Nat) (ad : Addr) (sLen sCap k : Nat) (t : TypeId) (n : Nat) (f fs : Nat → UInt8)
    (hu : P.underlying dT = some (.slice e)) (hsz : (P.info? e).map (·.size) = some 1) (hg : PRow w g t n f) (hk : k = Nat.min sLen dLen)
    (hsrc : ∀ j, j < k → w.cell? (ad.add j) = some (.int .u8 ((fs j).toNat : Int))) (hfit : off + k ≤ n) :
    ∃ cs, (Builtin.copy_ #[dT, sT] ty #[.slice (some ⟨g, off, none⟩) dLen dCap, .slice (some ad) sLen sCap]).run P w = .ok (goInt k) (w.setRow g cs) ∧ PRow (w.setRow g cs) g t n (cpy off k f fs) := by
  obtain ⟨cur, hg, hc⟩ := hg
  have hn : n ≤ cur.size := by
    rcases Nat.lt_or_ge cur.size n with h | h
    · have := hc cur.size h
      rw [Array.getElem?_eq_none (Nat.le_refl _)] at this
      cases this
    · exact h
  have hl : (row k fs).toList.length = k := by simp [row_size]
  have h := run_copy_row (P := P) w dT sT ty e g off dLen dCap ad sLen sCap cur t (row k fs).toList hu hsz hg (by rw [hl, hk]) (fun j v hv => by
      have hj : j < k := by
        have := (List.getElem?_eq_some_iff.1 hv).1
        rwa [hl] at this
      rw [Array.getElem?_toList, row_get k fs j hj] at hv
      obtain rfl := Option.some.inj hv
      exact hsrc j hj) (by rw [hl]; omega) (fun v hv => Array.all_eq_true_iff_forall_mem.1 (row_one k fs) v (by simpa using hv))
  refine ⟨_, by rw [hl] at h; exact h, _, setRow_heap w g _ _ t (0, 0) hg, fun i hi => ?_⟩
  rw [List.getElem?_toArray, List.append_assoc, List.getElem?_append, List.length_take, Array.length_toList, show min off cur.size = off by omega]
  unfold cpy
  by_cases h1 : i < off
  · rw [if_pos h1, List.getElem?_take, if_pos h1, Array.getElem?_toList, hc i hi, if_neg (by omega)]
  · rw [if_neg h1, List.getElem?_append, hl]
    by_cases h2 : i - off < k
    · rw [if_pos h2, Array.getElem?_toList, row_get k fs _ h2, if_pos (by omega)]
    · rw [if_neg h2, List.getElem?_drop, Array.getElem?_toList, show off + k + (i - off - k) = i by omega, hc i hi, if_neg (by omega)]
/-- The last operation of a region: bytes copied into such a block. -/
theorem Seq.copy_P {P : Program} {ops : Array Oper} {S : World → Prop} {Q : Exit → Act → World → Prop} {o : Oper} {a : Act} (hwant : Region.wanted o (yielded ops a.tmps) = true) (d s : Operand) (dT sT : TypeId)
    (ho : o.op = .call { callee := .builtin .copy, args := #[d, s], argTypes := #[dT, sT] }) (e : TypeId) (hu : P.underlying dT = some (.slice e)) (hsz : (P.info? e).map (·.size) = some 1)
    (g off dLen dCap : Nat) (ad : Addr) (sLen sCap : Nat) (hd : a.eval d = .slice (some ⟨g, off, none⟩) dLen dCap) (hs : a.eval s = .slice (some ad) sLen sCap)
    (t : TypeId) (n : Nat) (f : Nat → UInt8) (hg : ∀ w, S w → PRow w g t n f) (k : Nat) (fs : Nat → UInt8) (hk : k = Nat.min sLen dLen)
    (hsrc : ∀ w, S w → ∀ j, j < k → w.cell? (ad.add j) = some (.int .u8 ((fs j).toNat : Int))) (hfit : off + k ≤ n)
    (h : ∀ w, S w → ∀ cs, PRow (w.setRow g cs) g t n (cpy off k f fs) → Q .normal (a.put o.dst (goInt k)) (w.setRow g cs)) : Seq P ops Q S [o] a := by
  refine Seq.last hwant fun w hS => ?_
  obtain ⟨cs, hrun, hp⟩ := run_copy_P (P := P) dT sT o.type e g off dLen dCap ad sLen sCap k t n f fs hu hsz (hg w hS) hk (hsrc w hS) hfit
  unfold Oper.wp
  simp [execOp, ho, resolve, invoke, builtin, hd, hs, hrun, Result.andThen]
  exact h w hS cs hp
theorem Own.prow {w : World} {base n : Nat} {v : Value} {f : Nat → UInt8} (h : Own w base v n f) (hn : 0 < n) : ∃ g c, v = .slice (some ⟨g, 0, none⟩) n c ∧ base ≤ g ∧ PRow w g 5 n f ∧ n ≤ c ∧ c ≤ maxLen := by
  rcases h.2 with ⟨_, h⟩ | ⟨g, cap, cur, rfl, h2, h3, h4, h5, h6, h7⟩
  · omega
  · refine ⟨g, cap, rfl, h2, ⟨cur, h3, fun i hi => ?_⟩, h4, h5⟩
    have h8 : (cur.toList.take (n * 1))[i]? = (row n f).toList[i]? := by rw [h7]
    rw [Nat.mul_one, List.getElem?_take, if_pos hi, Array.getElem?_toList, Array.getElem?_toList, row_get n f i hi] at h8
    exact h8

/-- The step's number, shifted: what is put into byte k. -/
def cnt (t k : Nat) : UInt8 := if k = 7 then UInt8.ofNat t else 0
theorem cnt_int (t k : Nat) (ht : t < 256) (hk : k < 8) : (t : Int) / 2 ^ (56 - 8 * k) = ((cnt t k).toNat : Int) := by
  unfold cnt
  by_cases h : k = 7
  · subst h
    rw [if_pos rfl, UInt8.toNat_ofNat']
    simp
    omega
  · rw [if_neg h]
    have h2 : (2 : Nat) ^ 8 ≤ 2 ^ (56 - 8 * k) := Nat.pow_le_pow_right (by omega) (by omega)
    have h3 : t / 2 ^ (56 - 8 * k) = 0 := Nat.div_eq_of_lt (by omega)
    have h4 : ((t / 2 ^ (56 - 8 * k) : Nat) : Int) = 0 := by rw [h3]; rfl
    rw [Int.natCast_ediv] at h4
    simpa using h4
theorem cnt_xr (B : Nat → UInt8) (t k : Nat) : xr (B k) (cnt t k) = countF B t k := by
  unfold cnt countF
  by_cases h : k = 7
  · subst h; rw [if_pos rfl, if_pos rfl]
  · rw [if_neg h, if_neg h]; exact UInt8.xor_zero
theorem cnt_wrap (t k : Nat) : IntKind.u8.wrap ((cnt t k).toNat : Int) = ((cnt t k).toNat : Int) := by
  rw [IntKind.wrap_u8']
  have := (cnt t k).toNat_lt
  omega
/-- A step of wrapping, on A and the parts, one behind the other. -/
theorem wrap_step (C B A P : Nat → UInt8) (at_ i : Nat) : cpy (8 + at_) 8 (cpy 0 8 (bothF A P) C) (fun j => B (8 + j)) i = bothF C (cpy at_ 8 P fun j => B (8 + j)) i := by
  unfold bothF
  show (if 8 + at_ ≤ i ∧ i < 8 + at_ + 8 then B (8 + (i - (8 + at_))) else if 0 ≤ i ∧ i < 0 + 8 then C (i - 0) else if i < 8 then A i else P (i - 8)) = (if i < 8 then C i else if at_ ≤ i - 8 ∧ i - 8 < at_ + 8 then B (8 + (i - 8 - at_)) else P (i - 8))
  by_cases e : i < 8
  · rw [if_neg (by omega), if_pos (by omega), if_pos e]; rfl
  · by_cases e2 : 8 + at_ ≤ i ∧ i < 8 + at_ + 8
    · rw [if_pos e2, if_neg e, if_pos (by omega), show i - (8 + at_) = i - 8 - at_ by omega]
    · rw [if_neg e2, if_neg (by omega), if_neg e, if_neg e, if_neg (by omega)]
end Go.Proofs.YtcpfiimbobijlaaDoor
