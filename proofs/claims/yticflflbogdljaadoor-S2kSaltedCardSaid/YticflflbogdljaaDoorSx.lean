/- The hash's mathematics that the walks lean on: words of a block, bytes of a state, the padding. Plain theorems, no program. -/
import Derived.Test.YticflflbogdljaaDoorSw
namespace Go.Proofs.YticflflbogdljaaDoor
open Go Go.RowKit

/-- The number of the first k bytes of word j. -/
def pn32 (b : Nat → UInt8) (j : Nat) : Nat → Nat
  | 0 => 0
  | k + 1 => pn32 b j k * 256 + (b (4 * j + k)).toNat
theorem pn32_lt (b : Nat → UInt8) (j k : Nat) : pn32 b j k < 256 ^ k := by
  induction k with
  | zero => simp [pn32]
  | succ k ih =>
    have h := (b (4 * j + k)).toNat_lt
    show pn32 b j k * 256 + (b (4 * j + k)).toNat < 256 ^ (k + 1)
    rw [Nat.pow_succ]
    omega
/-- How many bytes of word j are among the first m. -/
def cn32 (m j : Nat) : Nat := min 4 (m - 4 * j)
def pr32 (b : Nat → UInt8) (m : Nat) : Nat → UInt32 := fun j => UInt32.ofNat (pn32 b j (cn32 m j))
theorem or_add8 (P x : Nat) (hx : x < 2 ^ 8) : P * 2 ^ 8 ||| x = P * 256 + x := by
  have h6 := Nat.shiftLeft_add_eq_or_of_lt (a := P) hx
  rw [Nat.shiftLeft_eq] at h6
  exact h6.symm
set_option maxRecDepth 100000 in
theorem pr32_step (b : Nat → UInt8) (m i : Nat) (hi : i = m / 4) : or32 (sl32 (pr32 b m i) 8) (UInt32.ofNat (b m).toNat) = pr32 b (m + 1) i := by
  have h1 : cn32 m i = m % 4 := by unfold cn32; omega
  have h2 : cn32 (m + 1) i = m % 4 + 1 := by unfold cn32; omega
  have h3 := pn32_lt b i (m % 4)
  have h4 : 256 ^ (m % 4) ≤ 256 ^ 3 := Nat.pow_le_pow_right (by omega) (by omega)
  have h5 := (b m).toNat_lt
  apply UInt32.toNat_inj.1
  unfold or32
  rw [UInt32.toNat_or, sl32_toNat]
  unfold pr32
  rw [h1, h2]
  show _ = (UInt32.ofNat (pn32 b i (m % 4) * 256 + (b (4 * i + m % 4)).toNat)).toNat
  rw [show 4 * i + m % 4 = m by omega]
  simp only [UInt32.toNat_ofNat']
  generalize pn32 b i (m % 4) = P at *
  have hP : P < 16777216 := Nat.lt_of_lt_of_le h3 h4
  rw [show P % 2 ^ 32 * 2 ^ 8 % 4294967296 = P * 2 ^ 8 by omega, Nat.mod_eq_of_lt (show (b m).toNat < 2 ^ 32 by omega), or_add8 _ _ h5, Nat.mod_eq_of_lt (show P * 256 + (b m).toNat < 2 ^ 32 by omega)]
theorem pr32_set (b : Nat → UInt8) (m i : Nat) (x : UInt32) (hi : i = m / 4) (hx : x = pr32 b (m + 1) i) : stF (pr32 b m) i x = pr32 b (m + 1) := by
  subst hx
  funext j
  unfold stF
  by_cases h : j = i
  · rw [if_pos h, h]
  · rw [if_neg h]
    unfold pr32
    rw [show cn32 m j = cn32 (m + 1) j by unfold cn32; omega]
theorem pr32_zero (b : Nat → UInt8) : pr32 b 0 = fun _ => 0 := by
  funext j
  unfold pr32
  rw [show cn32 0 j = 0 by unfold cn32; omega]
  rfl
set_option maxRecDepth 100000 in
theorem pr32_all (b : Nat → UInt8) (j : Nat) (hj : j < 16) : pr32 b 64 j = W32 b j := by
  rw [W32_low _ _ hj]
  unfold pr32 wrd32
  rw [show cn32 64 j = 4 by unfold cn32; omega]
  congr 1
  show ((((0) * 256 + (b (4 * j + 0)).toNat) * 256 + (b (4 * j + 1)).toNat) * 256 + (b (4 * j + 2)).toNat) * 256 + (b (4 * j + 3)).toNat = _
  rw [show 4 * j + 0 = 4 * j from rfl]
  omega

theorem up_first (b : Nat → UInt8) : upF 16 (W32 b) (pr32 b 64) = pr32 b 64 := by
  funext j
  unfold upF
  by_cases h : j < 16
  · rw [if_pos h, pr32_all b j h]
  · rw [if_neg h]
theorem up_word {f : Nat → UInt32} {b : Nat → UInt8} {t : Nat} (h : 16 ≤ t) : pl32 (pl32 (pl32 (sml1_32 (upF t (W32 b) f (t - 2))) (upF t (W32 b) f (t - 7))) (sml0_32 (upF t (W32 b) f (t - 15)))) (upF t (W32 b) f (t - 16)) = W32 b t := by
  rw [upF_lt _ _ (by omega), upF_lt _ _ (by omega), upF_lt _ _ (by omega), upF_lt _ _ (by omega), ← W32_up b t h]
/-- What of the padding of n bytes, L long, is laid when m bytes of the number are. -/
def pm32 (L n m : Nat) : Nat → UInt8 := fun j => if L - m ≤ j then UInt8.ofNat (8 * n / 256 ^ (L - 1 - j)) else if j = 0 then 128 else 0
theorem pm32_step (L n m : Nat) (h : m < L) : (fun j => if j = L - 1 - m then UInt8.ofNat (8 * n / 256 ^ m) else pm32 L n m j) = fun j => if j < L then pm32 L n (m + 1) j else pm32 L n m j := by
  funext j
  unfold pm32
  by_cases e : j = L - 1 - m
  · rw [if_pos e, if_pos (by omega), if_pos (by omega), show L - 1 - j = m by omega]
  · rw [if_neg e]
    by_cases hj : j < L
    · rw [if_pos hj]
      by_cases h2 : L - m ≤ j
      · rw [if_pos h2, if_pos (by omega)]
      · rw [if_neg h2, if_neg (by omega : ¬ L - (m + 1) ≤ j)]
    · rw [if_neg hj]
theorem pm32_pad (n : Nat) (f : Nat → UInt8) (j : Nat) : pm32 (64 * nb32 n - n) n 8 j = pad32 n f (n + j) := by
  have h : 64 * nb32 n = n + 8 - (n + 8) % 64 + 64 := by unfold nb32; omega
  have h2 := Nat.mod_lt (n + 8) (show 0 < 64 by omega)
  unfold pm32 pad32
  rw [if_neg (by omega : ¬ n + j < n)]
  by_cases h0 : j = 0
  · rw [if_neg (by omega), if_pos h0, if_pos (by omega)]
  · rw [if_neg (by omega : ¬ n + j = n)]
    by_cases h8 : 64 * nb32 n - n - 8 ≤ j
    · rw [if_pos h8, if_neg (by omega), show 64 * nb32 n - n - 1 - j = 64 * nb32 n - 1 - (n + j) by omega]
    · rw [if_neg h8, if_neg h0, if_pos (by omega)]
theorem pm32_next (L n m : Nat) (h : m < L) (x : UInt8) (hx : x = UInt8.ofNat (8 * n / 256 ^ m)) : ∀ i, i < L → stF (pm32 L n m) (L - 1 - m) x i = pm32 L n (m + 1) i := by
  subst hx
  intro i hi
  have := congrFun (pm32_step L n m h) i
  simp only [hi, if_true] at this
  exact this
theorem out32_at (s : Nat → UInt32) (m : Nat) : UInt8.ofNat (sr32 (s (m / 4)) (24 - m % 4 * 8)).toNat = out32 s m := by rw [sr32_toNat]; rfl
/-! ### A running hash -/
/-- The state s and the bytes r are what k bytes of F leave. -/
def HaS (s : Nat → UInt32) (r : Nat → UInt8) (k : Nat) (F : Nat → UInt8) : Prop := (∀ i, i < 8 → s i = hs32 F (k / 64) i) ∧ ∀ j, j < k % 64 → r j = F (64 * (k / 64) + j)
section
variable {s : Nat → UInt32} {r F F' : Nat → UInt8} {k kk : Nat} {m : List UInt8}
theorem HaS.congr (h : HaS s r k F) (hF : ∀ j, j < k → F j = F' j) : HaS s r k F' :=
  ⟨fun i hi => (h.1 i hi).trans (hs32_congr (k / 64) (fun j hj => hF j (by omega)) i hi), fun j hj => (h.2 j hj).trans (hF _ (by omega))⟩
theorem ov_at (h : HaS s r k F) (hF : ∀ j x, m[j]? = some x → F (k + j) = x) (hm : kk ≤ m.length) : ∀ j, j < k % 64 + kk → ovF r (k % 64 * 1) (m.take kk) j = F (64 * (k / 64) + j) := fun j hj => by
  have hl : (m.take kk).length = kk := by rw [List.length_take]; omega
  unfold ovF
  rw [hl, Nat.mul_one]
  by_cases hlt : j < k % 64
  · rw [if_neg (by omega), h.2 j hlt]
  · rw [if_pos (by omega)]
    have hi : j - k % 64 < m.length := by omega
    have e := hF (j - k % 64) m[j - k % 64] (List.getElem?_eq_getElem hi)
    rw [show k + (j - k % 64) = 64 * (k / 64) + j by omega] at e
    rw [e, List.getD_eq_getElem?_getD, List.getElem?_take, if_pos (by omega), List.getElem?_eq_getElem hi]
    rfl
theorem HaS.part (h : HaS s r k F) (hF : ∀ j x, m[j]? = some x → F (k + j) = x) (hm : kk ≤ m.length) (hk : k % 64 + kk < 64) : HaS s (ovF r (k % 64 * 1) (m.take kk)) (k + kk) F := by
  have e : (k + kk) / 64 = k / 64 := by omega
  unfold HaS
  rw [e]
  exact ⟨h.1, fun j hj => ov_at h hF hm j (by omega)⟩
theorem HaS.full (h : HaS s r k F) (hF : ∀ j x, m[j]? = some x → F (k + j) = x) (hm : kk ≤ m.length) (hk : k % 64 + kk = 64) : HaS (comp32 (ovF r (k % 64 * 1) (m.take kk)) s) (ovF r (k % 64 * 1) (m.take kk)) (k + kk) F := by
  have e : (k + kk) / 64 = k / 64 + 1 := by omega
  unfold HaS
  rw [e]
  exact ⟨comp32_congr (fun j hj => ov_at h hF hm j (by omega)) h.1, fun j hj => by omega⟩
end
/-- What is laid behind n bytes. -/
def pdL (n : Nat) : List UInt8 := lst (64 * nb32 n - n) (pm32 (64 * nb32 n - n) n 8)
theorem pdL_len (n : Nat) : (pdL n).length = 64 * nb32 n - n := lst_len _ _
theorem nb32_ge (n : Nat) : n + 8 < 64 * nb32 n ∧ 64 * nb32 n ≤ n + 72 := by unfold nb32; omega
theorem pdL_at {n : Nat} (f : Nat → UInt8) : ∀ j x, (pdL n)[j]? = some x → pad32 n f (n + j) = x := fun j x hx => by
  have hj : j < 64 * nb32 n - n := by
    have := (List.getElem?_eq_some_iff.1 hx).1
    rwa [pdL_len] at this
  unfold pdL at hx
  rw [lst_get hj, pm32_pad n f j] at hx
  exact Option.some.inj hx
theorem pad32_low (n : Nat) (f : Nat → UInt8) (j : Nat) (h : j < n) : f j = pad32 n f j := by unfold pad32; rw [if_pos h]
theorem pm_begin {L n : Nat} (_h : 0 < L) : (List.replicate L (0 : UInt8)).set 0 128 = lst L (pm32 L n 0) := by
  have e : List.replicate L (0 : UInt8) = lst L (fun _ => 0) := by
    apply List.ext_getElem?
    intro i
    by_cases h : i < L
    · rw [lst_get h, List.getElem?_replicate, if_pos h]
    · rw [List.getElem?_eq_none (by rw [List.length_replicate]; omega), List.getElem?_eq_none (by rw [lst_len]; omega)]
  rw [e, lst_set]
  refine lst_congr fun i hi => ?_
  unfold stF pm32
  rw [if_neg (show ¬ L - 0 ≤ i by omega)]
theorem pm_step {L n m : Nat} (h : m < L) : (lst L (pm32 L n m)).set (L - 1 - m) (UInt8.ofNat (n * 8 / 2 ^ (8 * m))) = lst L (pm32 L n (m + 1)) := by
  rw [lst_set]
  refine lst_congr (pm32_next L n m h _ ?_)
  rw [Nat.mul_comm n 8, show (256 : Nat) ^ m = 2 ^ (8 * m) by rw [Nat.pow_mul]]
/-- The SHA-256 of a list. -/
def sha (l : List UInt8) : Nat → UInt8 := sum32 l.length fun j => l.getD j 0
theorem ha_end {s : Nat → UInt32} {r f : Nat → UInt8} {n : Nat} (h : HaS s r (64 * nb32 n) (pad32 n f)) : ∀ i, i < 32 → out32 s i = sum32 n f i :=
  out32_congr fun i hi => by
    have := h.1 i hi
    rwa [Nat.mul_div_cancel_left _ (by omega : 0 < 64)] at this
/-- Blocks of other types are others. -/
theorem ne_ty {w : World} {g g' : Nat} {cs cs' : Array Value} {t t' : TypeId} {z z' : Nat × Nat} (h : w.heap[g]? = some (.cells cs t z)) (h' : w.heap[g']? = some (.cells cs' t' z')) (ht : (t == t') = false) : g ∉ [g'] := fun hm => by
  obtain rfl := List.mem_singleton.1 hm
  rw [h] at h'
  injection h' with e
  injection e with _ e2
  subst e2
  simp at ht
theorem ret_arr {n : Nat} {f g : Nat → UInt8} (h : ∀ i, i < n → f i = g i) : Ending.returned (Value.agg ((cArr n).enc f)) = Ending.returned ((cArr n).val g) := by rw [arr_congr h]; rfl
abbrev cHa : Cod ((Nat → UInt32) × (Nat → UInt8) × Nat) := cPair (cWs 8) (cPair (cArr 64) (cNat .u64))
/-! ### The document's -/
/-- Block i of a message. -/
def blkF (F : Nat → UInt8) (i : Nat) : Nat → UInt8 := fun j => F (64 * i + j)
def mzL (l : List UInt8) (z : Nat) : List UInt8 := l ++ (128 :: List.replicate z 0)
theorem mzL_len (l : List UInt8) (z : Nat) : (mzL l z).length = l.length + 1 + z := by simp [mzL]; omega
theorem mzL_step (l : List UInt8) (z : Nat) : mzL l z ++ [0] = mzL l (z + 1) := by
  unfold mzL
  rw [List.append_assoc, List.cons_append, List.replicate_succ']
/-- The first k bytes of 8 of a number. -/
def be8 (n k : Nat) : List UInt8 := lst k fun i => UInt8.ofNat (n / 2 ^ (8 * (7 - i)))
theorem be8_len (n k : Nat) : (be8 n k).length = k := lst_len _ _
theorem lst_succ (n : Nat) (f : Nat → UInt8) : lst (n + 1) f = lst n f ++ [f n] := by simp [lst, List.range_succ]
/-- The message in whole blocks. -/
def pdM (l : List UInt8) : List UInt8 := lst (64 * nb32 l.length) (pad32 l.length fun j => l.getD j 0)
theorem pdM_len (l : List UInt8) : (pdM l).length = 64 * nb32 l.length := lst_len _ _
theorem pdM_all {l : List UInt8} {z : Nat} (h : l.length + 1 + z + 8 = 64 * nb32 l.length) : mzL l z ++ be8 (l.length * 8) 8 = pdM l := by
  apply List.ext_getElem?
  intro k
  have h1 := mzL_len l z
  have h2 := be8_len (l.length * 8) 8
  by_cases hk : k < 64 * nb32 l.length
  · unfold pdM
    rw [lst_get hk]
    unfold pad32
    by_cases a1 : k < l.length
    · rw [if_pos a1, List.getElem?_append_left (by omega)]
      unfold mzL
      show (l ++ _)[k]? = some (l.getD k 0)
      rw [List.getElem?_append_left a1, List.getD_eq_getElem?_getD, List.getElem?_eq_getElem a1]; rfl
    · rw [if_neg a1]
      by_cases a2 : k < l.length + 1 + z
      · rw [List.getElem?_append_left (by omega)]
        unfold mzL
        rw [List.getElem?_append_right (by omega)]
        by_cases a3 : k = l.length
        · rw [if_pos a3, a3, Nat.sub_self]; rfl
        · rw [if_neg a3, if_pos (by omega), show k - l.length = (k - l.length - 1) + 1 by omega, List.getElem?_cons_succ, List.getElem?_replicate, if_pos (by omega)]
      · rw [if_neg (by omega), if_neg (by omega), List.getElem?_append_right (by omega), h1]
        unfold be8
        rw [lst_get (by omega)]
        congr 2
        rw [Nat.mul_comm 8 l.length, show (256 : Nat) = 2 ^ 8 from rfl, ← Nat.pow_mul]
        congr 2
        omega
  · rw [List.getElem?_eq_none (by rw [List.length_append]; omega), List.getElem?_eq_none (by rw [pdM_len]; omega)]
theorem or_addk {P Q k : Nat} (h : Q < 2 ^ k) : P * 2 ^ k ||| Q = P * 2 ^ k + Q := by
  have h6 := Nat.shiftLeft_add_eq_or_of_lt (a := P) h
  rw [Nat.shiftLeft_eq] at h6
  exact h6.symm
theorem wd_val {m : Nat} (h : m < 4294967296) : Value.int .u32 (m : Int) = sWd.val (UInt32.ofNat m) := by
  show _ = Value.int .u32 ((UInt32.ofNat m).toNat : Int)
  rw [UInt32.toNat_ofNat', Nat.mod_eq_of_lt h]
theorem up_low {b : Nat → UInt8} {q : Nat} (h : q < 16) : UInt32.ofNat ((b (4 * q)).toNat * 16777216 + (b (4 * q + 1)).toNat * 65536 + (b (4 * q + 2)).toNat * 256 + (b (4 * q + 3)).toNat) = W32 b q := by
  rw [W32_low _ _ h]; rfl
theorem out32_at2 (s : Nat → UInt32) (m : Nat) : UInt8.ofNat (sr32 (s (m / 4)) (24 - 8 * (m % 4))).toNat = out32 s m := by
  rw [sr32_toNat]
  unfold out32
  rw [Nat.mul_comm 8]
end Go.Proofs.YticflflbogdljaaDoor
