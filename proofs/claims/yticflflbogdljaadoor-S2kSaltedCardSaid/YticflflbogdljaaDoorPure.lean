/- AES on rows of bytes as functions of the index: plain mathematics, no program. -/
namespace Go.Proofs.YticflflbogdljaaDoor

/-- Exclusive or, under a name that no rewriting opens. -/
def xr (x y : UInt8) : UInt8 := x ^^^ y
def dbl (x : UInt8) : UInt8 := x <<< 1 ^^^ (x >>> 7) * 0x1b
def added (b k : Nat → UInt8) : Nat → UInt8 := fun i => xr (b i) (k i)
def boxed (s b : Nat → UInt8) : Nat → UInt8 := fun i => s (b i).toNat
def shifted (b : Nat → UInt8) : Nat → UInt8 := fun i => b ((i + i % 4 * 4) % 16)
/-- Row r goes r columns to the right. -/
def unshifted (b : Nat → UInt8) : Nat → UInt8 := fun i => b ((i + i % 4 * 12) % 16)
def mixed (b : Nat → UInt8) : Nat → UInt8 := fun i =>
  xr (xr (b i) (xr (xr (xr (b (i - i % 4)) (b (i - i % 4 + 1))) (b (i - i % 4 + 2))) (b (i - i % 4 + 3)))) (dbl (xr (b i) (b (i - i % 4 + (i + 1) % 4))))
def premixed (b : Nat → UInt8) : Nat → UInt8 := fun i => xr (b i) (dbl (dbl (xr (b i) (b (i - i % 4 + (i + 2) % 4)))))
def unmixed (b : Nat → UInt8) : Nat → UInt8 := mixed (premixed b)

theorem dbl_toNat (x : UInt8) : (dbl x).toNat = (x.toNat * 2 % 256) ^^^ (x.toNat / 128 * 27) := by
  unfold dbl
  have h := x.toNat_lt
  rw [UInt8.toNat_xor, UInt8.toNat_mul, UInt8.toNat_shiftLeft, UInt8.toNat_shiftRight]
  simp only [UInt8.reduceToNat, Nat.reduceMod, Nat.shiftLeft_eq, Nat.shiftRight_eq_div_pow, Nat.reducePow]
  congr 1
  have h2 : x.toNat / 128 ≤ 1 := by omega
  omega

/-- What has been written of a row, up to m; the rest is as it was. -/
def upto (m : Nat) (f g : Nat → UInt8) : Nat → UInt8 := fun j => if j < m then f j else g j
theorem upto_at (m : Nat) (f g : Nat → UInt8) : upto m f g m = g m := by simp [upto]
theorem upto_zero (f g : Nat → UInt8) : upto 0 f g = g := by funext j; simp [upto]
theorem upto_all {n : Nat} (f g : Nat → UInt8) (i : Nat) (h : i < n) : upto n f g i = f i := by simp [upto, h]
theorem upto_succ (m : Nat) (f g : Nat → UInt8) : (fun j => if j = m then f m else upto m f g j) = upto (m + 1) f g := by
  funext j
  unfold upto
  by_cases h : j = m
  · subst h; simp
  · by_cases h2 : j < m
    · have : j < m + 1 := by omega
      simp [h, h2, this]
    · have : ¬ j < m + 1 := by omega
      simp [h, h2, this]

/-- k bytes of fs laid over f from place off on. -/
def cpy (off k : Nat) (f fs : Nat → UInt8) : Nat → UInt8 := fun j => if off ≤ j ∧ j < off + k then fs (j - off) else f j
theorem cpy_upto (j : Nat) (W : Nat → UInt8) (l : Nat) : cpy (j * 16) 16 (upto (16 * j) W fun _ => 0) (fun i => W (16 * j + i)) l = upto (16 * (j + 1)) W (fun _ => 0) l := by
  unfold cpy upto
  by_cases h : j * 16 ≤ l ∧ l < j * 16 + 16
  · rw [if_pos h, if_pos (by omega)]; show W (16 * j + (l - j * 16)) = W l; rw [show 16 * j + (l - j * 16) = l by omega]
  · rw [if_neg h]
    by_cases h2 : l < 16 * j
    · rw [if_pos h2, if_pos (by omega)]
    · rw [if_neg h2, if_neg (by omega)]
/-- The box turned round, by its first m places. -/
def bk (s : Nat → UInt8) : Nat → Nat → UInt8
  | 0 => fun _ => 0
  | m + 1 => fun j => if j = (s m).toNat then UInt8.ofNat m else bk s m j

/-! ### The keys of the rounds -/
def rc : Nat → UInt8
  | 0 => 1
  | n + 1 => dbl (rc n)
/-- What is put into word i, byte k. -/
def tw (s : Nat → UInt8) (nk : Nat) (W : Nat → UInt8) (i k : Nat) : UInt8 :=
  if i % nk = 0 then (if k = 0 then xr (s (W (4 * (i - 1) + 1)).toNat) (rc ((i - 1) / nk)) else s (W (4 * (i - 1) + (k + 1) % 4)).toNat)
  else if nk = 8 ∧ i % nk = 4 then s (W (4 * (i - 1) + k)).toNat else W (4 * (i - 1) + k)
/-- W: the bytes of the keys of all rounds, of a key of nk words. -/
def Sched (s : Nat → UInt8) (nk : Nat) (key W : Nat → UInt8) : Prop :=
  (∀ j, j < 4 * nk → W j = key j) ∧ ∀ i k, nk ≤ i → i < 4 * nk + 28 → k < 4 → W (4 * i + k) = xr (W (4 * (i - nk) + k)) (tw s nk W i k)

theorem upto_put (m : Nat) (W g : Nat → UInt8) (v : UInt8) (hv : v = W m) : (fun j => if j = m then v else upto m W g j) = upto (m + 1) W g := by
  subst hv; exact upto_succ m W g
theorem sched_A {s key W : Nat → UInt8} {nk : Nat} (hn : 0 < nk) (hW : Sched s nk key W) (d q : Nat) (hd : d < 3 * nk + 28) (hq : q = 4 * d + (4 * nk - 4)) (hA : (d + nk) % nk = 0) (k : Nat) (hk : k < 4) :
    W (q + 4 + k) = xr (W (q + 4 + k - 4 * nk)) (if k = 0 then xr (s (W (q + 1)).toNat) (rc ((d + (nk - 1)) / nk)) else s (W (q + (k + 1) % 4)).toNat) := by
  have h := hW.2 (d + nk) k (by omega) (by omega) hk
  unfold tw at h
  rw [if_pos hA, show 4 * (d + nk) + k = q + 4 + k by omega, show 4 * (d + nk - nk) + k = q + 4 + k - 4 * nk by omega, show 4 * (d + nk - 1) = q by omega, show d + nk - 1 = d + (nk - 1) by omega] at h
  exact h
theorem sched_B {s key W : Nat → UInt8} {nk : Nat} (hn : 0 < nk) (hW : Sched s nk key W) (d q : Nat) (hd : d < 3 * nk + 28) (hq : q = 4 * d + (4 * nk - 4)) (hA : ¬ (d + nk) % nk = 0) (hB : ¬ (nk = 8 ∧ (d + nk) % nk = 4)) (k : Nat) (hk : k < 4) :
    W (q + 4 + k) = xr (W (q + 4 + k - 4 * nk)) (W (q + k)) := by
  have h := hW.2 (d + nk) k (by omega) (by omega) hk
  unfold tw at h
  rw [if_neg hA, if_neg hB, show 4 * (d + nk) + k = q + 4 + k by omega, show 4 * (d + nk - nk) + k = q + 4 + k - 4 * nk by omega, show 4 * (d + nk - 1) = q by omega] at h
  exact h
theorem sched_C {s key W : Nat → UInt8} {nk : Nat} (_ : 0 < nk) (hW : Sched s nk key W) (d q : Nat) (hd : d < 3 * nk + 28) (hq : q = 4 * d + (4 * nk - 4)) (hA : ¬ (d + nk) % nk = 0) (hB : nk = 8 ∧ (d + nk) % nk = 4) (k : Nat) (hk : k < 4) :
    W (q + 4 + k) = xr (W (q + 4 + k - 4 * nk)) (s (W (q + k)).toNat) := by
  have h := hW.2 (d + nk) k (by omega) (by omega) hk
  unfold tw at h
  rw [if_neg hA, if_pos hB, show 4 * (d + nk) + k = q + 4 + k by omega, show 4 * (d + nk - nk) + k = q + 4 + k - 4 * nk by omega, show 4 * (d + nk - 1) = q by omega] at h
  exact h

def rk (W : Nat → UInt8) (r : Nat) : Nat → UInt8 := fun j => W (16 * r + j)
def encR (s W b : Nat → UInt8) : Nat → Nat → UInt8
  | 0 => added b (rk W 0)
  | i + 1 => added (mixed (shifted (boxed s (encR s W b i)))) (rk W (i + 1))
/-- r + 1 rounds' keys. -/
def enc (s : Nat → UInt8) (r : Nat) (W b : Nat → UInt8) : Nat → UInt8 := added (shifted (boxed s (encR s W b (r - 1)))) (rk W r)
def decR (back : Nat → UInt8) (r : Nat) (W b : Nat → UInt8) : Nat → Nat → UInt8
  | 0 => boxed back (unshifted (added b (rk W r)))
  | i + 1 => boxed back (unshifted (unmixed (added (decR back r W b i) (rk W (r - 1 - i)))))
def dec (back : Nat → UInt8) (r : Nat) (W b : Nat → UInt8) : Nat → UInt8 := added (decR back r W b (r - 1)) (rk W 0)

end Go.Proofs.YticflflbogdljaaDoor
