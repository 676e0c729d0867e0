/- The hash of FIPS 180-4 with words of 32 bits: plain mathematics, no program. -/
namespace Go.Proofs.YticflflbogdljaaDoor

def sr32 (x : UInt32) (n : Nat) : UInt32 := UInt32.ofNat (x.toNat / 2 ^ n)
def sl32 (x : UInt32) (n : Nat) : UInt32 := UInt32.ofNat (x.toNat * 2 ^ n)
def or32 (x y : UInt32) : UInt32 := x ||| y
def and32 (x y : UInt32) : UInt32 := x &&& y
def xo32 (x y : UInt32) : UInt32 := x ^^^ y
def not32 (x : UInt32) : UInt32 := ~~~x
def pl32 (x y : UInt32) : UInt32 := x + y
def rr32 (x : UInt32) (n : Nat) : UInt32 := or32 (sr32 x n) (sl32 x (32 - n))
def big0_32 (x : UInt32) : UInt32 := xo32 (xo32 (rr32 x 2) (rr32 x 13)) (rr32 x 22)
def big1_32 (x : UInt32) : UInt32 := xo32 (xo32 (rr32 x 6) (rr32 x 11)) (rr32 x 25)
def sml0_32 (x : UInt32) : UInt32 := xo32 (xo32 (rr32 x 7) (rr32 x 18)) (sr32 x 3)
def sml1_32 (x : UInt32) : UInt32 := xo32 (xo32 (rr32 x 17) (rr32 x 19)) (sr32 x 10)
def ch32 (e f g : UInt32) : UInt32 := xo32 (and32 e f) (and32 (not32 e) g)
def maj32 (a b c : UInt32) : UInt32 := xo32 (xo32 (and32 a b) (and32 a c)) (and32 b c)
theorem sr32_toNat (x : UInt32) (n : Nat) : (sr32 x n).toNat = x.toNat / 2 ^ n := by
  unfold sr32
  rw [UInt32.toNat_ofNat']
  have h := x.toNat_lt
  have h2 : x.toNat / 2 ^ n ≤ x.toNat := Nat.div_le_self _ _
  exact Nat.mod_eq_of_lt (by omega)
theorem sl32_toNat (x : UInt32) (n : Nat) : (sl32 x n).toNat = x.toNat * 2 ^ n % 4294967296 := UInt32.toNat_ofNat'
/-- Word t of a block. -/
def wrd32 (b : Nat → UInt8) (t : Nat) : UInt32 := UInt32.ofNat ((b (4 * t)).toNat * 16777216 + (b (4 * t + 1)).toNat * 65536 + (b (4 * t + 2)).toNat * 256 + (b (4 * t + 3)).toNat)
/-- The words of all rounds. -/
def W32 (b : Nat → UInt8) (t : Nat) : UInt32 :=
  if _h : t < 16 then wrd32 b t else pl32 (pl32 (pl32 (sml1_32 (W32 b (t - 2))) (W32 b (t - 7))) (sml0_32 (W32 b (t - 15)))) (W32 b (t - 16))
termination_by t
decreasing_by all_goals omega
theorem W32_low (b : Nat → UInt8) (t : Nat) (h : t < 16) : W32 b t = wrd32 b t := by rw [W32, dif_pos h]
theorem W32_up (b : Nat → UInt8) (t : Nat) (h : 16 ≤ t) : W32 b t = pl32 (pl32 (pl32 (sml1_32 (W32 b (t - 2))) (W32 b (t - 7))) (sml0_32 (W32 b (t - 15)))) (W32 b (t - 16)) := by
  rw [W32, dif_neg (by omega)]
def kl32 : List UInt32 := [1116352408, 1899447441, 3049323471, 3921009573, 961987163, 1508970993, 2453635748, 2870763221, 3624381080, 310598401, 607225278, 1426881987, 1925078388, 2162078206, 2614888103, 3248222580, 3835390401, 4022224774, 264347078, 604807628, 770255983, 1249150122, 1555081692, 1996064986, 2554220882, 2821834349, 2952996808, 3210313671, 3336571891, 3584528711, 113926993, 338241895, 666307205, 773529912, 1294757372, 1396182291, 1695183700, 1986661051, 2177026350, 2456956037, 2730485921, 2820302411, 3259730800, 3345764771, 3516065817, 3600352804, 4094571909, 275423344, 430227734, 506948616, 659060556, 883997877, 958139571, 1322822218, 1537002063, 1747873779, 1955562222, 2024104815, 2227730452, 2361852424, 2428436474, 2756734187, 3204031479, 3329325298]
def hl32 : List UInt32 := [1779033703, 3144134277, 1013904242, 2773480762, 1359893119, 2600822924, 528734635, 1541459225]
def K32 (i : Nat) : UInt32 := kl32.getD i 0
def H32 (i : Nat) : UInt32 := hl32.getD i 0
def one32 (w : UInt32) (t : Nat) (s : Nat → UInt32) : UInt32 := pl32 (pl32 (pl32 (pl32 (s 7) (big1_32 (s 4))) (ch32 (s 4) (s 5) (s 6))) (K32 t)) w
def two32 (s : Nat → UInt32) : UInt32 := pl32 (big0_32 (s 0)) (maj32 (s 0) (s 1) (s 2))
/-- A round. -/
def step32 (w : UInt32) (t : Nat) (s : Nat → UInt32) : Nat → UInt32
  | 0 => pl32 (one32 w t s) (two32 s)
  | 1 => s 0
  | 2 => s 1
  | 3 => s 2
  | 4 => pl32 (s 3) (one32 w t s)
  | 5 => s 4
  | 6 => s 5
  | _ => s 6
def rnd32 (b : Nat → UInt8) (s : Nat → UInt32) : Nat → Nat → UInt32
  | 0 => s
  | t + 1 => step32 (W32 b t) t (rnd32 b s t)
/-- The state behind a block. -/
def comp32 (b : Nat → UInt8) (s : Nat → UInt32) : Nat → UInt32 := fun i => pl32 (s i) (rnd32 b s 64 i)
/-- The state behind k blocks. -/
def hs32 (m : Nat → UInt8) : Nat → Nat → UInt32
  | 0 => H32
  | k + 1 => comp32 (fun j => m (64 * k + j)) (hs32 m k)
def nb32 (n : Nat) : Nat := (n + 8) / 64 + 1
/-- The message in whole blocks. -/
def pad32 (n : Nat) (f : Nat → UInt8) : Nat → UInt8 := fun j =>
  if j < n then f j else if j = n then 128 else if j < 64 * nb32 n - 8 then 0 else UInt8.ofNat (8 * n / 256 ^ (64 * nb32 n - 1 - j))
def out32 (s : Nat → UInt32) : Nat → UInt8 := fun i => UInt8.ofNat ((s (i / 4)).toNat / 2 ^ (24 - i % 4 * 8))
def sum32 (n : Nat) (f : Nat → UInt8) : Nat → UInt8 := out32 (hs32 (pad32 n f) (nb32 n))
theorem comp32_congr {b b' : Nat → UInt8} {s s' : Nat → UInt32} (hb : ∀ j, j < 64 → b j = b' j) (hs : ∀ i, i < 8 → s i = s' i) : ∀ i, i < 8 → comp32 b s i = comp32 b' s' i := by
  have hw : ∀ t, t < 16 → wrd32 b t = wrd32 b' t := fun t ht => by
    unfold wrd32
    rw [hb (4 * t) (by omega), hb (4 * t + 1) (by omega), hb (4 * t + 2) (by omega), hb (4 * t + 3) (by omega)]
  have hW : ∀ n t, t < n → W32 b t = W32 b' t := by
    intro n
    induction n with
    | zero => intro t ht; omega
    | succ n ih =>
      intro t ht
      by_cases h : t < 16
      · rw [W32_low _ _ h, W32_low _ _ h, hw t h]
      · rw [W32_up _ _ (by omega), W32_up b' _ (by omega), ih (t - 2) (by omega), ih (t - 7) (by omega), ih (t - 15) (by omega), ih (t - 16) (by omega)]
  have hr : ∀ t i, i < 8 → rnd32 b s t i = rnd32 b' s' t i := by
    intro t
    induction t with
    | zero => exact hs
    | succ t ih =>
      intro i hi
      show step32 (W32 b t) t (rnd32 b s t) i = step32 (W32 b' t) t (rnd32 b' s' t) i
      rw [hW (t + 1) t (by omega)]
      have e0 := ih 0 (by omega); have e1 := ih 1 (by omega); have e2 := ih 2 (by omega); have e3 := ih 3 (by omega); have e4 := ih 4 (by omega); have e5 := ih 5 (by omega); have e6 := ih 6 (by omega); have e7 := ih 7 (by omega)
      obtain rfl | rfl | rfl | rfl | rfl | rfl | rfl | rfl : i = 0 ∨ i = 1 ∨ i = 2 ∨ i = 3 ∨ i = 4 ∨ i = 5 ∨ i = 6 ∨ i = 7 := by omega
      all_goals (simp only [step32, one32, two32, e0, e1, e2, e3, e4, e5, e6, e7])
  intro i hi
  unfold comp32
  rw [hs i hi, hr 64 i hi]
theorem hs32_congr {m m' : Nat → UInt8} (k : Nat) (h : ∀ j, j < 64 * k → m j = m' j) : ∀ i, i < 8 → hs32 m k i = hs32 m' k i := by
  induction k with
  | zero => intro i _; rfl
  | succ k ih => exact comp32_congr (fun j hj => h _ (by omega)) (ih fun j hj => h j (by omega))
theorem out32_congr {s s' : Nat → UInt32} (h : ∀ i, i < 8 → s i = s' i) : ∀ i, i < 32 → out32 s i = out32 s' i := fun i hi => by
  unfold out32
  rw [h (i / 4) (by omega)]
end Go.Proofs.YticflflbogdljaaDoor
