/- AES: the mathematics. That decryption undoes encryption; the keys of the rounds exist and are the only ones; one block reckoned. No program. -/
import Derived.Test.YtajifdnfibojfaaDoorPure
namespace Go.Proofs.YtajifdnfibojfaaDoor

/-! ### The keys of the rounds: there are some -/
def ks (s : Nat → UInt8) (nk : Nat) (key : Nat → UInt8) : Nat → Nat → UInt8
  | 0 => key
  | m + 1 => fun j => if j < 4 * (nk + m) then ks s nk key m j else xr (ks s nk key m (j - 4 * nk)) (tw s nk (ks s nk key m) (nk + m) (j - 4 * (nk + m)))
theorem ks_step (s : Nat → UInt8) (nk : Nat) (key : Nat → UInt8) (m j : Nat) (h : j < 4 * (nk + m)) : ks s nk key (m + 1) j = ks s nk key m j := by
  show (if j < 4 * (nk + m) then _ else _) = _
  rw [if_pos h]
theorem ks_stays (s : Nat → UInt8) (nk : Nat) (key : Nat → UInt8) (m j : Nat) (h : j < 4 * (nk + m)) : ∀ t, ks s nk key (m + t) j = ks s nk key m j
  | 0 => rfl
  | t + 1 => by rw [show m + (t + 1) = (m + t) + 1 from rfl, ks_step s nk key (m + t) j (by omega), ks_stays s nk key m j h t]
theorem tw_congr {s W W' : Nat → UInt8} {nk i k : Nat} (hi : 0 < i) (hk : k < 4) (h : ∀ j, j < 4 * i → W j = W' j) : tw s nk W i k = tw s nk W' i k := by
  unfold tw
  rw [h (4 * (i - 1) + 1) (by omega), h (4 * (i - 1) + (k + 1) % 4) (by omega), h (4 * (i - 1) + k) (by omega)]
theorem sched_exists (s : Nat → UInt8) (nk : Nat) (key : Nat → UInt8) (hn : 0 < nk) : ∃ W, Sched s nk key W := by
  refine ⟨ks s nk key (3 * nk + 28), fun j hj => ?_, fun i k h1 h2 hk => ?_⟩
  · have := ks_stays s nk key 0 j (by omega) (3 * nk + 28)
    rw [Nat.zero_add] at this
    exact this
  · obtain ⟨m, rfl⟩ : ∃ m, i = nk + m := ⟨i - nk, by omega⟩
    have e1 := ks_stays s nk key (m + 1) (4 * (nk + m) + k) (by omega) (3 * nk + 28 - (m + 1))
    rw [show m + 1 + (3 * nk + 28 - (m + 1)) = 3 * nk + 28 by omega] at e1
    have e2 : ∀ j, j < 4 * (nk + m) → ks s nk key (3 * nk + 28) j = ks s nk key m j := fun j hj => by
      have := ks_stays s nk key m j hj (3 * nk + 28 - m)
      rwa [show m + (3 * nk + 28 - m) = 3 * nk + 28 by omega] at this
    rw [e1, tw_congr (by omega) hk e2, e2 (4 * (nk + m - nk) + k) (by omega)]
    show (if 4 * (nk + m) + k < 4 * (nk + m) then _ else _) = _
    rw [if_neg (by omega), show 4 * (nk + m) + k - 4 * nk = 4 * (nk + m - nk) + k by omega, show 4 * (nk + m) + k - 4 * (nk + m) = k by omega]
/-- And no others. -/
theorem sched_unique {s key W W' : Nat → UInt8} {nk : Nat} (hn : 0 < nk) (h : Sched s nk key W) (h' : Sched s nk key W') : ∀ i, i ≤ 4 * nk + 28 → ∀ j, j < 4 * i → W j = W' j := by
  intro i
  induction i with
  | zero => intro _ j hj; omega
  | succ i ih =>
    intro hi j hj
    by_cases hlt : j < 4 * i
    · exact ih (by omega) j hlt
    · by_cases hnk : i < nk
      · rw [h.1 j (by omega), h'.1 j (by omega)]
      · obtain ⟨k, rfl⟩ : ∃ k, j = 4 * i + k := ⟨j - 4 * i, by omega⟩
        rw [h.2 i k (by omega) (by omega) (by omega), h'.2 i k (by omega) (by omega) (by omega), ih (by omega) (4 * (i - nk) + k) (by omega),
          tw_congr (by omega) (by omega) (ih (by omega))]

/-! ### Sixteen bytes alike -/
def E16 (f g : Nat → UInt8) : Prop := ∀ i, i < 16 → f i = g i
theorem E16.refl (f : Nat → UInt8) : E16 f f := fun _ _ => rfl
theorem E16.symm {f g : Nat → UInt8} (h : E16 f g) : E16 g f := fun i hi => (h i hi).symm
theorem E16.trans {f g k : Nat → UInt8} (h : E16 f g) (h' : E16 g k) : E16 f k := fun i hi => (h i hi).trans (h' i hi)
theorem E16.added {f g k k' : Nat → UInt8} (h : E16 f g) (h' : E16 k k') : E16 (added f k) (added g k') := fun i hi => by
  show xr (f i) (k i) = xr (g i) (k' i)
  rw [h i hi, h' i hi]
theorem E16.boxed {f g : Nat → UInt8} (s : Nat → UInt8) (h : E16 f g) : E16 (boxed s f) (boxed s g) := fun i hi => by
  show s (f i).toNat = s (g i).toNat
  rw [h i hi]
theorem E16.shifted {f g : Nat → UInt8} (h : E16 f g) : E16 (shifted f) (shifted g) := fun i _ => h _ (by omega)
theorem E16.unshifted {f g : Nat → UInt8} (h : E16 f g) : E16 (unshifted f) (unshifted g) := fun i _ => h _ (by omega)
theorem E16.mixed {f g : Nat → UInt8} (h : E16 f g) : E16 (mixed f) (mixed g) := fun i hi => by
  unfold Go.Proofs.YtajifdnfibojfaaDoor.mixed
  rw [h i hi, h (i - i % 4) (by omega), h (i - i % 4 + 1) (by omega), h (i - i % 4 + 2) (by omega), h (i - i % 4 + 3) (by omega), h (i - i % 4 + (i + 1) % 4) (by omega)]
theorem E16.premixed {f g : Nat → UInt8} (h : E16 f g) : E16 (premixed f) (premixed g) := fun i hi => by
  unfold Go.Proofs.YtajifdnfibojfaaDoor.premixed
  rw [h i hi, h (i - i % 4 + (i + 2) % 4) (by omega)]
theorem E16.unmixed {f g : Nat → UInt8} (h : E16 f g) : E16 (unmixed f) (unmixed g) := h.premixed.mixed

/-! ### Each step undone -/
theorem xr_self (x : UInt8) : x ^^^ x = 0 := UInt8.xor_self
theorem xr_cancel (x y : UInt8) : x ^^^ (x ^^^ y) = y := by rw [← UInt8.xor_assoc, UInt8.xor_self, UInt8.zero_xor]
theorem xor_left (a b c : UInt8) : a ^^^ (b ^^^ c) = b ^^^ (a ^^^ c) := by rw [← UInt8.xor_assoc, UInt8.xor_comm a b, UInt8.xor_assoc]
theorem added_added (b k : Nat → UInt8) : added (added b k) k = b := by
  funext i
  show (b i ^^^ k i) ^^^ k i = b i
  rw [UInt8.xor_assoc, UInt8.xor_self, UInt8.xor_zero]
theorem bit7 (x : UInt8) : x >>> 7 = 0 ∨ x >>> 7 = 1 := by
  have h : (x >>> 7).toNat = x.toNat / 128 := by
    rw [UInt8.toNat_shiftRight]
    simp [Nat.shiftRight_eq_div_pow]
  have h2 := x.toNat_lt
  rcases (by omega : x.toNat / 128 = 0 ∨ x.toNat / 128 = 1) with h3 | h3
  · left; apply UInt8.toNat_inj.1; rw [h, h3]; rfl
  · right; apply UInt8.toNat_inj.1; rw [h, h3]; rfl
theorem dbl_xor (x y : UInt8) : dbl (x ^^^ y) = dbl x ^^^ dbl y := by
  unfold dbl
  rw [UInt8.shiftLeft_xor, UInt8.shiftRight_xor]
  have h : (x >>> 7 ^^^ y >>> 7) * (0x1b : UInt8) = (x >>> 7) * (0x1b : UInt8) ^^^ (y >>> 7) * (0x1b : UInt8) := by
    rcases bit7 x with h | h <;> rcases bit7 y with h' | h' <;> rw [h, h'] <;> decide
  rw [h]
  generalize x <<< 1 = a
  generalize y <<< 1 = b
  generalize (x >>> 7) * 0x1b = c
  generalize (y >>> 7) * 0x1b = d
  rw [UInt8.xor_assoc, UInt8.xor_assoc, ← UInt8.xor_assoc b, UInt8.xor_comm b c, UInt8.xor_assoc]
theorem mixed_at (b : Nat → UInt8) (c r : Nat) (hr : r < 4) :
    mixed b (4 * c + r) = (b (4 * c + r) ^^^ (b (4 * c) ^^^ b (4 * c + 1) ^^^ b (4 * c + 2) ^^^ b (4 * c + 3))) ^^^ dbl (b (4 * c + r) ^^^ b (4 * c + (r + 1) % 4)) := by
  unfold mixed xr
  rw [show 4 * c + r - (4 * c + r) % 4 = 4 * c by omega, show (4 * c + r + 1) % 4 = (r + 1) % 4 by omega]
theorem premixed_at (b : Nat → UInt8) (c r : Nat) (hr : r < 4) :
    premixed b (4 * c + r) = b (4 * c + r) ^^^ dbl (dbl (b (4 * c + r) ^^^ b (4 * c + (r + 2) % 4))) := by
  unfold premixed xr
  rw [show 4 * c + r - (4 * c + r) % 4 = 4 * c by omega, show (4 * c + r + 2) % 4 = (r + 2) % 4 by omega]
theorem mixed_mixed (b : Nat → UInt8) : mixed (mixed b) = premixed b := by
  funext i
  obtain ⟨c, r, hr, rfl⟩ : ∃ c r, r < 4 ∧ i = 4 * c + r := ⟨i / 4, i % 4, by omega, by omega⟩
  rw [mixed_at _ c r hr, premixed_at _ c r hr]
  have e0 := mixed_at b c 0 (by omega)
  have e1 := mixed_at b c 1 (by omega)
  have e2 := mixed_at b c 2 (by omega)
  have e3 := mixed_at b c 3 (by omega)
  simp only [Nat.add_zero, Nat.reduceAdd, Nat.reduceMod] at e0 e1 e2 e3
  rcases (by omega : r = 0 ∨ r = 1 ∨ r = 2 ∨ r = 3) with rfl | rfl | rfl | rfl <;>
    (simp only [Nat.add_zero, Nat.reduceAdd, Nat.reduceMod, e0, e1, e2, e3, dbl_xor]
     generalize b (4 * c) = x0
     generalize b (4 * c + 1) = x1
     generalize b (4 * c + 2) = x2
     generalize b (4 * c + 3) = x3
     simp only [UInt8.xor_assoc, UInt8.xor_comm, xor_left, xr_cancel, UInt8.xor_self, UInt8.xor_zero, UInt8.zero_xor])
theorem premixed_premixed (b : Nat → UInt8) : premixed (premixed b) = b := by
  funext i
  obtain ⟨c, r, hr, rfl⟩ : ∃ c r, r < 4 ∧ i = 4 * c + r := ⟨i / 4, i % 4, by omega, by omega⟩
  rw [premixed_at _ c r hr, premixed_at b c r hr, premixed_at b c ((r + 2) % 4) (by omega), show ((r + 2) % 4 + 2) % 4 = r by omega]
  generalize b (4 * c + r) = x
  generalize b (4 * c + (r + 2) % 4) = y
  simp only [dbl_xor]
  simp only [UInt8.xor_comm, xor_left, UInt8.xor_self, UInt8.xor_zero, UInt8.zero_xor]
theorem unmixed_mixed (b : Nat → UInt8) : unmixed (mixed b) = b := by
  unfold unmixed
  rw [← mixed_mixed (mixed b), mixed_mixed b, mixed_mixed, premixed_premixed]
theorem mixed_unmixed (b : Nat → UInt8) : mixed (unmixed b) = b := by
  unfold unmixed
  rw [mixed_mixed, premixed_premixed]
theorem unshifted_shifted (b : Nat → UInt8) : E16 (unshifted (shifted b)) b := fun i hi => by
  show b (((i + i % 4 * 12) % 16 + (i + i % 4 * 12) % 16 % 4 * 4) % 16) = b i
  rw [show ((i + i % 4 * 12) % 16 + (i + i % 4 * 12) % 16 % 4 * 4) % 16 = i by omega]
theorem shifted_unshifted (b : Nat → UInt8) : E16 (shifted (unshifted b)) b := fun i hi => by
  show b (((i + i % 4 * 4) % 16 + (i + i % 4 * 4) % 16 % 4 * 12) % 16) = b i
  rw [show ((i + i % 4 * 4) % 16 + (i + i % 4 * 4) % 16 % 4 * 12) % 16 = i by omega]
/-- Two boxes that undo one another. -/
def Undo (s back : Nat → UInt8) : Prop := ∀ x : UInt8, back (s x.toNat).toNat = x
theorem boxed_undo {s back : Nat → UInt8} (h : Undo s back) (b : Nat → UInt8) : boxed back (boxed s b) = b := by
  funext i
  exact h (b i)

theorem decR_enc {s back : Nat → UInt8} (h : Undo s back) (r : Nat) (_ : 0 < r) (W b : Nat → UInt8) : ∀ m, m < r → E16 (decR back r W (enc s r W b) m) (encR s W b (r - 1 - m)) := by
  intro m
  induction m with
  | zero =>
    intro _
    show E16 (boxed back (unshifted (added (added (shifted (boxed s (encR s W b (r - 1)))) (rk W r)) (rk W r)))) _
    rw [added_added]
    have := (unshifted_shifted (boxed s (encR s W b (r - 1)))).boxed back
    rw [boxed_undo h] at this
    exact this
  | succ m ih =>
    intro hm
    have h1 := ih (by omega)
    obtain ⟨t, ht⟩ : ∃ t, r - 1 - m = t + 1 := ⟨r - 2 - m, by omega⟩
    rw [ht] at h1
    show E16 (boxed back (unshifted (unmixed (added (decR back r W (enc s r W b) m) (rk W (r - 1 - m)))))) (encR s W b (r - 1 - (m + 1)))
    rw [show r - 1 - (m + 1) = t by omega, ht]
    have h2 : E16 (added (decR back r W (enc s r W b) m) (rk W (t + 1))) (mixed (shifted (boxed s (encR s W b t)))) := by
      have := h1.added (E16.refl (rk W (t + 1)))
      have e : encR s W b (t + 1) = added (mixed (shifted (boxed s (encR s W b t)))) (rk W (t + 1)) := rfl
      rw [e, added_added] at this
      exact this
    have h3 := h2.unmixed
    rw [unmixed_mixed] at h3
    have h4 := (h3.unshifted.trans (unshifted_shifted _)).boxed back
    rw [boxed_undo h] at h4
    exact h4
theorem dec_enc {s back : Nat → UInt8} (h : Undo s back) (r : Nat) (hr : 0 < r) (W b : Nat → UInt8) : E16 (dec back r W (enc s r W b)) b := by
  have h1 := decR_enc h r hr W b (r - 1) (by omega)
  rw [show r - 1 - (r - 1) = 0 by omega] at h1
  have h2 := h1.added (E16.refl (rk W 0))
  have e : encR s W b 0 = added b (rk W 0) := rfl
  rw [e, added_added] at h2
  exact h2
theorem encR_dec {s back : Nat → UInt8} (h : Undo back s) (r : Nat) (_ : 0 < r) (W b : Nat → UInt8) : ∀ m, m < r → E16 (encR s W (dec back r W b) m) (decR back r W b (r - 1 - m)) := by
  intro m
  induction m with
  | zero =>
    intro _
    show E16 (added (added (decR back r W b (r - 1)) (rk W 0)) (rk W 0)) _
    rw [added_added]
    exact E16.refl _
  | succ m ih =>
    intro hm
    have h1 := ih (by omega)
    obtain ⟨t, ht⟩ : ∃ t, r - 1 - m = t + 1 := ⟨r - 2 - m, by omega⟩
    rw [ht] at h1
    show E16 (added (mixed (shifted (boxed s (encR s W (dec back r W b) m)))) (rk W (m + 1))) (decR back r W b (r - 1 - (m + 1)))
    rw [show r - 1 - (m + 1) = t by omega]
    have e : decR back r W b (t + 1) = boxed back (unshifted (unmixed (added (decR back r W b t) (rk W (r - 1 - t))))) := rfl
    rw [e, show r - 1 - t = m + 1 by omega] at h1
    have h2 := h1.boxed s
    rw [boxed_undo h] at h2
    have h3 := (h2.shifted.trans (shifted_unshifted _)).mixed
    rw [mixed_unmixed] at h3
    have h4 := h3.added (E16.refl (rk W (m + 1)))
    rw [added_added] at h4
    exact h4
theorem enc_dec {s back : Nat → UInt8} (h : Undo back s) (r : Nat) (hr : 0 < r) (W b : Nat → UInt8) : E16 (enc s r W (dec back r W b)) b := by
  have h1 := encR_dec h r hr W b (r - 1) (by omega)
  rw [show r - 1 - (r - 1) = 0 by omega] at h1
  have e : decR back r W b 0 = boxed back (unshifted (added b (rk W r))) := rfl
  rw [e] at h1
  have h2 := h1.boxed s
  rw [boxed_undo h] at h2
  have h3 := (h2.shifted.trans (shifted_unshifted _)).added (E16.refl (rk W r))
  rw [added_added] at h3
  exact h3

/-! ### What hangs on sixteen bytes alone -/
theorem E16.encR {s W W' b b' : Nat → UInt8} (hb : E16 b b') : ∀ m, (∀ j, j < 16 * (m + 1) → W j = W' j) → E16 (encR s W b m) (encR s W' b' m)
  | 0, hW => hb.added fun i hi => hW _ (by omega)
  | m + 1, hW => ((((E16.encR hb m (fun j hj => hW j (by omega))).boxed s).shifted).mixed).added fun i hi => hW _ (by omega)
theorem E16.enc {s W W' b b' : Nat → UInt8} (hb : E16 b b') (r : Nat) (hr : 0 < r) (hW : ∀ j, j < 16 * (r + 1) → W j = W' j) : E16 (enc s r W b) (enc s r W' b') :=
  (((E16.encR hb (r - 1) (fun j hj => hW j (by omega))).boxed s).shifted).added fun i hi => hW _ (by omega)
theorem E16.decR {back W b b' : Nat → UInt8} (r : Nat) (hb : E16 b b') : ∀ m, E16 (decR back r W b m) (decR back r W b' m)
  | 0 => ((hb.added (E16.refl _)).unshifted).boxed back
  | m + 1 => ((((E16.decR r hb m).added (E16.refl _)).unmixed).unshifted).boxed back
theorem E16.dec {back W b b' : Nat → UInt8} (r : Nat) (hb : E16 b b') : E16 (dec back r W b) (dec back r W b') := (E16.decR r hb (r - 1)).added (E16.refl _)

/-! ### The box -/
def boxL : List UInt8 := [99, 124, 119, 123, 242, 107, 111, 197, 48, 1, 103, 43, 254, 215, 171, 118, 202, 130, 201, 125, 250, 89, 71, 240, 173, 212, 162, 175, 156, 164, 114, 192, 183, 253, 147, 38, 54, 63, 247, 204, 52, 165, 229, 241, 113, 216, 49, 21, 4, 199, 35, 195, 24, 150, 5, 154, 7, 18, 128, 226, 235, 39, 178, 117, 9, 131, 44, 26, 27, 110, 90, 160, 82, 59, 214, 179, 41, 227, 47, 132, 83, 209, 0, 237, 32, 252, 177, 91, 106, 203, 190, 57, 74, 76, 88, 207, 208, 239, 170, 251, 67, 77, 51, 133, 69, 249, 2, 127, 80, 60, 159, 168, 81, 163, 64, 143, 146, 157, 56, 245, 188, 182, 218, 33, 16, 255, 243, 210, 205, 12, 19, 236, 95, 151, 68, 23, 196, 167, 126, 61, 100, 93, 25, 115, 96, 129, 79, 220, 34, 42, 144, 136, 70, 238, 184, 20, 222, 94, 11, 219, 224, 50, 58, 10, 73, 6, 36, 92, 194, 211, 172, 98, 145, 149, 228, 121, 231, 200, 55, 109, 141, 213, 78, 169, 108, 86, 244, 234, 101, 122, 174, 8, 186, 120, 37, 46, 28, 166, 180, 198, 232, 221, 116, 31, 75, 189, 139, 138, 112, 62, 181, 102, 72, 3, 246, 14, 97, 53, 87, 185, 134, 193, 29, 158, 225, 248, 152, 17, 105, 217, 142, 148, 155, 30, 135, 233, 206, 85, 40, 223, 140, 161, 137, 13, 191, 230, 66, 104, 65, 153, 45, 15, 176, 84, 187, 22]
def invL : List UInt8 := [82, 9, 106, 213, 48, 54, 165, 56, 191, 64, 163, 158, 129, 243, 215, 251, 124, 227, 57, 130, 155, 47, 255, 135, 52, 142, 67, 68, 196, 222, 233, 203, 84, 123, 148, 50, 166, 194, 35, 61, 238, 76, 149, 11, 66, 250, 195, 78, 8, 46, 161, 102, 40, 217, 36, 178, 118, 91, 162, 73, 109, 139, 209, 37, 114, 248, 246, 100, 134, 104, 152, 22, 212, 164, 92, 204, 93, 101, 182, 146, 108, 112, 72, 80, 253, 237, 185, 218, 94, 21, 70, 87, 167, 141, 157, 132, 144, 216, 171, 0, 140, 188, 211, 10, 247, 228, 88, 5, 184, 179, 69, 6, 208, 44, 30, 143, 202, 63, 15, 2, 193, 175, 189, 3, 1, 19, 138, 107, 58, 145, 17, 65, 79, 103, 220, 234, 151, 242, 207, 206, 240, 180, 230, 115, 150, 172, 116, 34, 231, 173, 53, 133, 226, 249, 55, 232, 28, 117, 223, 110, 71, 241, 26, 113, 29, 41, 197, 137, 111, 183, 98, 14, 170, 24, 190, 27, 252, 86, 62, 75, 198, 210, 121, 32, 154, 219, 192, 254, 120, 205, 90, 244, 31, 221, 168, 51, 136, 7, 199, 49, 177, 18, 16, 89, 39, 128, 236, 95, 96, 81, 127, 169, 25, 181, 74, 13, 45, 229, 122, 159, 147, 201, 156, 239, 160, 224, 59, 77, 174, 42, 245, 176, 200, 235, 187, 60, 131, 83, 153, 97, 23, 43, 4, 126, 186, 119, 214, 38, 225, 105, 20, 99, 85, 33, 12, 125]
def boxF (i : Nat) : UInt8 := boxL.getD i 0
def invF (i : Nat) : UInt8 := invL.getD i 0
set_option maxRecDepth 100000 in
theorem inv_box : ∀ i : Fin 256, invF (boxF i.1).toNat = UInt8.ofNat i.1 := by decide +kernel
set_option maxRecDepth 100000 in
theorem box_inv : ∀ i : Fin 256, boxF (invF i.1).toNat = UInt8.ofNat i.1 := by decide +kernel
theorem ofNat_toNat (x : UInt8) : UInt8.ofNat x.toNat = x := UInt8.ofNat_toNat
theorem undo_box : Undo boxF invF := fun x => by
  have := inv_box ⟨x.toNat, x.toNat_lt⟩
  rw [ofNat_toNat] at this
  exact this
theorem undo_inv : Undo invF boxF := fun x => by
  have := box_inv ⟨x.toNat, x.toNat_lt⟩
  rw [ofNat_toNat] at this
  exact this
theorem bk_at (s inv : Nat → UInt8) (M : Nat) (hM : M ≤ 256) (hs : ∀ i, i < M → (inv (s i).toNat).toNat = i) : ∀ j, (∃ m, m < M ∧ (s m).toNat = j) → bk s M j = inv j := by
  induction M with
  | zero => rintro j ⟨m, hm, _⟩; omega
  | succ M ih =>
    rintro j ⟨m, hm, rfl⟩
    show (if (s m).toNat = (s M).toNat then UInt8.ofNat M else bk s M (s m).toNat) = _
    by_cases h : (s m).toNat = (s M).toNat
    · rw [if_pos h, h]
      have := hs M (by omega)
      conv => lhs; rw [← this]
      rw [ofNat_toNat]
    · rw [if_neg h]
      refine ih (by omega) (fun i hi => hs i (by omega)) _ ⟨m, ?_, rfl⟩
      rcases Nat.lt_or_ge m M with h1 | h1
      · exact h1
      · exact absurd (by rw [show m = M by omega]) h
theorem inv_box' (i : Nat) (hi : i < 256) : (invF (boxF i).toNat).toNat = i := by
  have h := inv_box ⟨i, hi⟩
  simp only at h
  rw [h, UInt8.toNat_ofNat']
  omega
theorem back_eq (x : UInt8) : bk boxF 256 x.toNat = invF x.toNat := by
  refine bk_at boxF invF 256 (by omega) (fun i hi => inv_box' i hi) _ ⟨(invF x.toNat).toNat, (invF x.toNat).toNat_lt, ?_⟩
  rw [undo_inv x]
theorem undo_back : Undo boxF (bk boxF 256) := fun x => by rw [back_eq]; exact undo_box x
theorem undo_back' : Undo (bk boxF 256) boxF := fun x => by rw [back_eq]; exact undo_inv x

/-! ### One block, reckoned: sixteen noughts under a key of sixteen noughts -/
def zL : List UInt8 := [0, 0, 0, 0, 0, 0, 0, 0, 0, 0, 0, 0, 0, 0, 0, 0, 98, 99, 99, 99, 98, 99, 99, 99, 98, 99, 99, 99, 98, 99, 99, 99, 155, 152, 152, 201, 249, 251, 251, 170, 155, 152, 152, 201, 249, 251, 251, 170, 144, 151, 52, 80, 105, 108, 207, 250, 242, 244, 87, 51, 11, 15, 172, 153, 238, 6, 218, 123, 135, 106, 21, 129, 117, 158, 66, 178, 126, 145, 238, 43, 127, 46, 43, 136, 248, 68, 62, 9, 141, 218, 124, 187, 243, 75, 146, 144, 236, 97, 75, 133, 20, 37, 117, 140, 153, 255, 9, 55, 106, 180, 155, 167, 33, 117, 23, 135, 53, 80, 98, 11, 172, 175, 107, 60, 198, 27, 240, 155, 14, 249, 3, 51, 59, 169, 97, 56, 151, 6, 10, 4, 81, 29, 250, 159, 177, 212, 216, 226, 138, 125, 185, 218, 29, 123, 179, 222, 76, 102, 73, 65, 180, 239, 91, 203, 62, 146, 226, 17, 35, 233, 81, 207, 111, 143, 24, 142]
def zW (i : Nat) : UInt8 := zL.getD i 0
def zF : Nat → UInt8 := fun _ => 0
set_option maxRecDepth 100000 in
theorem zW_head : ∀ j : Fin 16, zW j.1 = zF j.1 := by decide +kernel
set_option maxRecDepth 100000 in
theorem zW_rest : ∀ i : Fin 44, ∀ k : Fin 4, 4 ≤ i.1 → zW (4 * i.1 + k.1) = xr (zW (4 * (i.1 - 4) + k.1)) (tw boxF 4 zW i.1 k.1) := by decide +kernel
theorem sched_zero : Sched boxF 4 zF zW := ⟨fun j hj => zW_head ⟨j, by omega⟩, fun i k h1 h2 hk => zW_rest ⟨i, by omega⟩ ⟨k, hk⟩ h1⟩
def st0 (i : Nat) : UInt8 := ([0, 0, 0, 0, 0, 0, 0, 0, 0, 0, 0, 0, 0, 0, 0, 0] : List UInt8).getD i 0
def st1 (i : Nat) : UInt8 := ([1, 0, 0, 0, 1, 0, 0, 0, 1, 0, 0, 0, 1, 0, 0, 0] : List UInt8).getD i 0
def st2 (i : Nat) : UInt8 := ([198, 228, 228, 139, 164, 135, 135, 232, 198, 228, 228, 139, 164, 135, 135, 232] : List UInt8).getD i 0
def st3 (i : Nat) : UInt8 := ([40, 45, 243, 196, 106, 243, 134, 37, 74, 78, 144, 167, 8, 144, 229, 70] : List UInt8).getD i 0
def st4 (i : Nat) : UInt8 := ([171, 210, 205, 254, 55, 90, 181, 73, 80, 160, 175, 192, 117, 154, 106, 95] : List UInt8).getD i 0
def st5 (i : Nat) : UInt8 := ([212, 111, 79, 108, 85, 184, 150, 51, 126, 5, 187, 61, 121, 121, 222, 35] : List UInt8).getD i 0
def st6 (i : Nat) : UInt8 := ([4, 242, 202, 151, 7, 120, 40, 69, 226, 47, 1, 150, 73, 197, 215, 16] : List UInt8).getD i 0
def st7 (i : Nat) : UInt8 := ([183, 170, 228, 197, 29, 37, 45, 79, 108, 146, 15, 129, 148, 229, 129, 80] : List UInt8).getD i 0
def st8 (i : Nat) : UInt8 := ([35, 231, 140, 60, 19, 33, 99, 219, 170, 192, 198, 87, 46, 3, 203, 149] : List UInt8).getD i 0
def st9 (i : Nat) : UInt8 := ([127, 254, 14, 149, 81, 165, 102, 53, 14, 52, 124, 71, 41, 41, 236, 203] : List UInt8).getD i 0
def stOut (i : Nat) : UInt8 := ([102, 233, 75, 212, 239, 138, 44, 59, 136, 76, 250, 89, 202, 52, 43, 46] : List UInt8).getD i 0
theorem fin16 {f g : Nat → UInt8} (h : ∀ i : Fin 16, f i.1 = g i.1) : E16 f g := fun i hi => h ⟨i, hi⟩
set_option maxRecDepth 100000 in
theorem e0 : E16 (encR boxF zW zF 0) st0 := fin16 (by decide +kernel)
set_option maxRecDepth 100000 in
theorem e1' : E16 (added (mixed (shifted (boxed boxF st0))) (rk zW 1)) st1 := fin16 (by decide +kernel)
theorem e1 : E16 (encR boxF zW zF 1) st1 := ((((e0.boxed boxF).shifted).mixed).added (E16.refl _)).trans e1'
set_option maxRecDepth 100000 in
theorem e2' : E16 (added (mixed (shifted (boxed boxF st1))) (rk zW 2)) st2 := fin16 (by decide +kernel)
theorem e2 : E16 (encR boxF zW zF 2) st2 := ((((e1.boxed boxF).shifted).mixed).added (E16.refl _)).trans e2'
set_option maxRecDepth 100000 in
theorem e3' : E16 (added (mixed (shifted (boxed boxF st2))) (rk zW 3)) st3 := fin16 (by decide +kernel)
theorem e3 : E16 (encR boxF zW zF 3) st3 := ((((e2.boxed boxF).shifted).mixed).added (E16.refl _)).trans e3'
set_option maxRecDepth 100000 in
theorem e4' : E16 (added (mixed (shifted (boxed boxF st3))) (rk zW 4)) st4 := fin16 (by decide +kernel)
theorem e4 : E16 (encR boxF zW zF 4) st4 := ((((e3.boxed boxF).shifted).mixed).added (E16.refl _)).trans e4'
set_option maxRecDepth 100000 in
theorem e5' : E16 (added (mixed (shifted (boxed boxF st4))) (rk zW 5)) st5 := fin16 (by decide +kernel)
theorem e5 : E16 (encR boxF zW zF 5) st5 := ((((e4.boxed boxF).shifted).mixed).added (E16.refl _)).trans e5'
set_option maxRecDepth 100000 in
theorem e6' : E16 (added (mixed (shifted (boxed boxF st5))) (rk zW 6)) st6 := fin16 (by decide +kernel)
theorem e6 : E16 (encR boxF zW zF 6) st6 := ((((e5.boxed boxF).shifted).mixed).added (E16.refl _)).trans e6'
set_option maxRecDepth 100000 in
theorem e7' : E16 (added (mixed (shifted (boxed boxF st6))) (rk zW 7)) st7 := fin16 (by decide +kernel)
theorem e7 : E16 (encR boxF zW zF 7) st7 := ((((e6.boxed boxF).shifted).mixed).added (E16.refl _)).trans e7'
set_option maxRecDepth 100000 in
theorem e8' : E16 (added (mixed (shifted (boxed boxF st7))) (rk zW 8)) st8 := fin16 (by decide +kernel)
theorem e8 : E16 (encR boxF zW zF 8) st8 := ((((e7.boxed boxF).shifted).mixed).added (E16.refl _)).trans e8'
set_option maxRecDepth 100000 in
theorem e9' : E16 (added (mixed (shifted (boxed boxF st8))) (rk zW 9)) st9 := fin16 (by decide +kernel)
theorem e9 : E16 (encR boxF zW zF 9) st9 := ((((e8.boxed boxF).shifted).mixed).added (E16.refl _)).trans e9'
set_option maxRecDepth 100000 in
theorem eOut' : E16 (added (shifted (boxed boxF st9)) (rk zW 10)) stOut := fin16 (by decide +kernel)
theorem eOut : E16 (enc boxF 10 zW zF) stOut := (((e9.boxed boxF).shifted).added (E16.refl _)).trans eOut'
/-- What a block of noughts begins with, under a key of noughts. -/
theorem awake_byte {W : Nat → UInt8} (h : Sched boxF 4 zF W) : enc boxF 10 W zF 0 = 0x66 := by
  have h1 := E16.enc (s := boxF) (E16.refl zF) 10 (by omega) (sched_unique (by omega) h sched_zero 44 (by omega)) 0 (by omega)
  rw [h1, eOut 0 (by omega)]
  rfl
end Go.Proofs.YtajifdnfibojfaaDoor
