/- X25519's 9 has the group's order: no product of numbers that the order doesn't divide is 0. And what 0, 1 and p - 1 come to. No program. -/
import Derived.Test.YtchojbhmfjibmaaX25
namespace Go.Proofs.Ytchojbhmfjibmaa

def nineF : Fin pF := ⟨9, by decide +kernel⟩
theorem nine_order : (ladTo aF nineF 255 ordL 255).1.2 = 0 := by decide +kernel
theorem nine_order_t : (ladTo (-1 - aF) (-nineF) 255 ordL 255).1.2 = 0 := by decide +kernel

section
variable {n : Nat} [NeZero n] {d : Fin n} {iv : Fin n → Fin n}
/-- Where the ladder's Z is 0, the multiple is neutral. -/
theorem Edw.lad_neutral (E : Edw d iv) (iv0 : iv 0 = 0) {a : Fin n} (ha : a * (1 - d) = d) {g : Fin n × Fin n} (hg : OnE d g) (hu0 : uOf iv g ≠ 0) (N k : Nat) (hk : k < 2 ^ N)
    (hz : (ladTo a (uOf iv g) N k N).1.2 = 0) : mulE d iv g k = zeroE := by
  have h1 : 1 - g.2 ≠ 0 := by
    intro h
    apply hu0
    unfold uOf
    rw [h, iv0]; grind
  have hu : uOf iv g * (1 - g.2) = 1 + g.2 := by
    have := E.inv _ h1
    unfold uOf
    grind
  have hr := (E.lad_rel ha hg hu hu0 N k hk N (by omega)).1
  rw [Nat.sub_self, Nat.pow_zero, Nat.div_one] at hr
  obtain ⟨h2, h3⟩ := hr
  rw [hz] at h2 h3
  generalize (ladTo a (uOf iv g) N k N).1.1 = X at *
  have hy : (mulE d iv g k).2 = 1 := by
    refine E.cancel h2 ?_
    rw [← h3]; grind
  have hon := E.mul_on hg k
  unfold OnE at hon
  rw [hy] at hon
  have h4 : (1 - d) * ((mulE d iv g k).1 * (mulE d iv g k).1) = 0 := by
    generalize (mulE d iv g k).1 = x at *
    clear h3 h2 hu hz
    grind
  have hx : (mulE d iv g k).1 = 0 := by
    rcases E.dom _ _ h4 with h | h
    · exact absurd h E.d1
    · rcases E.dom _ _ h with h | h <;> exact h
  exact Prod.ext hx hy
/-- The point (1, 0) has the order 4. -/
theorem four_on : OnE d ((1, 0) : Fin n × Fin n) := by
  show (1 : Fin n) * 1 + 0 * 0 = 1 + d * (1 * 1) * (0 * 0)
  grind
theorem Edw.four_u (E : Edw d iv) : uOf iv ((1, 0) : Fin n × Fin n) = 1 := by
  show (1 + (0 : Fin n)) * iv (1 - 0) = 1
  have : (1 : Fin n) - 0 = 1 := by grind
  rw [this, E.iv1]; grind
theorem Edw.four_mul (E : Edw d iv) (k : Nat) : mulE d iv (1, 0) (4 * k) = zeroE := by
  have hon : OnE d ((1, 0) : Fin n × Fin n) := four_on
  have h2 : mulE d iv (1, 0) 2 = (0, -1) := by
    show addE d iv (addE d iv zeroE (1, 0)) (1, 0) = (0, -1)
    rw [E.zero_add]
    have ht : tE d ((1, 0) : Fin n × Fin n) (1, 0) = 0 := by
      show d * 1 * 1 * 0 * 0 = 0
      grind
    have h1 : (1 : Fin n) + 0 = 1 := by grind
    have h0 : (1 : Fin n) - 0 = 1 := by grind
    refine Prod.ext ?_ ?_
    · show ((1 : Fin n) * 0 + 1 * 0) * iv (1 + tE d (1, 0) (1, 0)) = 0
      grind
    · show ((0 : Fin n) * 0 - 1 * 1) * iv (1 - tE d (1, 0) (1, 0)) = -1
      rw [ht, h0, E.iv1]; grind
  have h4 : mulE d iv (1, 0) 4 = zeroE := by
    rw [show (4 : Nat) = 2 + 2 from rfl, E.mul_add hon, h2]
    exact E.flat_twice rfl (by show (-1 : Fin n) * -1 = 1; grind)
  rw [← E.mul_mul hon, h4]
  induction k with
  | zero => rfl
  | succ k ih =>
    show addE d iv (mulE d iv zeroE k) zeroE = zeroE
    rw [ih, E.zero_add]
theorem Edw.uOf_zero (iv0 : iv 0 = 0) : uOf iv (zeroE : Fin n × Fin n) = 0 := by
  show (1 + (1 : Fin n)) * iv (1 - 1) = 0
  have : (1 : Fin n) - 1 = 0 := by grind
  rw [this, iv0]; grind
end

theorem nine_never (k l : Nat) (hk : k < 2 ^ 255) (hl : l < 2 ^ 255) (hkl : ¬ ordL ∣ l * k) : xmul k (xmul l nineF) ≠ 0 := by
  have h9 : nineF ≠ 0 := by decide +kernel
  have h9' : -nineF ≠ 0 := by decide +kernel
  have ho : ordL < 2 ^ 255 := by decide +kernel
  have h2 : 2 < ordL := by decide +kernel
  rcases some_point nineF h9 with ⟨g, hg, h⟩ | ⟨g, hg, h⟩
  · have hz := edwF.lad_neutral ivF_0 aF_is hg (by rw [h]; exact h9) 255 ordL ho (by rw [h]; exact nine_order)
    unfold xmul
    rw [← h, edwF.lad_comm ivF_0 aF_is hg 255 k l (by decide) hk hl]
    exact edwF.never0 ivF_0 hg (by rw [h]; exact h9) ordL_irr h2 hz hkl
  · have hz := edwT.lad_neutral ivF_0 aT_is hg (by rw [h]; exact h9') 255 ordL ho (by rw [h]; exact nine_order_t)
    have nn : ∀ x : Fin pF, - -x = x := fun x => by grind
    rw [out_twistF (xmul l nineF) k, out_twistF nineF l, nn, ← h, edwT.lad_comm ivF_0 aT_is hg 255 k l (by decide) hk hl]
    have := edwT.never0 ivF_0 hg (by rw [h]; exact h9') ordL_irr h2 hz hkl
    intro h0
    apply this
    have e : - -uOf ivF (mulE dT ivF g (l * k)) = -0 := by rw [h0]
    rw [nn] at e
    rw [e]; decide +kernel
theorem small_one (k : Nat) (hk : 4 * k < 2 ^ 255) : xmul (4 * k) 1 = 0 := by
  unfold xmul
  have := edwF.lad_is ivF_0 aF_is four_on 255 (4 * k) (by decide) hk
  rw [edwF.four_u, edwF.four_mul, Edw.uOf_zero ivF_0] at this
  exact this
theorem small_less (k : Nat) (hk : 4 * k < 2 ^ 255) : xmul (4 * k) (-1) = 0 := by
  have nn : ∀ x : Fin pF, - -x = x := fun x => by grind
  rw [out_twistF, nn]
  have := edwT.lad_is ivF_0 aT_is four_on 255 (4 * k) (by decide) hk
  rw [edwT.four_u, edwT.four_mul, Edw.uOf_zero ivF_0] at this
  rw [this]; decide +kernel
/-- Numbers as secrets are: 8 m, 2^254 and more: the order divides no product of two. -/
theorem secrets_never (k l : Nat) (hk : 8 * k < 2 ^ 255) (hl : 8 * l < 2 ^ 255) (hk0 : 0 < k) (hl0 : 0 < l) : ¬ ordL ∣ 8 * l * (8 * k) := by
  have h252 : 2 ^ 252 ≤ ordL := by decide +kernel
  have h8 : 8 < ordL := by decide +kernel
  have small : ∀ x : Nat, 0 < x → x < 2 ^ 252 → ¬ ordL ∣ x := fun x h0 h1 h => by have := Nat.le_of_dvd h0 h; omega
  intro h
  rcases irr_mul ordL_irr h with h | h
  · rcases irr_mul ordL_irr h with h | h
    · exact small 8 (by omega) (by decide) h
    · exact small l hl0 (by omega) h
  · rcases irr_mul ordL_irr h with h | h
    · exact small 8 (by omega) (by decide) h
    · exact small k hk0 (by omega) h
end Go.Proofs.Ytchojbhmfjibmaa
