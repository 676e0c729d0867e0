/- 2^255 - 19 is a prime, and so is the group's order: by certificates (mkprimes.py writes this text). No program. -/
import Derived.Test.YtchojbhmfjibmaaNum
namespace Go.Proofs.Ytchojbhmfjibmaa

theorem irr_trial (n k : Nat) (h : (decide (1 < n) && decide (n ≤ k * k) && (List.range (k + 1)).all (fun m => decide (m < 2) || decide (n ≤ m) || n % m != 0)) = true) : Irr n := by
  simp only [Bool.and_eq_true, decide_eq_true_eq] at h
  obtain ⟨⟨h1, h2⟩, h3⟩ := h
  have no : ∀ m, m ∣ n → 1 < m → m < n → k < m := by
    intro m hm hm1 hmn
    apply Classical.byContradiction
    intro hk
    have := List.all_eq_true.mp h3 m (List.mem_range.mpr (by omega))
    simp only [Bool.or_eq_true, decide_eq_true_eq, bne_iff_ne] at this
    rcases this with (h | h) | h
    · omega
    · omega
    · exact h (Nat.mod_eq_zero_of_dvd hm)
  refine ⟨h1, fun m hm => ?_⟩
  apply Classical.byContradiction
  intro hne
  have hm0 : m ≠ 0 := by rintro rfl; have := Nat.eq_zero_of_zero_dvd hm; omega
  have hmn := Nat.le_of_dvd (by omega) hm
  have ha := no m hm (by omega) (by omega)
  obtain ⟨c, hc⟩ := hm
  have hc1 : c ≠ 0 := by rintro rfl; omega
  have hc2 : c ≠ 1 := by rintro rfl; omega
  have hb := no c ⟨m, by rw [Nat.mul_comm]; exact hc⟩ (by omega) (by
    have : c * 2 ≤ m * c := by rw [Nat.mul_comm]; exact Nat.mul_le_mul_right c (by omega)
    omega)
  have h3 : (k + 1) * (k + 1) ≤ m * c := Nat.mul_le_mul ha hb
  have h4 : k * k < (k + 1) * (k + 1) := by rw [Nat.add_mul, Nat.mul_add]; omega
  omega

def certB (N a F R : Nat) (L : List Nat) : Bool :=
  decide (1 < N) && decide (F * R = N - 1) && decide (N ≤ F * F) && decide (prodOf L = F) && decide (N - 1 < 2 ^ 600) &&
    powN N a (N - 1) == 1 && L.all (fun x => Nat.gcd (powN N a ((N - 1) / x) + (N - 1)) N == 1)
theorem pocklB (N a F R : Nat) (L : List Nat) (h : certB N a F R L = true) (hL : ∀ x ∈ L, Irr x) : Irr N := by
  simp only [certB, Bool.and_eq_true, decide_eq_true_eq, beq_iff_eq, List.all_eq_true] at h
  obtain ⟨⟨⟨⟨⟨⟨h1, h2⟩, h3⟩, h4⟩, h5⟩, h6⟩, h7⟩ := h
  refine pockl N a F R L h1 h2 h3 hL h4 ?_ (fun x hx => ?_)
  · rw [← powN_eq N a (N - 1) h5]; exact h6
  · rw [← powN_eq N a ((N - 1) / x) (Nat.lt_of_le_of_lt (Nat.div_le_self _ _) h5)]; exact h7 x hx
def rootB (p g : Nat) (L : List Nat) : Bool :=
  decide (1 < p) && decide (prodOf L = p - 1) && decide (p - 1 < 2 ^ 600) && powN p g (p - 1) == 1 && L.all (fun x => powN p g ((p - 1) / x) != 1)
theorem fermatB (p g : Nat) (L : List Nat) (h : rootB p g L = true) (hL : ∀ x ∈ L, Irr x) : Irr p ∧ ∀ y, y % p ≠ 0 → y ^ (p - 1) % p = 1 := by
  simp only [rootB, Bool.and_eq_true, decide_eq_true_eq, beq_iff_eq, bne_iff_ne, List.all_eq_true] at h
  obtain ⟨⟨⟨⟨h1, h2⟩, h5⟩, h6⟩, h7⟩ := h
  have ha : g ^ (p - 1) % p = 1 := by rw [← powN_eq p g (p - 1) h5]; exact h6
  have hn : ∀ x ∈ L, g ^ ((p - 1) / x) % p ≠ 1 := fun x hx => by
    rw [← powN_eq p g ((p - 1) / x) (Nat.lt_of_le_of_lt (Nat.div_le_self _ _) h5)]; exact h7 x hx
  exact ⟨irr_of_root p g h1 L hL h2 ha hn, fun y hy => fermat p g h1 L hL h2 ha hn y hy⟩

theorem irr_2 : Irr 2 := irr_trial 2 2 (by decide +kernel)
theorem irr_3 : Irr 3 := irr_trial 3 2 (by decide +kernel)
theorem irr_65147 : Irr 65147 := irr_trial 65147 256 (by decide +kernel)
theorem irr_353 : Irr 353 := irr_trial 353 19 (by decide +kernel)
theorem irr_57467 : Irr 57467 := irr_trial 57467 240 (by decide +kernel)
theorem irr_132049 : Irr 132049 := irr_trial 132049 364 (by decide +kernel)
theorem irr_3727 : Irr 3727 := irr_trial 3727 62 (by decide +kernel)
theorem irr_1923133 : Irr 1923133 :=
  pocklB 1923133 2 3727 516 [3727] (by decide +kernel) (by
    intro x hx
    simp only [List.mem_cons, List.not_mem_nil, or_false] at hx
    rcases hx with rfl
    · exact irr_3727)
theorem irr_31 : Irr 31 := irr_trial 31 6 (by decide +kernel)
theorem irr_223 : Irr 223 := irr_trial 223 15 (by decide +kernel)
theorem irr_4153 : Irr 4153 := irr_trial 4153 65 (by decide +kernel)
theorem irr_31757755568855353 : Irr 31757755568855353 :=
  pocklB 31757755568855353 5 229677512 138271071 [2, 2, 2, 31, 223, 4153] (by decide +kernel) (by
    intro x hx
    simp only [List.mem_cons, List.not_mem_nil, or_false] at hx
    rcases hx with rfl | rfl | rfl | rfl | rfl | rfl
    · exact irr_2
    · exact irr_2
    · exact irr_2
    · exact irr_31
    · exact irr_223
    · exact irr_4153)
theorem irr_74058212732561358302231226437062788676166966415465897661863160754340907 : Irr 74058212732561358302231226437062788676166966415465897661863160754340907 :=
  pocklB 74058212732561358302231226437062788676166966415465897661863160754340907 2 327203142120246897114999953879690702 226337107439344281818252539631594403 [2, 353, 57467, 132049, 1923133, 31757755568855353] (by decide +kernel) (by
    intro x hx
    simp only [List.mem_cons, List.not_mem_nil, or_false] at hx
    rcases hx with rfl | rfl | rfl | rfl | rfl | rfl
    · exact irr_2
    · exact irr_353
    · exact irr_57467
    · exact irr_132049
    · exact irr_1923133
    · exact irr_31757755568855353)
theorem irr_23 : Irr 23 := irr_trial 23 5 (by decide +kernel)
theorem irr_3797 : Irr 3797 := irr_trial 3797 62 (by decide +kernel)
theorem irr_531581 : Irr 531581 :=
  pocklB 531581 2 3797 140 [3797] (by decide +kernel) (by
    intro x hx
    simp only [List.mem_cons, List.not_mem_nil, or_false] at hx
    rcases hx with rfl
    · exact irr_3797)
theorem irr_1257559732178653 : Irr 1257559732178653 :=
  pocklB 1257559732178653 2 48905452 25714101 [2, 2, 23, 531581] (by decide +kernel) (by
    intro x hx
    simp only [List.mem_cons, List.not_mem_nil, or_false] at hx
    rcases hx with rfl | rfl | rfl | rfl
    · exact irr_2
    · exact irr_2
    · exact irr_23
    · exact irr_531581)
theorem irr_4434155615661930479 : Irr 4434155615661930479 :=
  pocklB 4434155615661930479 2 1257559732178653 3526 [1257559732178653] (by decide +kernel) (by
    intro x hx
    simp only [List.mem_cons, List.not_mem_nil, or_false] at hx
    rcases hx with rfl
    · exact irr_1257559732178653)
theorem irr_172054593956031949258510691 : Irr 172054593956031949258510691 :=
  pocklB 172054593956031949258510691 2 4434155615661930479 38802110 [4434155615661930479] (by decide +kernel) (by
    intro x hx
    simp only [List.mem_cons, List.not_mem_nil, or_false] at hx
    rcases hx with rfl
    · exact irr_4434155615661930479)
theorem irr_19757330305831588566944191468367130476339 : Irr 19757330305831588566944191468367130476339 :=
  pocklB 19757330305831588566944191468367130476339 2 172054593956031949258510691 114831751082918 [172054593956031949258510691] (by decide +kernel) (by
    intro x hx
    simp only [List.mem_cons, List.not_mem_nil, or_false] at hx
    rcases hx with rfl
    · exact irr_172054593956031949258510691)
theorem irr_276602624281642239937218680557139826668747 : Irr 276602624281642239937218680557139826668747 :=
  pocklB 276602624281642239937218680557139826668747 2 19757330305831588566944191468367130476339 14 [19757330305831588566944191468367130476339] (by decide +kernel) (by
    intro x hx
    simp only [List.mem_cons, List.not_mem_nil, or_false] at hx
    rcases hx with rfl
    · exact irr_19757330305831588566944191468367130476339)
theorem irr_7237005577332262213973186563042994240857116359379907606001950938285454250989 : Irr 7237005577332262213973186563042994240857116359379907606001950938285454250989 :=
  pocklB 7237005577332262213973186563042994240857116359379907606001950938285454250989 2 276602624281642239937218680557139826668747 26163907866482859529727157400808004 [276602624281642239937218680557139826668747] (by decide +kernel) (by
    intro x hx
    simp only [List.mem_cons, List.not_mem_nil, or_false] at hx
    rcases hx with rfl
    · exact irr_276602624281642239937218680557139826668747)
/-- 2^255 - 19, and the group's order. -/
def pF : Nat := 57896044618658097711785492504343953926634992332820282019728792003956564819949
def ordL : Nat := 7237005577332262213973186563042994240857116359379907606001950938285454250989
theorem pF_is : pF = 2 ^ 255 - 19 := by decide +kernel
theorem ordL_irr : Irr ordL := irr_7237005577332262213973186563042994240857116359379907606001950938285454250989
theorem pF_prime : Irr pF ∧ ∀ y, y % pF ≠ 0 → y ^ (pF - 1) % pF = 1 :=
  fermatB pF 2 [2, 2, 3, 65147, 74058212732561358302231226437062788676166966415465897661863160754340907] (by decide +kernel) (by
    intro x hx
    simp only [List.mem_cons, List.not_mem_nil, or_false] at hx
    rcases hx with rfl | rfl | rfl | rfl | rfl
    · exact irr_2
    · exact irr_2
    · exact irr_3
    · exact irr_65147
    · exact irr_74058212732561358302231226437062788676166966415465897661863160754340907)
end Go.Proofs.Ytchojbhmfjibmaa
