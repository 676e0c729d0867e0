/- The program's and the document's numbers as numbers modulo p. -/
import Derived.Test.YtchojbhmfjibmaaFInvApi
import Derived.Test.YtchojbhmfjibmaaNine
namespace Go.Proofs.Ytchojbhmfjibmaa

theorem pN_pF : pN = pF := rfl
/-- What a number is modulo p. -/
def toF (v : Nat) : Fin pF := ⟨v % pF, Nat.mod_lt _ pF_pos⟩
theorem toF_val (v : Nat) : (toF v).val = v % pN := rfl
theorem toF_eq {u v : Nat} (h : u % pN = v % pN) : toF u = toF v := Fin.ext h
theorem toF_inj {u v : Nat} (h : toF u = toF v) : u % pN = v % pN := congrArg Fin.val h
theorem toF_mod (v : Nat) : toF (v % pN) = toF v := toF_eq (Nat.mod_mod _ _)
theorem toF_add (u v : Nat) : toF (u + v) = toF u + toF v := by
  refine Fin.ext ?_
  rw [Fin.val_add]
  show (u + v) % pF = (u % pF + v % pF) % pF
  rw [← Nat.add_mod]
theorem toF_mul (u v : Nat) : toF (u * v) = toF u * toF v := by
  refine Fin.ext ?_
  rw [Fin.val_mul]
  show (u * v) % pF = (u % pF * (v % pF)) % pF
  rw [← Nat.mul_mod]
theorem toF_fv (v : Nat) : toF (fv v) = toF v := toF_eq (fv_mod v)
theorem toF_tm (u v : Nat) : toF (tm u v) = toF u * toF v := by rw [← toF_mul]; exact toF_eq (tm_mod u v)
theorem toF_mi (u v : Nat) (hu : u < 2 ^ 256) (hv : v < 2 ^ 256) : toF (mi u v) = toF u - toF v := by
  have h := toF_eq (mi_facts u v hu hv).2.2
  rw [toF_add] at h
  generalize toF (mi u v) = x at *
  rw [← h]; grind
theorem toF_minus (u v : Nat) : toF (fv (u + (pN - v % pN))) = toF u - toF v := by
  rw [toF_fv, toF_add]
  have h : toF (pN - v % pN) + toF v = 0 := by
    rw [← toF_add]
    refine Fin.ext ?_
    have hl : v % pN < pN := Nat.mod_lt _ (by decide)
    show (pN - v % pN + v) % pN = 0
    have e : (pN - v % pN + v) % pN = (pN - v % pN + v % pN) % pN := by rw [Nat.add_mod_mod]
    rw [e, Nat.sub_add_cancel (Nat.le_of_lt hl), Nat.mod_self]
  generalize toF (pN - v % pN) = x at *
  generalize toF v = y at *
  grind
theorem toF_iv (n : Nat) : toF (iv n) = ivF (toF n) := by
  refine Fin.ext ?_
  unfold ivF
  rw [pw_val]
  show iv n % pN = (n % pF) ^ (pF - 2) % pF
  rw [iv_pow, ← Nat.pow_mod]
  rfl
/-- The bytes that are told stand for the number. -/
theorem lv_bytes (v : Nat) : lv (byteN (v % pN)) 32 = v % pN := by
  rw [lv_byteN]
  exact Nat.mod_eq_of_lt (Nat.lt_of_lt_of_le (Nat.mod_lt _ (by decide)) (by decide))
theorem toF_bytes (v : Nat) : toF (lv (byteN (v % pN)) 32) = toF v := by rw [lv_bytes, toF_mod]
end Go.Proofs.Ytchojbhmfjibmaa
