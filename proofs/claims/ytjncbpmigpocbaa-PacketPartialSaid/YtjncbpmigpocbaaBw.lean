/- Numbers in bytes: what their walks lean on. Plain theorems, no program. -/
import Derived.Test.YtjncbpmigpocbaaBe
import Derived.Test.YtjncbpmigpocbaaOpN
namespace Go.Proofs.Ytjncbpmigpocbaa
open Go Go.RowKit

theorem or_add {m c : Nat} (h : c < 256) : m * 256 ||| c = m * 256 + c := by
  have := Nat.shiftLeft_add_eq_or_of_lt (show c < 2 ^ 8 by omega) m
  rw [Nat.shiftLeft_eq] at this
  exact this.symm
theorem beN_small {l : List UInt8} {i : Nat} (hi : i < l.length) (hl : l.length ≤ 8) : beN (l.take i) < 72057594037927936 := by
  have h1 := beN_lt (l.take i)
  have h2 : (l.take i).length ≤ 7 := by rw [List.length_take]; omega
  have h3 : 256 ^ (l.take i).length ≤ 256 ^ 7 := Nat.pow_le_pow_right (by decide) h2
  have e : (256 : Nat) ^ 7 = 72057594037927936 := rfl
  omega
theorem bytes_step {m n i : Nat} (hi : i < m) : (List.replicate (m - i) 0 ++ (beL m n).drop (m - i)).set (m - 1 - i) (UInt8.ofNat (n / 2 ^ (8 * i))) = List.replicate (m - (i + 1)) 0 ++ (beL m n).drop (m - (i + 1)) := by
  have e : m - i = (m - (i + 1)) + 1 := by omega
  rw [List.set_append_left _ _ (by rw [List.length_replicate]; omega), e, List.replicate_succ', List.set_append_right _ _ (by rw [List.length_replicate]; omega), List.length_replicate, show m - 1 - i - (m - (i + 1)) = 0 by omega, List.set_cons_zero, List.append_assoc]
  congr 1
  have hg := beL_get (k := m) (n := n) (j := m - (i + 1)) (by omega)
  rw [show m - 1 - (m - (i + 1)) = i by omega] at hg
  exact (drop_at hg).symm
end Go.Proofs.Ytjncbpmigpocbaa
