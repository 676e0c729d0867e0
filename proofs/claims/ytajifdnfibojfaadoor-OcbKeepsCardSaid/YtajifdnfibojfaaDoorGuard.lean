/- A whole array read under a guard that is met. -/
import Derived.Test.YtajifdnfibojfaaDoorKit
namespace Go.Proofs.YtajifdnfibojfaaDoor
open Go Go.RowKit

theorem wpList_load_RowG {P : Program} {w : World} {ops : Array Oper} {rest : List Oper} {o : Oper} {a : Act} {Q : Exit → Act → World → Prop} (ty : TypeId) (x : Operand) (ho : o.op = .load ty x) (hw : Region.wanted o (yielded ops a.tmps) = true)
    (g : Nat) (hx : a.eval x = .pointer (some ⟨g, 0, none⟩)) (t : TypeId) (n : Nat) (f : Nat → UInt8) (e : TypeId) (hg : Row w g t n f) (hu : P.underlying ty = some (.array n e)) (hi : (P.info? ty).map (·.size) = some n)
    (h : wpList P ops Q rest (a.put o.dst (.agg (row n f))) w) : wpList P ops Q (o :: rest) a w := by
  refine wpList_step fun K hK => ?_
  rw [if_pos hw]
  exact wp_load_row ty x ho g hx t (row n f) (0, 0) _ hg hu rfl (by rw [hi, row_size]) (hK _ _ h)
/-- The last operation of a region: bytes copied into a block. -/
theorem Seq.copy_Row {P : Program} {ops : Array Oper} {S : World → Prop} {Q : Exit → Act → World → Prop} {o : Oper} {a : Act} (hwant : Region.wanted o (yielded ops a.tmps) = true) (d s : Operand) (dT sT : TypeId)
    (ho : o.op = .call { callee := .builtin .copy, args := #[d, s], argTypes := #[dT, sT] }) (e : TypeId) (hu : P.underlying dT = some (.slice e)) (hsz : (P.info? e).map (·.size) = some 1)
    (g off dLen dCap : Nat) (ad : Addr) (sLen sCap : Nat) (hd : a.eval d = .slice (some ⟨g, off, none⟩) dLen dCap) (hs : a.eval s = .slice (some ad) sLen sCap)
    (t : TypeId) (n : Nat) (f : Nat → UInt8) (hg : ∀ w, S w → Row w g t n f) (k : Nat) (fs : Nat → UInt8) (hk : k = Nat.min sLen dLen)
    (hsrc : ∀ w, S w → ∀ j, j < k → w.cell? (ad.add j) = some (.int .u8 ((fs j).toNat : Int))) (hfit : off + k ≤ n)
    (h : ∀ w, S w → Q .normal (a.put o.dst (goInt k)) (w.setRow g (row n (cpy off k f fs)))) : Seq P ops Q S [o] a := by
  refine Seq.last hwant fun w hS => ?_
  have hrun := run_copy_Row (P := P) dT sT o.type e g off dLen dCap ad sLen sCap k t n f fs hu hsz (hg w hS) hk (hsrc w hS) hfit
  unfold Oper.wp
  simp [execOp, ho, resolve, invoke, builtin, hd, hs, hrun, Result.andThen]
  exact h w hS
/-- An array of bytes read out of what came in. -/
theorem wpList_load_Cells {P : Program} {w : World} {ops : Array Oper} {rest : List Oper} {op : Oper} {a : Act} {Q : Exit → Act → World → Prop} (hgd : op.guard = none) (ty : TypeId) (x : Operand) (ho : op.op = .load ty x)
    (g o : Nat) (hx : a.eval x = .pointer (some ⟨g, o, none⟩)) (k : Nat) (f : Nat → UInt8) (e : TypeId) (hc : ∀ j, j < k → w.cell? ⟨g, o + j, none⟩ = some (.int .u8 ((f j).toNat : Int))) (hu : P.underlying ty = some (.array k e)) (hi : (P.info? ty).map (·.size) = some k)
    (h : wpList P ops Q rest (a.put op.dst (.agg (row k f))) w) : wpList P ops Q (op :: rest) a w := by
  refine wpList_load_mid hgd ty x ho g o hx (row k f).toList _ (fun j v hv => ?_) hu rfl (by rw [hi, Array.length_toList, row_size]) (by simpa using h)
  have hj : j < k := by
    have := (List.getElem?_eq_some_iff.1 hv).1
    simpa [row_size] using this
  rw [Array.getElem?_toList (xs := row k f), row_get _ _ _ hj] at hv
  obtain rfl := Option.some.inj hv
  exact hc j hj
end Go.Proofs.YtajifdnfibojfaaDoor
