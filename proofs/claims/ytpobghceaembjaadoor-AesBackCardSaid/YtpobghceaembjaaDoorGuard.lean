/- A whole array read under a guard that is met. -/
import Derived.Test.YtpobghceaembjaaDoorKit
namespace Go.Proofs.YtpobghceaembjaaDoor
open Go Go.RowKit

theorem wpList_load_RowG {P : Program} {w : World} {ops : Array Oper} {rest : List Oper} {o : Oper} {a : Act} {Q : Exit → Act → World → Prop} (ty : TypeId) (x : Operand) (ho : o.op = .load ty x) (hw : Region.wanted o (yielded ops a.tmps) = true)
    (g : Nat) (hx : a.eval x = .pointer (some ⟨g, 0, none⟩)) (t : TypeId) (n : Nat) (f : Nat → UInt8) (e : TypeId) (hg : Row w g t n f) (hu : P.underlying ty = some (.array n e)) (hi : (P.info? ty).map (·.size) = some n)
    (h : wpList P ops Q rest (a.put o.dst (.agg (row n f))) w) : wpList P ops Q (o :: rest) a w := by
  refine wpList_step fun K hK => ?_
  rw [if_pos hw]
  exact wp_load_row ty x ho g hx t (row n f) (0, 0) _ hg hu rfl (by rw [hi, row_size]) (hK _ _ h)
end Go.Proofs.YtpobghceaembjaaDoor
