/- Regions in which a call makes memory of its own beside loads: the loads are taken first, the rest is forced. Results of two parts. -/
import Derived.Test.YtajifdnfibojfaaDoorKit
import Derived.OrdersHeld
namespace Go.Proofs.YtajifdnfibojfaaDoor
open Go Go.RowKit

section
variable {P : Program} {ops : Array Oper} {Q : Exit → Act → World → Prop} {S : World → Prop}
theorem held_begin (S : World → Prop) {id : Nat} {a : Act} {w : World} (hm : P.follows .mixedOrders = true) (hS : S w.drew) (h : S w.drew → wpAnyH P .any ops Q S ops.size (Array.replicate ops.size false) a w.drew) :
    (Code.region id ops true).wp P Q a w := wp_region_held hm (h hS)
theorem held_take (i : Nat) {oi : Oper} (d : Option Tmp) (hd : oi.dst = d) (v : Value) {fuel : Nat} {listed : Array Bool} {a : Act} {w : World} (hi : ops[i]? = some oi) (hs : Region.noSelect ops = true) (hf : Region.free .any ops listed i = true)
    (hr : (Region.ready .any ops listed).contains i = true) (hwant : Region.wanted oi (yielded ops a.tmps) = true) (hQ : ∀ c a w, Q (.panic c) (a.put oi.dst v) w → Q (.panic c) a w)
    (hy : ∀ w, S w → (execOp a.eval oi).run P w = .ok (.value v) w) (hS : S w) (h : wpAnyH P .any ops Q S fuel (listed.setIfInBounds i true) (a.put d v) w) : wpAnyH P .any ops Q S (fuel + 1) listed a w := by
  subst hd
  exact wpAnyH_take hi hs hf hr hQ (.inl ⟨hwant, hy⟩) hS h
theorem held_only (i : Nat) {o : Oper} {fuel : Nat} {listed : Array Bool} {a : Act} {w : World} (hi : ops[i]? = some o) (hr : Region.ready .any ops listed = [i]) (hwant : Region.wanted o (yielded ops a.tmps) = true)
    (h : o.wp P a w (fun a' w' => S w' ∧ wpAnyH P .any ops Q S fuel (listed.setIfInBounds i true) a' w') Q) : wpAnyH P .any ops Q S (fuel + 1) listed a w := by
  refine wpAnyH_all hr (by simp) fun j hj => ?_
  obtain rfl : j = i := by simpa using hj
  unfold wpOp
  simp only [hi, hwant, if_true]
  exact .inl h
theorem held_call (i : Nat) {o : Oper} (d : Option Tmp) (hd : o.dst = d) (f : FuncId) (args : Array Value) {fuel : Nat} {listed : Array Bool} {a : Act} {w : World} (hi : ops[i]? = some o) (hr : Region.ready .any ops listed = [i]) (hwant : Region.wanted o (yielded ops a.tmps) = true)
    (hres : ∀ w, (execOp a.eval o).run P w = .ok (.enter f args) w)
    (h : Calls P f args w fun e w' => ∃ v, e = .returned v ∧ S w' ∧ wpAnyH P .any ops Q S fuel (listed.setIfInBounds i true) (a.put d v) w') : wpAnyH P .any ops Q S (fuel + 1) listed a w := by
  subst hd
  refine held_only i hi hr hwant ?_
  unfold Oper.wp
  rw [hres w]
  refine h.mono ?_
  rintro e w' ⟨v, rfl, h1, h2⟩
  exact ⟨h1, h2⟩
theorem held_store_Row (i : Nat) {o : Oper} (hd : o.dst = none) {fuel : Nat} {listed : Array Bool} {a : Act} {w : World} (hi : ops[i]? = some o) (hr : Region.ready .any ops listed = [i]) (hwant : Region.wanted o (yielded ops a.tmps) = true)
    (ty : TypeId) (x y : Operand) (ho : o.op = .store ty x y)
    (g : Nat) (hx : a.eval x = .pointer (some ⟨g, 0, none⟩)) (t : TypeId) (n : Nat) (f f' : Nat → UInt8) (hy : a.eval y = .agg (row n f')) (hg : Row w g t n f) (hsz : (P.info? ty).map (·.size) = some n)
    (h : S (w.setRow g (row n f')) ∧ wpAnyH P .any ops Q S fuel (listed.setIfInBounds i true) a (w.setRow g (row n f'))) : wpAnyH P .any ops Q S (fuel + 1) listed a w :=
  held_only i hi hr hwant (wp_store_Row ty x y ho g hx t n f f' hy hg hsz (by rw [hd]; exact h))
theorem held_end {fuel : Nat} {listed : Array Bool} {a : Act} {w : World} (hr : Region.ready .any ops listed = []) (h : Q .normal a w) : wpAnyH P .any ops Q S fuel listed a w := wpAnyH_done hr h fuel
theorem exec_load_Row {w : World} {o : Oper} {a : Act} (ty : TypeId) (x : Operand) (ho : o.op = .load ty x)
    (g : Nat) (hx : a.eval x = .pointer (some ⟨g, 0, none⟩)) (t : TypeId) (n : Nat) (f : Nat → UInt8) (e : TypeId) (hg : Row w g t n f) (hu : P.underlying ty = some (.array n e)) (hi : (P.info? ty).map (·.size) = some n) :
    (execOp a.eval o).run P w = .ok (.value (.agg (row n f))) w := by
  unfold execOp
  simp only [ho, hx, Instr.loadAt, Instr.sureAddr, Sem.run_bind, Sem.run_pure, Result.andThen_ok, run_loadVar_row w g t ty _ _ _ hg hu rfl (by rw [hi, row_size])]
/-- The end of a function of two results, the first an array of bytes in a block. -/
theorem ret_Row_tmp {w : World} {fn : Func} {R : Ending → World → Prop} {a : Act} {p t2 : Tmp} {ty : TypeId} (h : fn.results = #[.cell p ty, .tmp t2]) (hd : a.defers = []) (g : Nat) (t : TypeId) (n : Nat) (f : Nat → UInt8) (e : TypeId) (v : Value)
    (hp : a.tmps.getD p undef = .pointer (some ⟨g, 0, none⟩)) (hv : a.tmps.getD t2 undef = v) (hg : Row w g t n f) (hu : P.underlying ty = some (.array n e)) (hi : (P.info? ty).map (·.size) = some n)
    (hR : R (.returned (.tuple #[.agg (row n f), v])) w) : bodyPost P fn R .ret a w := by
  have hp' : a.tmps[p]?.getD undef = .pointer (some ⟨g, 0, none⟩) := by simpa using hp
  have hv' : a.tmps[t2]?.getD undef = v := by simpa using hv
  exact bodyPost_ret (v := .tuple #[.agg (row n f), v]) (by simp [results, h, hp', hv', asAddr, run_loadVar_row w g t ty _ _ _ hg hu rfl (by rw [hi, row_size])]) hd hR
end
end Go.Proofs.YtajifdnfibojfaaDoor
