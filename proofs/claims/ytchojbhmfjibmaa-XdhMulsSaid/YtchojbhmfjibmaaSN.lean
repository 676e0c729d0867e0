/- A region that draws its order and makes one variable, of structs of four words: as it is walked. Plain theorems, over any program. -/
import Derived.Test.YtchojbhmfjibmaaRegA
import Derived.Test.YtchojbhmfjibmaaBes
namespace Go.Proofs.Ytchojbhmfjibmaa
open Go Go.RowKit
section
variable {P : Program} {ops : Array Oper} {Q : Exit → Act → World → Prop} {S : World → Prop}
/-- S holds, and T of what is made, once it is. -/
def SN (S : World → Prop) (T : Nat → World → Prop) (og : Option Nat) (w : World) : Prop := S w ∧ ∀ g, og = some g → T g w
theorem MakesN.blk {o : Oper} {a : Act} (hwant : Region.wanted o (yielded ops a.tmps) = true) (ty : TypeId) (ho : o.op = .alloc ty) (cs : Array Value) (hz : (P.info? ty).bind (·.zero) = some (.agg cs)) (B : Nat) (hB : ∀ w, S w → B ≤ w.heap.size)
    (hS : ∀ w, S w → S (w.alloc (.cells cs ty))) : Makes P ops (SN S fun g w => Blk w g ty cs ∧ B ≤ g) o a :=
  ⟨hwant, fun w hw => ⟨w.heap.size, w.alloc (.cells cs ty), by unfold execOp; simp only [ho, Sem.run_bind, Sem.run_pure, Result.andThen_ok, run_alloc_Blk ty cs hz], hS w hw.1, fun g e => by
    obtain rfl := Option.some.inj e
    exact ⟨Blk.new _ _ _, hB w hw.1⟩⟩⟩
theorem SureN.call {ty : TypeId} {cs : Array Value} {B : Nat} {og : Option Nat} {o : Oper} {v : Value} {a : Act} {f : FuncId} {args : Array Value} (hwant : Region.wanted o (yielded ops a.tmps) = true) (hr : ∀ w, (execOp a.eval o).run P w = .ok (.enter f args) w)
    (h : ∀ w, S w → Calls P f args w fun e w' => e = .returned v ∧ Below w.heap.size w w' ∧ S w') : Sure P ops (SN S (fun g w => Blk w g ty cs ∧ B ≤ g) og) o v a :=
  Sure.call hwant hr fun w hw => (h w hw.1).mono fun _ _ ⟨he, hb, hs⟩ => ⟨he, hs, fun g e => ⟨(hw.2 g e).1.below hb (hw.2 g e).1.lt, (hw.2 g e).2⟩⟩
theorem Sure.load_W4 {S : World → Prop} {o : Oper} {a : Act} (hwant : Region.wanted o (yielded ops a.tmps) = true) (ty : TypeId) (x : Operand) (ho : o.op = .load ty x)
    (g : Nat) (hx : a.eval x = .pointer (some ⟨g, 0, none⟩)) (t : TypeId) (cs : Array Value) (hg : ∀ w, S w → Blk w g t cs) (hdd : (P.underlying ty).map (·.isRow) = some true) (hi : (P.info? ty).map (·.size) = some cs.size) :
    Sure P ops S o (.agg cs) a := by
  obtain ⟨d, hu, hdr⟩ := isRow_desc hdd
  exact Sure.val hwant fun w hw => by
    unfold execOp
    simp only [ho, hx, Instr.loadAt, Instr.sureAddr, Sem.run_bind, Sem.run_pure, Result.andThen_ok, run_loadVar_row w g t ty _ _ d (hg w hw) hu (by cases d <;> first | rfl | cases hdr) hi]
theorem SeqG.store_N {SS : Option Nat → World → Prop} {o : Oper} {A : Nat → Act} (hwant : ∀ g, Region.wanted o (yielded ops (A g).tmps) = true) (ty : TypeId) (x y : Operand) (ho : o.op = .store ty x y)
    (hx : ∀ g, (A g).eval x = .pointer (some ⟨g, 0, none⟩)) (t : TypeId) (old cells : Array Value) (hy : ∀ g, (A g).eval y = .agg cells) (hg : ∀ g w, SS (some g) w → Blk w g t old) (hi : (P.info? ty).map (·.size) = some cells.size) (hold : old.size = cells.size) (h1 : cells.all (·.oneCell') = true)
    (h : ∀ g w, SS (some g) w → Q .normal ((A g).put o.dst undef) (w.setRow g cells)) : SeqG P ops Q SS [o] A true :=
  SeqG.last hwant fun g w hS => wp_store_row ty x y ho g cells (hx g) (hy g) t old (hg g w hS) hi hold h1 (h g w hS)
end
end Go.Proofs.Ytchojbhmfjibmaa
