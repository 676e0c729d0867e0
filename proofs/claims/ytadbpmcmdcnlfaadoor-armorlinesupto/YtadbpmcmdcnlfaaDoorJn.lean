/- Branches that come together; a walk that goes on over a world of its own; texts as data. Plain theorems, over any program. -/
import Derived.Test.YtadbpmcmdcnlfaaDoorOpS
namespace Go.Proofs.YtadbpmcmdcnlfaaDoor
open Go Go.RowKit

section
variable {P : Program} {Q : Exit → Act → World → Prop} {w w0 : World} {n : Sz} {l l' : Slots} {x y : Code} {fn : Func} {σ : Type}
def qJoin (n : Sz) (fr : σ → Slots) (I : σ → World → Prop) (a : Act) (w : World) : Prop := ∃ z, Fr n (fr z) a ∧ I z w
/-- Whatever way has been gone, what is left is told by σ. -/
theorem cxJoin (fr : σ → Slots) (I : σ → World → Prop) (h1 : CX P (Exit.then (qJoin n fr I) Q) x n l w) (h2 : ∀ z w, I z w → CX P Q y n (fr z) w) : CX P Q (.seq x y) n l w := fun a hF => by
  refine wp_seq (wp_mono (h1 a hF) fun e a w q => ?_)
  cases e with
  | normal =>
    obtain ⟨z, hz, hI⟩ := q
    exact h2 z w hI a hz
  | _ => exact q
theorem qxJoin {fr : σ → Slots} {I : σ → World → Prop} (z : σ) (hI : I z w) (hfr : ∀ q ∈ fr z, q ∈ l) : QX (Exit.then (qJoin n fr I) Q) .normal n l w := fun _ hF => ⟨z, hF.of hfr, hI⟩
/-! ### Another world to begin with -/
theorem mono_then {P : Program} {Q Q' : Exit → Act → World → Prop} {y : Code} (h : ∀ e a w, Q e a w → Q' e a w) : ∀ e a w, Exit.then (y.wp P Q) Q e a w → Exit.then (y.wp P Q') Q' e a w := fun e a w q => by
  cases e with
  | normal => exact wp_mono q h
  | _ => exact h _ _ _ q
theorem mono_block {Q Q' : Exit → Act → World → Prop} {id : Nat} (h : ∀ e a w, Q e a w → Q' e a w) : ∀ e a w, Exit.inBlock id Q e a w → Exit.inBlock id Q' e a w := fun e a w q => by
  cases e with
  | exit j =>
    show (if j = id then Q' .normal a w else Q' (.exit j) a w)
    have q' : (if j = id then Q .normal a w else Q (.exit j) a w) := q
    split
    · rename_i hj; rw [if_pos hj] at q'; exact h _ _ _ q'
    · rename_i hj; rw [if_neg hj] at q'; exact h _ _ _ q'
  | _ => exact h _ _ _ q
theorem hold_trans {L E : Hl} {w' : World} (h : Hold w0 [] L w) (hE : Hold w [] E w') : Hold w0 [] E w' := by
  have h0 : Hold w0 [] ([] ++ ([] ++ [])) w := Hold.sub h (List.nil_sublist _)
  have := h0.frameE (E := []) hE
  simpa using this
theorem mono_post {R R' : Ending → World → Prop} (h : ∀ e w, R e w → R' e w) : ∀ e a w, bodyPost P fn R e a w → bodyPost P fn R' e a w := fun e a w q => by
  unfold bodyPost at *
  cases e <;> first | exact q | exact h _ _ q | skip
  all_goals first
    | (obtain ⟨h1, v, hv, hR⟩ := q; exact ⟨h1, v, hv, h _ _ hR⟩)
    | (obtain ⟨h1, h2⟩ := q; exact ⟨h1, h _ _ h2⟩)
    | exact LeavesIn.mono h q
/-- The rest of a walk, over the world at hand. -/
theorem mono_base {post : Value → Hl → Prop} {Hs : List Hl} (hH : HH w0 [] Hs w) : ∀ e a u, bodyPost P fn (fun e w' => ∃ v E', e = .returned v ∧ post v E' ∧ Hold w (bks []) E' w') e a u → bodyPost P fn (fun e w' => ∃ v E', e = .returned v ∧ post v E' ∧ Hold w0 (bks []) E' w') e a u :=
  mono_post fun _ _ ⟨v, E', h1, h2, h3⟩ => ⟨v, E', h1, h2, hold_trans hH h3⟩
theorem mono_baseP {v : Value} {Hs : List Hl} (hH : HH w0 [] Hs w) : ∀ e a u, bodyPost P fn (fun e w' => e = .returned v ∧ Below w.heap.size w w') e a u → bodyPost P fn (fun e w' => e = .returned v ∧ Below w0.heap.size w0 w') e a u :=
  mono_post fun _ _ ⟨h1, h2⟩ => ⟨h1, hH.toBelow.trans (h2.mono (Hold.toBelow hH).size)⟩
end
/-- Texts, as data. -/
def cTx : Cod (List UInt8) := cMap strL cStr
end Go.Proofs.YtadbpmcmdcnlfaaDoor
