/- In a round of a range over a function, regions are walked as everywhere. Plain theorems, over any program. -/
import Derived.Test.YticflflbogdljaaDoorReg
import Derived.RangeFuncNested
import Derived.RangeFuncBound
import Derived.RangeFuncCalls
import Derived.RangeFuncLeaves
import Derived.OrdersIn
import Derived.TacticsInMore
namespace Go.Proofs.YticflflbogdljaaDoor
open Go

section
variable {P : Program} {ops : Array Oper} {Q : Exit → Act → World → Prop} {md : Region.Mode} {S : World → Prop} {n l : Nat}

def noDefer (o : Oper) : Bool := match o.op with | .defer _ => false | _ => true
theorem noDefer_spec {o : Oper} (h : noDefer o = true) : ∀ c, o.op ≠ .defer c := by
  intro c hc
  simp [noDefer, hc] at h

theorem opIn_of {o : Oper} {a : Act} {w : World} {K : Act → World → Prop} (hd : noDefer o = true) (h : o.wp P a w K Q) : o.wpIn (Fence.wide.inRound l) n P a w K Q := by
  refine ⟨fun _ _ => trivial, ?_⟩
  rw [Fence.inRound_round, Oper.semAt_some l _ o (noDefer_spec hd)]
  unfold Oper.wp at h
  revert h
  generalize (execOp a.eval o).run P w = r
  intro h
  cases r with
  | ok x w' =>
    cases x with
    | enter f args => exact ⟨fun hh => by simp [Fence.inRound, Fence.wide] at hh, CallsIn.inRound l (callsIn_wide.2 h)⟩
    | row rw' args =>
      refine ⟨fun hh => by simp [Fence.inRound, Fence.wide] at hh, fun c cs _ => ?_⟩
      obtain ⟨v, w2, r, s⟩ := h c cs
      exact ⟨v, w2, r, by rw [fenced_inRound]; exact stepsIn_wide.2 s⟩
    | round _ _ _ _ _ => exact False.elim h
    | _ => exact h
  | halt x w' => cases x <;> exact h

theorem listIn_of (hno : ¬ LetsOut Q) : ∀ (rest : List Oper) (a : Act) (w : World), rest.all noDefer = true → wpList P ops Q rest a w → wpListIn (Fence.wide.inRound l) n P ops Q rest a w
  | [], _, _, _, h => h
  | o :: rest, a, w, hd, h => by
    simp only [List.all_cons, Bool.and_eq_true] at hd
    simp only [wpList] at h
    simp only [wpListIn]
    split
    · rename_i hw
      simp only [hw, if_true] at h
      rcases h with h | ⟨_, h⟩
      · exact Oper.wpIn_mono (fun a' w' hk => listIn_of hno rest a' w' hd.2 hk) (opIn_of hd.1 h)
      · exact (hno h).elim
    · rename_i hw
      simp only [hw] at h
      exact ⟨fun _ _ => trivial, listIn_of hno rest _ w hd.2 h⟩

/-- What the walk need not see. -/
def HidK (K : Act → World → Prop) (Q : Exit → Act → World → Prop) : Prop := ∀ a w, Q .normal a w → K a w
abbrev Only (K : Act → World → Prop) : Exit → Act → World → Prop := Exit.then K fun _ _ _ => False

/-- A region, in a round, walked as everywhere. -/
theorem region_in {id : Nat} {ls : List Oper} {a : Act} {w : World} (hd : ls.all noDefer = true) (h : ∀ K : Act → World → Prop, HidK K Q → wpList P ls.toArray (Only K) ls a w) :
    (Code.region id ls.toArray false).wpIn (Fence.wide.inRound l) n P Q a w :=
  Code.wpIn_mono (fun e a w q => by cases e <;> first | exact q | exact q.elim) (wpIn_region_lit (Q := Only fun a w => Q .normal a w) (listIn_of (fun ⟨_, _, h⟩ => h) ls a w hd (h _ fun _ _ h => h)))

theorem Sure.wp {o : Oper} {v : Value} {a : Act} {w : World} {K : Act → World → Prop} (h : ∀ w, S w → SureR P S v ((execOp a.eval o).run P w)) (hS : S w) (hK : ∀ w', S w' → K (a.put o.dst v) w') : o.wp P a w K Q := by
  have h2 := h w hS
  unfold Oper.wp
  revert h2
  generalize (execOp a.eval o).run P w = r
  intro h2
  cases r with
  | ok x w' =>
    cases x with
    | value u => obtain ⟨rfl, hS'⟩ := h2; exact hK _ hS'
    | skip => obtain ⟨rfl, hS'⟩ := h2; exact hK _ hS'
    | enter f args =>
      refine Calls.mono h2 ?_
      rintro e w'' ⟨rfl, hS'⟩
      exact hK _ hS'
    | _ => exact h2.elim
  | halt x w' => exact h2.elim

theorem Det.soundIn (hl : lastWaits md ops = true) (hnd : ops.all noDefer = true) : ∀ (m : Nat) (L : Array Bool) (a : Act), L.size = ops.size → Closed md ops L → Det P md ops Q S m L a → ∀ w, S w → wpAnyIn (Fence.wide.inRound l) n P md ops Q m L a w := by
  have hdef : ∀ {i : Nat} {o : Oper}, ops[i]? = some o → noDefer o = true := fun ho => (Array.all_eq_true_iff_forall_mem.1 hnd) _ (Array.mem_of_getElem? ho)
  intro m
  induction m with
  | zero => intro L a _ _ h w hw; exact ⟨h.1, h.2 w hw⟩
  | succ m ih =>
    intro L a hsz hc h w hw
    refine ⟨fun h0 => h.1 h0 w hw, fun i hi => ?_⟩
    rcases h.2 i hi with ⟨o, v, ho, hs, hd⟩ | ⟨hi1, ol, hol, hwl, hlast⟩
    · have hK : ∀ w', S w' → wpAnyIn (Fence.wide.inRound l) n P md ops Q m (L.setIfInBounds i true) (a.put o.dst v) w' := fun w' hw' => ih _ _ (by simpa using hsz) (hc.set hi) hd w' hw'
      unfold wpOpIn
      rcases hs with hs | ⟨hs, rfl⟩
      · simp only [ho, hs.1, if_true]
        exact opIn_of (hdef ho) (Sure.wp hs.2 hw hK)
      · simp only [ho, hs, Bool.false_eq_true, if_false]
        exact ⟨fun _ _ => trivial, hK w hw⟩
    · unfold wpOpIn
      simp only [hol, hwl, if_true]
      refine Oper.wpIn_mono (fun a' w' hQ => ?_) (opIn_of (hdef hol) (hlast w hw))
      have hready : Region.ready md ops (L.setIfInBounds i true) = [] := by
        refine ready_full (by simpa using hsz) fun k hk => ?_
        by_cases hki : i = k
        · subst hki
          have : i < L.size := by omega
          simp [Array.getD, this]
        · rw [getD_set_ne true hki]
          have hh : ¬ L.getD k true = false := fun hL => lastWaits_spec hl hc (k := k) (by omega) hL (by
            have : ops.size - 1 = i := by omega
            rw [this]; exact hi)
          simpa using hh
      cases m with
      | zero => exact ⟨hready, hQ⟩
      | succ m => exact ⟨fun _ => hQ, by rw [hready]; simp⟩

/-- A region that draws its order, in a round. -/
theorem region_seq_in (S : World → Prop) {id : Nat} {ls : List Oper} {a : Act} {w : World} (hm : P.follows .mixedOrders = true) (hok : textOk .any ls.toArray = true) (hnd : ls.all noDefer = true) (hn : ls ≠ [])
    (hS : S w.drew) (h : Seq P ls.toArray Q S ls a) : (Code.region id ls.toArray true).wpIn (Fence.wide.inRound l) n P Q a w := by
  refine wpIn_region_any hm ?_
  have hlen : 0 < ls.toArray.size := by
    cases ls with
    | nil => exact absurd rfl hn
    | cons x xs => simp
  have hd := Det.of_seq (md := .any) hok ls.toArray.size 0 a (by omega) hlen (by rw [pre_zero]; exact Closed.none _ _) (by simpa using h)
  rw [pre_zero] at hd
  have hl : lastWaits .any ls.toArray = true := by
    simp only [textOk, Bool.and_eq_true] at hok
    exact hok.1.1.2
  exact Det.soundIn hl (by simpa using hnd) _ _ a (by simp) (Closed.none _ _) hd _ hS
end
end Go.Proofs.YticflflbogdljaaDoor
