/- What the claim leans on, part 1: plain theorems, and walks of functions of the program and of the document. -/
import Derived.OrdersHeld
import Derived.Laws.World
import Derived.RangeFuncNested
import Derived.RangeFuncBound
import Derived.RangeFuncCalls
import Derived.RangeFuncLeaves
import Derived.OrdersIn
import Derived.TacticsInMore
import Derived.Tactics
import Derived.Tactics2
import Derived.WalkKit
import Derived.Below
import Derived.Deep.Draws
import Derived.Deep.MidRow
import Derived.Laws.Rows
import Derived.Laws.Tables
import Derived.Laws.CopyRow
import Derived.Laws.MakeOwn
import Derived.Laws.BitsAllLaws
import Derived.Lib.Hide
import Derived.KernelRfl
import Derived.Great.Ranges
import Derived.IntWalk
import Derived.Laws.AppendOwn
import Derived.Laws.AppendOwnNone
import Derived.Laws.OwnMore
import Derived.Laws.IdiomStrings
import Derived.Great.BuildSlice
import Derived.Great.FillDense
import Derived.OwnWalk
import Derived.Scope
import Derived.Laws.Cover3
import Derived.Laws.ResultCell
import Derived.ChangeKeysEq
import Derived.Lib.SlBytesConst
namespace Go.Proofs.YtfloiekaiiapnaaGreatDoor
open Go

section
variable {P : Program} {ops : Array Oper} {Q : Exit → Act → World → Prop} {md : Region.Mode} {S : World → Prop}

def SureR (P : Program) (S : World → Prop) (v : Value) : Result Next → Prop
  | .ok (.value u) w => u = v ∧ S w
  | .ok .skip w => undef = v ∧ S w
  | .ok (.enter f args) w => Calls P f args w fun e w' => e = .returned v ∧ S w'
  | _ => False

def Sure (P : Program) (ops : Array Oper) (S : World → Prop) (o : Oper) (v : Value) (a : Act) : Prop :=
  (Region.wanted o (yielded ops a.tmps) = true ∧ ∀ w, S w → SureR P S v ((execOp a.eval o).run P w)) ∨ (Region.wanted o (yielded ops a.tmps) = false ∧ v = undef)

theorem Sure.of_same {o : Oper} {v : Value} {a a' : Act} (h : Sure P ops S o v a) (he : execOp a'.eval o = execOp a.eval o)
    (hw : Region.wanted o (yielded ops a'.tmps) = Region.wanted o (yielded ops a.tmps)) : Sure P ops S o v a' := by
  unfold Sure at *
  rw [he, hw]
  exact h

theorem Sure.wpOp {i : Nat} {o : Oper} {v : Value} {a : Act} (hi : ops[i]? = some o) (h : Sure P ops S o v a) {K : Act → World → Prop} {w : World} (hS : S w)
    (hK : ∀ w', S w' → K (a.put o.dst v) w') : wpOp P ops Q i K a w := by
  unfold Go.wpOp
  rcases h with h | ⟨h, rfl⟩
  case inr => simp only [hi, h, Bool.false_eq_true, if_false]; exact hK w hS
  simp only [hi, h.1, if_true]
  have h2 := h.2 w hS
  left
  unfold Oper.wp
  revert h2
  generalize (execOp a.eval o).run P w = r
  intro h2
  cases r with
  | ok n w' =>
    cases n with
    | value u => obtain ⟨rfl, hS'⟩ := h2; exact hK _ hS'
    | skip => obtain ⟨rfl, hS'⟩ := h2; exact hK _ hS'
    | enter f args =>
      refine Calls.mono h2 ?_
      rintro e w'' ⟨rfl, hS'⟩
      exact hK _ hS'
    | _ => exact h2.elim
  | halt x w' => exact h2.elim

/-- Operation j waits for operation k, at most f steps away. -/
def waitsFor (md : Region.Mode) (ops : Array Oper) : Nat → Nat → Nat → Bool
  | 0, _, _ => false
  | f + 1, j, k => match ops[j]? with
    | none => false
    | some o => o.after.any (fun e => Region.binds md e && e.on == k) || o.after.any (fun e => Region.binds md e && waitsFor md ops f e.on k)
/-- The last operation waits for each of the others. -/
def lastWaits (md : Region.Mode) (ops : Array Oper) : Bool :=
  (List.range (ops.size - 1)).all fun k => waitsFor md ops 6 (ops.size - 1) k || waitsFor md ops 12 (ops.size - 1) k

/-- What is listed stands behind what it waits for. -/
def Closed (md : Region.Mode) (ops : Array Oper) (L : Array Bool) : Prop :=
  ∀ j o, ops[j]? = some o → L.getD j true = true → ∀ e ∈ o.after, Region.binds md e = true → L.getD e.on false = true

theorem getD_up {L : Array Bool} {m : Nat} (h : L.getD m false = true) : L.getD m true = true := by
  rcases Nat.lt_or_ge m L.size with h' | h'
  · simp [Array.getD, h'] at h ⊢; exact h
  · simp [Array.getD, Nat.not_lt.2 h']
theorem getD_down {L : Array Bool} {m : Nat} (h : L.getD m true = false) : L.getD m false = false := by
  rcases Nat.lt_or_ge m L.size with h' | h'
  · simp [Array.getD, h'] at h ⊢; exact h
  · simp [Array.getD, Nat.not_lt.2 h']

theorem waitsFor_spec {L : Array Bool} (hc : Closed md ops L) (k : Nat) : ∀ f j, waitsFor md ops f j k = true → (∀ o, ops[j]? = some o → ∀ e ∈ o.after, Region.binds md e = true → L.getD e.on false = true) → L.getD k false = true := by
  intro f
  induction f with
  | zero => intro j h; cases h
  | succ f ih =>
    intro j h hall
    unfold waitsFor at h
    cases hj : ops[j]? with
    | none => rw [hj] at h; cases h
    | some o =>
      rw [hj] at h
      simp only [Bool.or_eq_true, Array.any_eq_true', Bool.and_eq_true, beq_iff_eq] at h
      rcases h with ⟨e, he, hb, rfl⟩ | ⟨e, he, hb, hw⟩
      · exact hall o hj e he hb
      · exact ih e.on hw fun o' ho' e' he' hb' => hc e.on o' ho' (getD_up (hall o hj e he hb)) e' he' hb'

theorem Closed.set {L : Array Bool} (hc : Closed md ops L) {i : Nat} (hi : i ∈ Region.ready md ops L) : Closed md ops (L.setIfInBounds i true) := by
  intro j o hj hL e he hb
  obtain ⟨_, oi, hoi, hall⟩ := mem_ready.1 hi
  have up : ∀ m, L.getD m false = true → (L.setIfInBounds i true).getD m false = true := fun m hm => by
    by_cases h : i = m
    · subst h
      rcases Nat.lt_or_ge i L.size with h' | h'
      · simp [Array.getD, h']
      · simp [Array.getD, Nat.not_lt.2 h'] at hm
    · rw [getD_set_ne false h]; exact hm
  by_cases hij : i = j
  · subst hij
    rw [hoi] at hj
    obtain rfl := Option.some.inj hj
    exact up _ (hall e he hb)
  · rw [getD_set_ne true hij] at hL
    exact up _ (hc j o hj hL e he hb)
theorem Closed.none (md : Region.Mode) (ops : Array Oper) : Closed md ops (Array.replicate ops.size false) := by
  intro j o hj hL
  have hlt : j < ops.size := (Array.getElem?_eq_some_iff.1 hj).1
  simp [Array.getD, hlt] at hL

theorem lastWaits_spec (h : lastWaits md ops = true) {L : Array Bool} (hc : Closed md ops L) {k : Nat} (hk : k + 1 < ops.size) (hL : L.getD k true = false) :
    ops.size - 1 ∉ Region.ready md ops L := by
  intro hr
  have h1 := List.all_eq_true.1 h k (List.mem_range.2 (by omega))
  obtain ⟨_, o, ho, hall⟩ := mem_ready.1 hr
  rcases (Bool.or_eq_true _ _).mp h1 with h1 | h1
  · have h2 := waitsFor_spec hc k 6 _ h1 (fun o' ho' => by rw [ho] at ho'; obtain rfl := Option.some.inj ho'; exact hall)
    rw [getD_down hL] at h2
    cases h2
  · have h2 := waitsFor_spec hc k 12 _ h1 (fun o' ho' => by rw [ho] at ho'; obtain rfl := Option.some.inj ho'; exact hall)
    rw [getD_down hL] at h2
    cases h2

def Det (P : Program) (md : Region.Mode) (ops : Array Oper) (Q : Exit → Act → World → Prop) (S : World → Prop) : Nat → Array Bool → Act → Prop
  | 0, L, a => Region.ready md ops L = [] ∧ ∀ w, S w → Q .normal a w
  | n + 1, L, a => (Region.ready md ops L = [] → ∀ w, S w → Q .normal a w) ∧ ∀ i ∈ Region.ready md ops L,
      (∃ o v, ops[i]? = some o ∧ Sure P ops S o v a ∧ Det P md ops Q S n (L.setIfInBounds i true) (a.put o.dst v)) ∨
      (i + 1 = ops.size ∧ ∃ o, ops[i]? = some o ∧ Region.wanted o (yielded ops a.tmps) = true ∧ ∀ w, S w → o.wp P a w (fun a' w' => Q .normal a' w') Q)

theorem ready_full {L : Array Bool} (_ : L.size = ops.size) (h : ∀ k, k < ops.size → L.getD k true = true) : Region.ready md ops L = [] := by
  rw [List.eq_nil_iff_forall_not_mem]
  intro j hj
  obtain ⟨h0, o, ho, _⟩ := mem_ready.1 hj
  have hj' : j < ops.size := (Array.getElem?_eq_some_iff.1 ho).1
  rw [h j hj'] at h0; cases h0

theorem Det.sound (hl : lastWaits md ops = true) : ∀ (n : Nat) (L : Array Bool) (a : Act), L.size = ops.size → Closed md ops L → Det P md ops Q S n L a → ∀ w, S w → wpAny P md ops Q n L a w := by
  intro n
  induction n with
  | zero => intro L a _ _ h w hw; exact ⟨h.1, h.2 w hw⟩
  | succ n ih =>
    intro L a hsz hc h w hw
    refine ⟨fun h0 => h.1 h0 w hw, fun i hi => ?_⟩
    rcases h.2 i hi with ⟨o, v, ho, hs, hd⟩ | ⟨hi1, ol, hol, hwl, hlast⟩
    · exact hs.wpOp ho hw fun w' hw' => ih _ _ (by simpa using hsz) (hc.set hi) hd w' hw'
    · refine wpOp_mono (K := fun a' w' => Q .normal a' w') (fun a' w' hQ => ?_) (by unfold wpOp; simp only [hol, hwl, if_true]; exact .inl (hlast w hw))
      have hready : Region.ready md ops (L.setIfInBounds i true) = [] := by
        refine ready_full (by simpa using hsz) fun k hk => ?_
        by_cases hki : i = k
        · subst hki
          have : i < L.size := by omega
          simp [Array.getD, this]
        · rw [getD_set_ne true hki]
          have hh : ¬ L.getD k true = false := fun hL => lastWaits_spec hl hc (k := k) (by omega) hL (by
            have : ops.size - 1 = i := by omega
            rw [this]; exact hi)
          simpa using hh
      cases n with
      | zero => exact ⟨hready, hQ⟩
      | succ n => exact ⟨fun _ => hQ, by rw [hready]; simp⟩

theorem Det.take (hl : lastWaits md ops = true) {i : Nat} {oi : Oper} {v : Value} (hi : ops[i]? = some oi) (hsel : ∀ (j : Nat) (o : Oper) cs b, ops[j]? = some o → o.op ≠ .select cs b) (hil : i + 1 < ops.size) :
    ∀ (n : Nat) (L : Array Bool) (a : Act), L.size = ops.size → Closed md ops L →
      (∀ j oj, ops[j]? = some oj → j ≠ i → L.getD j true = false → (∀ e ∈ oj.after, Region.binds md e = true → e.on ≠ i) → oi.apart ops oj = true) →
      i ∈ Region.ready md ops L → Sure P ops S oi v a → Det P md ops Q S n (L.setIfInBounds i true) (a.put oi.dst v) → Det P md ops Q S (n + 1) L a := by
  intro n
  induction n with
  | zero =>
    intro L a _ _ _ hr hs H
    refine ⟨fun h => (by rw [h] at hr; cases hr), fun j hj => ?_⟩
    by_cases hji : j = i
    · subst hji; exact .inl ⟨oi, v, hi, hs, H⟩
    · have := ready_mono hj hji
      rw [H.1] at this
      cases this
  | succ n ih =>
    intro L a hsz hc hfree hr hs H
    refine ⟨fun h => (by rw [h] at hr; cases hr), fun j hj => ?_⟩
    by_cases hji : j = i
    · subst hji; exact .inl ⟨oi, v, hi, hs, H⟩
    · obtain ⟨hjun, oj, hoj, hall⟩ := mem_ready.1 hj
      have hnot : ∀ e ∈ oj.after, Region.binds md e = true → e.on ≠ i := fun e he hb heq => by
        have h1 := hall e he hb
        have h0 := (mem_ready.1 hr).1
        rw [heq] at h1
        rcases Nat.lt_or_ge i L.size with h' | h'
        · simp [h'] at h0 h1; rw [h0] at h1; cases h1
        · simp [Array.getElem?_eq_none h'] at h1
      have hap := hfree j oj hoj hji hjun hnot
      obtain ⟨h1, h2, h3⟩ := Oper.apart_spec hap
      rcases H.2 j (ready_mono hj hji) with ⟨o, u, ho, hsu, hd⟩ | ⟨hj1, _⟩
      · rw [hoj] at ho
        obtain rfl := Option.some.inj ho
        left
        refine ⟨oj, u, hoj, ?_, ?_⟩
        · exact hsu.of_same (execOp_put oj (fun cs b => hsel j oj cs b hoj) a oi.dst v h1).symm (wanted_put oj a oi.dst v h1).symm
        · have hfree' : ∀ k ok, ops[k]? = some ok → k ≠ i → (L.setIfInBounds j true).getD k true = false →
              (∀ e ∈ ok.after, Region.binds md e = true → e.on ≠ i) → oi.apart ops ok = true := fun k ok hk hki hun hno => by
            refine hfree k ok hk hki ?_ hno
            by_cases hjk : j = k
            · subst hjk; exact hjun
            · rw [getD_set_ne true hjk] at hun; exact hun
          refine ih (L.setIfInBounds j true) _ (by simpa using hsz) (hc.set hj) hfree' (ready_mono hr (Ne.symm hji)) ?_ ?_
          · exact hs.of_same (execOp_put oi (fun cs b => hsel i oi cs b hi) a oj.dst u h3) (wanted_put oi a oj.dst u h3)
          · rw [Array.setIfInBounds_comm _ _ hji, ← Act.put_comm a v u h2]
            exact hd
      · exfalso
        have hL : L.getD i true = false := (mem_ready.1 hr).1
        exact lastWaits_spec hl hc hil hL (by
          have : ops.size - 1 = j := by omega
          rw [this]; exact hj)

/-- Walked in the order of the text: each operation but the last has its one value; the last runs to the post. -/
def Seq (P : Program) (ops : Array Oper) (Q : Exit → Act → World → Prop) (S : World → Prop) : List Oper → Act → Prop
  | [], _ => False
  | [o], a => Region.wanted o (yielded ops a.tmps) = true ∧ ∀ w, S w → o.wp P a w (fun a' w' => Q .normal a' w') Q
  | o :: rest, a => ∃ v, Sure P ops S o v a ∧ Seq P ops Q S rest (a.put o.dst v)

def pre (n k : Nat) : Array Bool := ((List.range n).map fun j => decide (j < k)).toArray

theorem pre_size (n k : Nat) : (pre n k).size = n := by simp [pre]
theorem pre_zero (n : Nat) : pre n 0 = Array.replicate n false := by
  apply Array.ext <;> simp [pre]
theorem pre_succ (n k : Nat) : (pre n k).setIfInBounds k true = pre n (k + 1) := by
  apply Array.ext
  · simp [pre]
  · intro i h1 h2
    simp only [pre, List.getElem_toArray, List.getElem_map, List.getElem_range]
    by_cases h : k = i
    · simp [h]
    · have : (i < k + 1) = (i < k) := by apply propext; omega
      simp [h, this]

/-- The text's own order is one that the edges allow, and each operation is apart from those that do not wait for it. -/
def textOk (md : Region.Mode) (ops : Array Oper) : Bool :=
  Region.noSelect ops && lastWaits md ops && (List.range (ops.size - 1)).all (fun k => (Region.ready md ops (pre ops.size k)).contains k && Region.free md ops (pre ops.size k) k) && (Region.ready md ops (pre ops.size (ops.size - 1)) == [ops.size - 1])

theorem Det.of_seq (hok : textOk md ops = true) : ∀ (n k : Nat) (a : Act), k + n = ops.size → 0 < n → Closed md ops (pre ops.size k) → Seq P ops Q S (ops.toList.drop k) a → Det P md ops Q S n (pre ops.size k) a := by
  simp only [textOk, Bool.and_eq_true, List.all_eq_true, List.mem_range, beq_iff_eq] at hok
  obtain ⟨⟨⟨hsel, hl⟩, hall⟩, hlast⟩ := hok
  intro n
  induction n with
  | zero => intro k a _ h; omega
  | succ n ih =>
    intro k a hk _ hc hs
    have hkl : k < ops.size := by omega
    have hko : ops[k]? = some ops[k] := Array.getElem?_eq_getElem hkl
    rw [List.drop_eq_getElem_cons (by simpa using hkl)] at hs
    cases n with
    | zero =>
      have e : ops.toList.drop (k + 1) = [] := List.drop_eq_nil_of_le (by simp; omega)
      rw [e] at hs
      have hk1 : ops.size - 1 = k := by omega
      rw [hk1] at hlast
      refine ⟨fun h => (by rw [hlast] at h; cases h), fun i hi => ?_⟩
      rw [hlast] at hi
      obtain rfl : i = k := by simpa using hi
      obtain ⟨hwant, hrun⟩ := hs
      simp only [Array.getElem_toList] at hwant hrun
      exact .inr ⟨by omega, _, hko, hwant, hrun⟩
    | succ n =>
      have hne : ∃ o rest, ops.toList.drop (k + 1) = o :: rest := by
        rw [List.drop_eq_getElem_cons (by simp; omega)]
        exact ⟨_, _, rfl⟩
      obtain ⟨o', rest', e⟩ := hne
      rw [e] at hs
      obtain ⟨v, hsure, hrest⟩ := hs
      rw [← e] at hrest
      simp only [Array.getElem_toList] at hsure hrest
      obtain ⟨hr, hf⟩ := hall k (by omega)
      refine Det.take hl hko (Region.noSelect_spec hsel) (by omega) (n + 1) _ a (pre_size _ _) hc (Region.free_spec hko hf) (by simpa using hr) hsure ?_
      have hc' := hc.set (i := k) (by simpa using hr)
      rw [pre_succ] at hc' ⊢
      exact ih (k + 1) _ (by omega) (by omega) hc' hrest

theorem region_seq (S : World → Prop) {id : Nat} {l : List Oper} {a : Act} {w : World} (hm : P.follows .mixedOrders = true) (hok : textOk .any l.toArray = true) (hn : l ≠ [])
    (hS : S w.drew) (h : Seq P l.toArray Q S l a) : (Code.region id l.toArray true).wp P Q a w := by
  refine wp_region_any hm ?_
  have hlen : 0 < l.toArray.size := by
    cases l with
    | nil => exact absurd rfl hn
    | cons x xs => simp
  have hd := Det.of_seq (md := .any) hok l.toArray.size 0 a (by omega) hlen (by rw [pre_zero]; exact Closed.none _ _) (by simpa using h)
  rw [pre_zero] at hd
  have hl : lastWaits .any l.toArray = true := by
    simp only [textOk, Bool.and_eq_true] at hok
    exact hok.1.1.2
  exact Det.sound hl _ _ a (by simp) (Closed.none _ _) hd _ hS

theorem Seq.last {o : Oper} {a : Act} (hwant : Region.wanted o (yielded ops a.tmps) = true) (h : ∀ w, S w → o.wp P a w (fun a' w' => Q .normal a' w') Q) : Seq P ops Q S [o] a := ⟨hwant, h⟩
theorem Seq.next {o o' : Oper} {rest : List Oper} {a : Act} (v : Value) (hs : Sure P ops S o v a) (h : Seq P ops Q S (o' :: rest) (a.put o.dst v)) : Seq P ops Q S (o :: o' :: rest) a := ⟨v, hs, h⟩
/-- An operation whose value hangs on no world, or on what S says of it. -/
theorem Sure.val {o : Oper} {v : Value} {a : Act} (hwant : Region.wanted o (yielded ops a.tmps) = true) (h : ∀ w, S w → (execOp a.eval o).run P w = .ok (.value v) w) : Sure P ops S o v a :=
  .inl ⟨hwant, fun w hw => by rw [h w hw]; exact ⟨rfl, hw⟩⟩
end
end Go.Proofs.YtfloiekaiiapnaaGreatDoor

namespace Go.Proofs.YtfloiekaiiapnaaGreatDoor
open Go

section
variable {P : Program} {ops : Array Oper} {Q : Exit → Act → World → Prop} {md : Region.Mode} {S : World → Prop} {n l : Nat}

def noDefer (o : Oper) : Bool := match o.op with | .defer _ => false | _ => true
theorem noDefer_spec {o : Oper} (h : noDefer o = true) : ∀ c, o.op ≠ .defer c := by
  intro c hc
  simp [noDefer, hc] at h

theorem opIn_of {o : Oper} {a : Act} {w : World} {K : Act → World → Prop} (hd : noDefer o = true) (h : o.wp P a w K Q) : o.wpIn (Fence.wide.inRound l) n P a w K Q := by
  refine ⟨fun _ _ => trivial, ?_⟩
  rw [Fence.inRound_round, Oper.semAt_some l _ o (noDefer_spec hd)]
  unfold Oper.wp at h
  revert h
  generalize (execOp a.eval o).run P w = r
  intro h
  cases r with
  | ok x w' =>
    cases x with
    | enter f args => exact ⟨fun hh => by simp [Fence.inRound, Fence.wide] at hh, CallsIn.inRound l (callsIn_wide.2 h)⟩
    | row rw' args =>
      refine ⟨fun hh => by simp [Fence.inRound, Fence.wide] at hh, fun c cs _ => ?_⟩
      obtain ⟨v, w2, r, s⟩ := h c cs
      exact ⟨v, w2, r, by rw [fenced_inRound]; exact stepsIn_wide.2 s⟩
    | round _ _ _ _ _ => exact False.elim h
    | _ => exact h
  | halt x w' => cases x <;> exact h

theorem listIn_of (hno : ¬ LetsOut Q) : ∀ (rest : List Oper) (a : Act) (w : World), rest.all noDefer = true → wpList P ops Q rest a w → wpListIn (Fence.wide.inRound l) n P ops Q rest a w
  | [], _, _, _, h => h
  | o :: rest, a, w, hd, h => by
    simp only [List.all_cons, Bool.and_eq_true] at hd
    simp only [wpList] at h
    simp only [wpListIn]
    split
    · rename_i hw
      simp only [hw, if_true] at h
      rcases h with h | ⟨_, h⟩
      · exact Oper.wpIn_mono (fun a' w' hk => listIn_of hno rest a' w' hd.2 hk) (opIn_of hd.1 h)
      · exact (hno h).elim
    · rename_i hw
      simp only [hw] at h
      exact ⟨fun _ _ => trivial, listIn_of hno rest _ w hd.2 h⟩

/-- What the walk need not see. -/
def HidK (K : Act → World → Prop) (Q : Exit → Act → World → Prop) : Prop := ∀ a w, Q .normal a w → K a w
abbrev Only (K : Act → World → Prop) : Exit → Act → World → Prop := Exit.then K fun _ _ _ => False

/-- A region, in a round, walked as everywhere. -/
theorem region_in {id : Nat} {ls : List Oper} {a : Act} {w : World} (hd : ls.all noDefer = true) (h : ∀ K : Act → World → Prop, HidK K Q → wpList P ls.toArray (Only K) ls a w) :
    (Code.region id ls.toArray false).wpIn (Fence.wide.inRound l) n P Q a w :=
  Code.wpIn_mono (fun e a w q => by cases e <;> first | exact q | exact q.elim) (wpIn_region_lit (Q := Only fun a w => Q .normal a w) (listIn_of (fun ⟨_, _, h⟩ => h) ls a w hd (h _ fun _ _ h => h)))

end
end Go.Proofs.YtfloiekaiiapnaaGreatDoor

namespace Go.Proofs.YtfloiekaiiapnaaGreatDoor
open Go

section
variable {P : Program} {ops : Array Oper} {Q : Exit → Act → World → Prop} {md : Region.Mode} {SS : Option Nat → World → Prop}

abbrev ptrV (g : Nat) : Value := .pointer (some ⟨g, 0, none⟩)
end
end Go.Proofs.YtfloiekaiiapnaaGreatDoor

namespace Go.Proofs.YtfloiekaiiapnaaGreatDoor
open Go

section
variable {P : Program} {ops : Array Oper} {Q : Exit → Act → World → Prop} {md : Region.Mode} {SS : (Nat → Bool) → (Nat → Value) → World → Prop} {isM : Nat → Bool}

def dn (isM : Nat → Bool) (L : Array Bool) : Nat → Bool := fun k => isM k && L.getD k false
end
end Go.Proofs.YtfloiekaiiapnaaGreatDoor

namespace Go.Proofs.YtfloiekaiiapnaaGreatDoor

/-- Exclusive or, under a name that no rewriting opens. -/
def xr (x y : UInt8) : UInt8 := x ^^^ y
def dbl (x : UInt8) : UInt8 := x <<< 1 ^^^ (x >>> 7) * 0x1b
def added (b k : Nat → UInt8) : Nat → UInt8 := fun i => xr (b i) (k i)
def boxed (s b : Nat → UInt8) : Nat → UInt8 := fun i => s (b i).toNat
def shifted (b : Nat → UInt8) : Nat → UInt8 := fun i => b ((i + i % 4 * 4) % 16)
/-- Row r goes r columns to the right. -/
def unshifted (b : Nat → UInt8) : Nat → UInt8 := fun i => b ((i + i % 4 * 12) % 16)
def mixed (b : Nat → UInt8) : Nat → UInt8 := fun i =>
  xr (xr (b i) (xr (xr (xr (b (i - i % 4)) (b (i - i % 4 + 1))) (b (i - i % 4 + 2))) (b (i - i % 4 + 3)))) (dbl (xr (b i) (b (i - i % 4 + (i + 1) % 4))))
def premixed (b : Nat → UInt8) : Nat → UInt8 := fun i => xr (b i) (dbl (dbl (xr (b i) (b (i - i % 4 + (i + 2) % 4)))))
def unmixed (b : Nat → UInt8) : Nat → UInt8 := mixed (premixed b)

/-- The box turned round, by its first m places. -/
def bk (s : Nat → UInt8) : Nat → Nat → UInt8
  | 0 => fun _ => 0
  | m + 1 => fun j => if j = (s m).toNat then UInt8.ofNat m else bk s m j

/-! ### The keys of the rounds -/
def rc : Nat → UInt8
  | 0 => 1
  | n + 1 => dbl (rc n)
/-- What is put into word i, byte k. -/
def tw (s : Nat → UInt8) (nk : Nat) (W : Nat → UInt8) (i k : Nat) : UInt8 :=
  if i % nk = 0 then (if k = 0 then xr (s (W (4 * (i - 1) + 1)).toNat) (rc ((i - 1) / nk)) else s (W (4 * (i - 1) + (k + 1) % 4)).toNat)
  else if nk = 8 ∧ i % nk = 4 then s (W (4 * (i - 1) + k)).toNat else W (4 * (i - 1) + k)
/-- W: the bytes of the keys of all rounds, of a key of nk words. -/
def Sched (s : Nat → UInt8) (nk : Nat) (key W : Nat → UInt8) : Prop :=
  (∀ j, j < 4 * nk → W j = key j) ∧ ∀ i k, nk ≤ i → i < 4 * nk + 28 → k < 4 → W (4 * i + k) = xr (W (4 * (i - nk) + k)) (tw s nk W i k)

theorem sched_A {s key W : Nat → UInt8} {nk : Nat} (hn : 0 < nk) (hW : Sched s nk key W) (d q : Nat) (hd : d < 3 * nk + 28) (hq : q = 4 * d + (4 * nk - 4)) (hA : (d + nk) % nk = 0) (k : Nat) (hk : k < 4) :
    W (q + 4 + k) = xr (W (q + 4 + k - 4 * nk)) (if k = 0 then xr (s (W (q + 1)).toNat) (rc ((d + (nk - 1)) / nk)) else s (W (q + (k + 1) % 4)).toNat) := by
  have h := hW.2 (d + nk) k (by omega) (by omega) hk
  unfold tw at h
  rw [if_pos hA, show 4 * (d + nk) + k = q + 4 + k by omega, show 4 * (d + nk - nk) + k = q + 4 + k - 4 * nk by omega, show 4 * (d + nk - 1) = q by omega, show d + nk - 1 = d + (nk - 1) by omega] at h
  exact h
theorem sched_B {s key W : Nat → UInt8} {nk : Nat} (hn : 0 < nk) (hW : Sched s nk key W) (d q : Nat) (hd : d < 3 * nk + 28) (hq : q = 4 * d + (4 * nk - 4)) (hA : ¬ (d + nk) % nk = 0) (hB : ¬ (nk = 8 ∧ (d + nk) % nk = 4)) (k : Nat) (hk : k < 4) :
    W (q + 4 + k) = xr (W (q + 4 + k - 4 * nk)) (W (q + k)) := by
  have h := hW.2 (d + nk) k (by omega) (by omega) hk
  unfold tw at h
  rw [if_neg hA, if_neg hB, show 4 * (d + nk) + k = q + 4 + k by omega, show 4 * (d + nk - nk) + k = q + 4 + k - 4 * nk by omega, show 4 * (d + nk - 1) = q by omega] at h
  exact h
theorem sched_C {s key W : Nat → UInt8} {nk : Nat} (_ : 0 < nk) (hW : Sched s nk key W) (d q : Nat) (hd : d < 3 * nk + 28) (hq : q = 4 * d + (4 * nk - 4)) (hA : ¬ (d + nk) % nk = 0) (hB : nk = 8 ∧ (d + nk) % nk = 4) (k : Nat) (hk : k < 4) :
    W (q + 4 + k) = xr (W (q + 4 + k - 4 * nk)) (s (W (q + k)).toNat) := by
  have h := hW.2 (d + nk) k (by omega) (by omega) hk
  unfold tw at h
  rw [if_neg hA, if_pos hB, show 4 * (d + nk) + k = q + 4 + k by omega, show 4 * (d + nk - nk) + k = q + 4 + k - 4 * nk by omega, show 4 * (d + nk - 1) = q by omega] at h
  exact h

def rk (W : Nat → UInt8) (r : Nat) : Nat → UInt8 := fun j => W (16 * r + j)
def encR (s W b : Nat → UInt8) : Nat → Nat → UInt8
  | 0 => added b (rk W 0)
  | i + 1 => added (mixed (shifted (boxed s (encR s W b i)))) (rk W (i + 1))
/-- r + 1 rounds' keys. -/
def enc (s : Nat → UInt8) (r : Nat) (W b : Nat → UInt8) : Nat → UInt8 := added (shifted (boxed s (encR s W b (r - 1)))) (rk W r)
def decR (back : Nat → UInt8) (r : Nat) (W b : Nat → UInt8) : Nat → Nat → UInt8
  | 0 => boxed back (unshifted (added b (rk W r)))
  | i + 1 => boxed back (unshifted (unmixed (added (decR back r W b i) (rk W (r - 1 - i)))))
def dec (back : Nat → UInt8) (r : Nat) (W b : Nat → UInt8) : Nat → UInt8 := added (decR back r W b (r - 1)) (rk W 0)

end Go.Proofs.YtfloiekaiiapnaaGreatDoor

namespace Go.Proofs.YtfloiekaiiapnaaGreatDoor
open Go Go.RowKit

/-- A byte as a value. -/
def by8 (x : UInt8) : Value := .int .u8 (x.toNat : Int)
/-- n bytes as the cells of an array. -/
def row (n : Nat) (f : Nat → UInt8) : Array Value := Array.ofFn fun i : Fin n => by8 (f i)

theorem row_size (n : Nat) (f : Nat → UInt8) : (row n f).size = n := by simp [row]
theorem row_get (n : Nat) (f : Nat → UInt8) (i : Nat) (h : i < n) : (row n f)[i]? = some (by8 (f i)) := by
  simp [row, h]
theorem row_congr {n : Nat} {f g : Nat → UInt8} (h : ∀ i, i < n → f i = g i) : row n f = row n g := by
  unfold row
  congr 1
  funext i
  rw [h i.1 i.2]
theorem row_one (n : Nat) (f : Nat → UInt8) : (row n f).all (·.oneCell') = true := by
  rw [Array.all_eq_true_iff_forall_mem]
  intro v hv
  simp only [row, Array.mem_ofFn] at hv
  obtain ⟨i, rfl⟩ := hv
  rfl
section
variable {w w' : World} {g : Nat} {t : TypeId} {n : Nat} {f : Nat → UInt8}
end

section
variable {P : Program} {w : World}
end

section
variable {P : Program} {w : World}
end

end Go.Proofs.YtfloiekaiiapnaaGreatDoor

namespace Go.Proofs.YtfloiekaiiapnaaGreatDoor
open Go Go.RowKit

/-- Block g is just the cells cs. -/
def Blk (w : World) (g : Nat) (t : TypeId) (cs : Array Value) : Prop := w.heap[g]? = some (.cells cs t (0, 0))
section
variable {w w' : World} {g : Nat} {t : TypeId} {cs : Array Value}
theorem Blk.lt (h : Blk w g t cs) : g < w.heap.size := (Array.getElem?_eq_some_iff.1 h).1
theorem Blk.cell (h : Blk w g t cs) (i : Nat) : w.cell? ⟨g, i, none⟩ = cs[i]? := cell_of_row w g i _ t (0, 0) h
theorem Blk.drew (h : Blk w g t cs) : Blk w.drew g t cs := h
theorem Blk.below {B : Nat} (h : Blk w g t cs) (hb : Below B w w') (hg : g < B) : Blk w' g t cs := (hb.block g hg).trans h
end
end Go.Proofs.YtfloiekaiiapnaaGreatDoor

namespace Go.Proofs.YtfloiekaiiapnaaGreatDoor
open Go Go.RowKit

theorem isRow_desc {P : Program} {ty : TypeId} (hdd : (P.underlying ty).map (·.isRow) = some true) : ∃ d, P.underlying ty = some d ∧ d.isRow = true := by
  cases h : P.underlying ty with
  | none => rw [h] at hdd; cases hdd
  | some d =>
    rw [h] at hdd
    exact ⟨d, rfl, Option.some.inj hdd⟩
/-- Cells put one after another. -/
def putL (cs : Array Value) : Nat → List Value → Array Value
  | _, [] => cs
  | o, v :: r => putL (cs.setIfInBounds o v) (o + 1) r
section
variable {gw : Nat} {w w1 w2 : World}
end
section
variable {P : Program}
end

section
variable {P : Program} {ops : Array Oper} {Q : Exit → Act → World → Prop} {w : World}
theorem exec_build {o : Oper} {a : Act} (t : TypeId) (parts : Array (Nat × Operand)) (ho : o.op = .build t parts) (cells : Array Value) (vals : List (Nat × Value)) (hv : (parts.map fun (i, x) => (i, a.eval x)).toList = vals)
    (hb : P.built t vals = some cells) (w : World) : (execOp a.eval o).run P w = .ok (.value (.agg cells)) w := by
  subst hv
  unfold execOp
  simp only [ho, Sem.run_bind, Sem.run_pure]
  rw [run_build w t _ cells hb]
  rfl
end
end Go.Proofs.YtfloiekaiiapnaaGreatDoor

namespace Go.Proofs.YtfloiekaiiapnaaGreatDoor
open Go Go.RowKit

/-- A block of cells. -/
abbrev bl (g : Nat) (t : TypeId) (cs : Array Value) : Nat × Obj := (g, .cells cs t (0, 0))

/-- The blocks L hold what they are said to hold; of what was there when w0 was the world only the blocks R may have changed. -/
structure Hold (w0 : World) (R : List Nat) (L : List (Nat × Obj)) (w : World) : Prop where
  os : w.os = w0.os
  tape : w.tape = w0.tape
  output : w.output = w0.output
  size : w0.heap.size ≤ w.heap.size
  blk : ∀ x ∈ L, w.heap[x.1]? = some x.2
  ne : L.Pairwise fun x y => x.1 ≠ y.1
  own : ∀ x ∈ L, w0.heap.size ≤ x.1 ∨ x.1 ∈ R
  frame : ∀ k, k < w0.heap.size → k ∉ R → w.heap[k]? = w0.heap[k]?

section
variable {w0 w w' : World} {R : List Nat} {L L' : List (Nat × Obj)}
theorem Hold.init (w : World) : Hold w [] [] w := ⟨rfl, rfl, rfl, Nat.le_refl _, fun _ h => (by cases h), .nil, fun _ h => (by cases h), fun _ _ _ => rfl⟩
theorem Hold.of_below (h : Below w0.heap.size w0 w) : Hold w0 [] [] w := ⟨h.os, h.tape, h.output, h.size, fun _ h => (by cases h), .nil, fun _ h => (by cases h), fun k hk _ => h.block k hk⟩
/-- A block that was handed in, and may be written. -/
theorem Hold.init1 {g : Nat} {o : Obj} (h : w.heap[g]? = some o) : Hold w [g] [(g, o)] w :=
  ⟨rfl, rfl, rfl, Nat.le_refl _, fun x hx => (by obtain rfl : x = (g, o) := (by simpa using hx); exact h), by simp, fun x hx => (by obtain rfl : x = (g, o) := (by simpa using hx); exact .inr (by simp)), fun _ _ _ => rfl⟩
theorem Hold.drew (h : Hold w0 R L w) : Hold w0 R L w.drew := ⟨h.os, h.tape, h.output, h.size, h.blk, h.ne, h.own, h.frame⟩
theorem Hold.lt (h : Hold w0 R L w) {x : Nat × Obj} (hx : x ∈ L) : x.1 < w.heap.size := (Array.getElem?_eq_some_iff.1 (h.blk x hx)).1
theorem Hold.get (h : Hold w0 R L w) (i : Nat) {g : Nat} {o : Obj} (hx : L[i]? = some (g, o)) : w.heap[g]? = some o := h.blk (g, o) (List.mem_of_getElem? hx)
theorem Hold.new (h : Hold w0 R L w) (o : Obj) : Hold w0 R (L ++ [(w.heap.size, o)]) (w.alloc o) := by
  refine ⟨h.os, h.tape, h.output, Nat.le_trans h.size (by simp), fun x hx => ?_, ?_, fun x hx => ?_, fun k hk hkR => ?_⟩
  · rcases List.mem_append.1 hx with hx | hx
    · exact (Below.heap_alloc w o x.1 (h.lt hx)).trans (h.blk x hx)
    · obtain rfl : x = (w.heap.size, o) := by simpa using hx
      exact heap_alloc_new w o
  · refine List.pairwise_append.2 ⟨h.ne, by simp, fun x hx y hy => ?_⟩
    obtain rfl : y = (w.heap.size, o) := by simpa using hy
    exact Nat.ne_of_lt (h.lt hx)
  · rcases List.mem_append.1 hx with hx | hx
    · exact h.own x hx
    · obtain rfl : x = (w.heap.size, o) := by simpa using hx
      exact .inl h.size
  · exact (Below.heap_alloc w o k (Nat.lt_of_lt_of_le hk h.size)).trans (h.frame k hk hkR)
theorem Hold.call (h : Hold w0 R L w) (hb : Below w.heap.size w w') : Hold w0 R L w' :=
  ⟨hb.os.trans h.os, hb.tape.trans h.tape, hb.output.trans h.output, Nat.le_trans h.size hb.size, fun x hx => (hb.block x.1 (h.lt hx)).trans (h.blk x hx), h.ne, h.own, fun k hk hkR => (hb.block k (Nat.lt_of_lt_of_le hk h.size)).trans (h.frame k hk hkR)⟩
theorem Hold.perm (h : Hold w0 R L w) (hp : L.Perm L') : Hold w0 R L' w :=
  ⟨h.os, h.tape, h.output, h.size, fun x hx => h.blk x (hp.mem_iff.2 hx), hp.pairwise h.ne (fun h => Ne.symm h), fun x hx => h.own x (hp.mem_iff.2 hx), h.frame⟩
theorem Hold.sub (h : Hold w0 R L w) (hs : L'.Sublist L) : Hold w0 R L' w :=
  ⟨h.os, h.tape, h.output, h.size, fun x hx => h.blk x (hs.subset hx), h.ne.sublist hs, fun x hx => h.own x (hs.subset hx), h.frame⟩
theorem Hold.toBelow (h : Hold w0 [] L w) : Below w0.heap.size w0 w := ⟨h.os, h.tape, h.output, h.size, fun k hk => h.frame k hk (by simp)⟩
theorem Hold.apart (h : Hold w0 R L w) {i j : Nat} {x y : Nat × Obj} (hi : L[i]? = some x) (hj : L[j]? = some y) (hij : i ≠ j) : x.1 ≠ y.1 := by
  obtain ⟨hi1, hi2⟩ := List.getElem?_eq_some_iff.1 hi
  obtain ⟨hj1, hj2⟩ := List.getElem?_eq_some_iff.1 hj
  subst hi2 hj2
  rcases Nat.lt_or_ge i j with h1 | h1
  · exact List.pairwise_iff_getElem.1 h.ne i j hi1 hj1 h1
  · exact Ne.symm (List.pairwise_iff_getElem.1 h.ne j i hj1 hi1 (by omega))
/-- Block i holds something else. -/
theorem Hold.upd (h : Hold w0 R L w) (i : Nat) {g : Nat} {o o' : Obj} (hx : L[i]? = some (g, o)) (hos : w'.os = w.os) (htp : w'.tape = w.tape) (hou : w'.output = w.output) (hsz : w.heap.size ≤ w'.heap.size)
    (hg : w'.heap[g]? = some o') (hk : ∀ k, k < w.heap.size → k ≠ g → w'.heap[k]? = w.heap[k]?) : Hold w0 R (L.set i (g, o')) w' := by
  obtain ⟨hi1, hi2⟩ := List.getElem?_eq_some_iff.1 hx
  have hset : ∀ x ∈ L.set i (g, o'), x = (g, o') ∨ (x ∈ L ∧ x.1 ≠ g) := fun x hx' => by
    obtain ⟨j, hj, rfl⟩ := List.mem_iff_getElem.1 hx'
    rw [List.getElem_set]
    split
    · exact .inl rfl
    · rename_i hij
      have hj' : j < L.length := by simpa using hj
      exact .inr ⟨List.getElem_mem hj', fun e => by
        have := h.apart (i := i) (j := j) hx (List.getElem?_eq_getElem hj') hij
        exact this e.symm⟩
  refine ⟨hos.trans h.os, htp.trans h.tape, hou.trans h.output, Nat.le_trans h.size hsz, fun x hx' => ?_, ?_, fun x hx' => ?_, fun k hk' hkR => ?_⟩
  · rcases hset x hx' with rfl | ⟨h1, h2⟩
    · exact hg
    · exact (hk x.1 (h.lt h1) h2).trans (h.blk x h1)
  · rw [List.pairwise_iff_getElem]
    intro a b ha hb hab
    have ha' : a < L.length := by simpa using ha
    have hb' : b < L.length := by simpa using hb
    have hne := List.pairwise_iff_getElem.1 h.ne a b ha' hb' hab
    rw [List.getElem_set, List.getElem_set]
    have e1 : ∀ j (hj : j < L.length), i = j → L[j].1 = g := fun j hj e => by subst e; rw [hi2]
    split
    · rename_i e
      split
      · omega
      · have h5 := e1 a ha' e
        rw [h5] at hne; exact hne
    · split
      · rename_i e
        have h5 := e1 b hb' e
        rw [h5] at hne; exact hne
      · exact hne
  · rcases hset x hx' with rfl | ⟨h1, _⟩
    · exact h.own (g, o) (List.mem_of_getElem? hx)
    · exact h.own x h1
  · rw [hk k (Nat.lt_of_lt_of_le hk' h.size) ?_]
    · exact h.frame k hk' hkR
    · rintro rfl
      rcases h.own (k, o) (List.mem_of_getElem? hx) with h1 | h1
      · exact absurd hk' (Nat.not_lt.2 h1)
      · exact hkR h1
theorem Hold.setRow (h : Hold w0 R L w) (i : Nat) {g : Nat} {t : TypeId} {cs : Array Value} (hx : L[i]? = some (bl g t cs)) (cs' : Array Value) : Hold w0 R (L.set i (bl g t cs')) (w.setRow g cs') :=
  h.upd i hx rfl rfl rfl (by simp [World.setRow]) (setRow_heap w g cs cs' t (0, 0) (h.get i hx)) fun k _ hk => setRow_other w g k cs' hk
theorem Hold.setCell (h : Hold w0 R L w) (i : Nat) {g : Nat} {t : TypeId} {cs : Array Value} (hx : L[i]? = some (bl g t cs)) (o : Nat) (v : Value) : Hold w0 R (L.set i (bl g t (cs.setIfInBounds o v))) (w.setCell ⟨g, o, none⟩ v) :=
  h.upd i hx rfl rfl rfl (by simp [World.setCell]) (heap_setCell_same w g o cs t v (h.get i hx)) fun k _ hk => Below.heap_setCell w ⟨g, o, none⟩ v k hk
theorem Hold.setCells : ∀ (vs : List Value) (o : Nat) {w : World} {L : List (Nat × Obj)} {cs : Array Value}, Hold w0 R L w → ∀ (i : Nat) {g : Nat} {t : TypeId}, L[i]? = some (bl g t cs) → Hold w0 R (L.set i (bl g t (putL cs o vs))) (w.setCells g o vs)
  | [], _, w, L, cs, h, i, g, t, hx => by
    have e : L.set i (bl g t cs) = L := by
      refine List.ext_getElem? fun j => ?_
      rw [List.getElem?_set]
      split
      · rename_i e; subst e
        split
        · exact hx.symm
        · rename_i h2; rw [List.getElem?_eq_none (by omega)]
      · rfl
    show Hold w0 R (L.set i (bl g t cs)) w
    rw [e]; exact h
  | v :: r, o, w, L, cs, h, i, g, t, hx => by
    have h1 := h.setCell i hx o v
    have hi : i < L.length := (List.getElem?_eq_some_iff.1 hx).1
    have h2 := Hold.setCells r (o + 1) h1 i (g := g) (t := t) (cs := cs.setIfInBounds o v) (by rw [List.getElem?_set]; simp [hi])
    rw [List.set_set] at h2
    exact h2
theorem Hold.cell (h : Hold w0 R L w) (i : Nat) {g : Nat} {t : TypeId} {cs : Array Value} (hx : L[i]? = some (bl g t cs)) (o : Nat) : w.cell? ⟨g, o, none⟩ = cs[o]? := cell_of_row w g o _ t (0, 0) (h.get i hx)
theorem Hold.frozen (h : Hold w0 R L w) (i : Nat) {g : Nat} {t : TypeId} {cs : Array Value} (hx : L[i]? = some (bl g t cs)) (o : Nat) : w.frozen? ⟨g, o, none⟩ = false := by
  have := h.get i hx
  simp [World.frozen?, this]
theorem Hold.there (h : Hold w0 R L w) (i : Nat) {g : Nat} {t : TypeId} {cs : Array Value} (hx : L[i]? = some (bl g t cs)) (o n : Nat) (hn : o + n ≤ cs.size) : w.there g o n := fun j hj => by
  refine ⟨?_, h.frozen i hx _⟩
  rw [h.cell i hx, Array.getElem?_eq_getElem (by omega)]; rfl
end

/-! ### Plain regions -/
section
variable {P : Program} {w0 w : World} {R : List Nat} {L : List (Nat × Obj)} {ops : Array Oper} {rest : List Oper} {o : Oper} {a : Act} {Q : Exit → Act → World → Prop}
end

section
variable {P : Program} {w0 w : World} {R : List Nat} {L : (Nat → Bool) → List (Nat × Obj)} {Ms : List (Nat × ((Nat → Bool) → Obj))} {D : Nat → Bool} {π : Nat → Value}
variable {ops : Array Oper} {o : Oper} {a : Act} {Q : Exit → Act → World → Prop}
variable {md : Region.Mode} {isM : Nat → Bool}
end
section
variable {P : Program} {w0 w : World} {R : List Nat} {L : List (Nat × Obj)} {ops : Array Oper} {o : Oper} {a : Act} {Q : Exit → Act → World → Prop}
end
section
variable {P : Program} {w0 : World} {R : List Nat} {L : (Nat → Bool) → List (Nat × Obj)} {md : Region.Mode} {ops : Array Oper} {Q : Exit → Act → World → Prop} {isM : Nat → Bool} {A : (Nat → Value) → Act} {o : Oper} {rest : List Oper} {gt : Nat} {L' : List (Nat × Obj)}
end
end Go.Proofs.YtfloiekaiiapnaaGreatDoor

namespace Go.Proofs.YtfloiekaiiapnaaGreatDoor
open Go Go.RowKit

/-- How many slots a frame has, and what waits for its end. -/
structure Sz where
  n : Nat
  ds : List Deferred
/-- Of a frame of n slots: what lies in those that are still read. -/
structure Fr (n : Sz) (l : List (Nat × Value)) (a : Act) : Prop where
  size : a.tmps.size = n.n
  defers : a.defers = n.ds
  get : ∀ x ∈ l, a.tmps.getD x.1 undef = x.2

/-- What is kept of l behind a write to slot d. -/
def keysB (d : Nat) (l : List (Nat × Value)) : Bool := l.all fun x => x.1 != d
structure Kept (d : Nat) (l' l : List (Nat × Value)) : Prop where
  sub : l'.Sublist l
  ne : keysB d l' = true

section
variable {n : Sz} {l l' : List (Nat × Value)} {a : Act}
theorem Fr.ev (h : Fr n l a) (i : Nat) {k : Nat} {v : Value} (hi : l[i]? = some (k, v)) : a.eval (.tmp k) = v := h.get (k, v) (List.mem_of_getElem? hi)
theorem Fr.at (h : Fr n l a) (i : Nat) {k : Nat} {v : Value} (hi : l[i]? = some (k, v)) : a.tmps.getD k undef = v := h.get (k, v) (List.mem_of_getElem? hi)
theorem Fr.sub (h : Fr n l a) (hs : l'.Sublist l) : Fr n l' a := ⟨h.size, h.defers, fun x hx => h.get x (hs.subset hx)⟩
theorem Fr.put (h : Fr n l a) {d : Nat} (v : Value) (hk : Kept d l' l) (hd : d < n.n) : Fr n ((d, v) :: l') (a.put (some d) v) := by
  refine ⟨by simp [Act.put, h.size], by simp [Act.put, h.defers], fun x hx => ?_⟩
  have hs : d < a.tmps.size := by rw [h.size]; exact hd
  rcases List.mem_cons.1 hx with rfl | hx
  · simp [Act.put, hs]
  · have hne : x.1 ≠ d := by
      have := List.all_eq_true.1 hk.ne x hx
      simpa using this
    have h1 := h.get x (hk.sub.subset hx)
    simp only [Act.put, Array.getD_eq_getD_getElem?] at h1 ⊢
    rw [Array.getElem?_setIfInBounds_ne (Ne.symm hne)]
    exact h1
/-- The live slots in another order, or fewer. -/
theorem Fr.of (h : Fr n l a) (hs : ∀ x ∈ l', x ∈ l) : Fr n l' a := ⟨h.size, h.defers, fun x hx => h.get x (hs x hx)⟩
end

/-- The slots of a call's arguments. -/
def argsL : Nat → List Value → List (Nat × Value)
  | _, [] => []
  | k, v :: r => (k, v) :: argsL (k + 1) r
theorem argsL_mem : ∀ (vs : List Value) (k : Nat) (x : Nat × Value), x ∈ argsL k vs → ∃ i, x.1 = k + i ∧ vs[i]? = some x.2
  | [], _, _, h => by cases h
  | v :: r, k, x, h => by
    rcases List.mem_cons.1 h with rfl | h
    · exact ⟨0, rfl, rfl⟩
    · obtain ⟨i, h1, h2⟩ := argsL_mem r (k + 1) x h
      exact ⟨i + 1, by omega, by simpa using h2⟩
theorem calls_F {P : Program} {f : FuncId} {fn : Func} {c : Code} {args : Array Value} {w : World} {R : Ending → World → Prop} {n : Nat} {l : List (Nat × Value)} (hf : P.funcs[f]? = some fn) (hb : fn.body = some c) (hn : fn.ntmps = n) (hsz : args.size ≤ n) (hl : argsL 0 args.toList = l)
    (h : ∀ a, Fr ⟨n, []⟩ l a → c.wp P (bodyPost P fn R) a w) : Calls P f args w R := by
  refine calls_of_wp hf hb (h _ ⟨?_, rfl, fun x hx => ?_⟩)
  · simp [hn]; omega
  · subst hl
    obtain ⟨i, h1, h2⟩ := argsL_mem _ _ _ hx
    rw [Nat.zero_add] at h1
    have hi : i < args.size := by
      have := (List.getElem?_eq_some_iff.1 h2).1
      simpa using this
    rw [h1]
    simp only [Array.getD_eq_getD_getElem?]
    rw [Array.getElem?_append_left hi, ← Array.getElem?_toList, h2]
    rfl

section
variable {P : Program} {Q : Exit → Act → World → Prop} {a : Act} {w : World} {n : Sz} {l l' : List (Nat × Value)}
/-- A loop whose rounds are told by what σ says. -/
theorem loopF {σ : Type} {c : Code} (I : σ → Act → World → Prop) (μ : σ → Nat) (x0 : σ) (h0 : I x0 a w)
    (round : ∀ x a w, I x a w → c.wp P (Exit.then (fun a' w' => ∃ x', I x' a' w' ∧ μ x' < μ x) Q) a w) : (Code.loop c).wp P Q a w := by
  intro b k cs
  have key : ∀ n x a w, μ x = n → I x a w →
      ∃ e a' w', Q e a' w' ∧ Arrives P (lone (b.at a (.code c :: .inLoop c :: k)) cs w) b k cs e a' w' := by
    intro n
    induction n using Nat.strongRecOn with
    | _ n ih =>
      intro x a w hn hI
      obtain ⟨e, a₁, w₁, hq, harr⟩ := round x a w hI b (.inLoop c :: k) cs
      cases e with
      | normal =>
        obtain ⟨x', hI₁, hlt⟩ := hq
        obtain ⟨e₂, a₂, w₂, hq₂, harr₂⟩ := ih (μ x') (hn ▸ hlt) x' a₁ w₁ rfl hI₁
        exact ⟨e₂, a₂, w₂, hq₂, .of_steps (Steps.trans harr (.one step_inLoop)) harr₂⟩
      | exit id => exact ⟨_, a₁, w₁, hq, .pass (x := .inLoop c) rfl (fun _ _ => .inl (by simp)) harr⟩
      | goto l => exact ⟨_, a₁, w₁, hq, .pass (x := .inLoop c) rfl (fun _ _ => .inl (by simp)) harr⟩
      | ret => exact ⟨_, a₁, w₁, hq, .pass (x := .inLoop c) rfl (fun _ _ => .inl (by simp)) harr⟩
      | panic ch => exact ⟨_, a₁, w₁, hq, .pass (x := .inLoop c) rfl (fun _ _ => .inl (by simp)) harr⟩
      | outgrown => exact ⟨_, a₁, w₁, hq, .pass (x := .inLoop c) rfl (fun _ _ => .inl (by simp)) harr⟩
  obtain ⟨e, a', w', hq, harr⟩ := key _ x0 a w rfl h0
  exact ⟨e, a', w', hq, .of_steps (.one step_loop) harr⟩
end
end Go.Proofs.YtfloiekaiiapnaaGreatDoor

namespace Go.Proofs.YtfloiekaiiapnaaGreatDoor
open Go Go.RowKit

abbrev Hl := List (Nat × Obj)
/-- The heaplets Hs hold, each apart from the others. -/
def HH (w0 : World) (R : List Nat) (Hs : List Hl) (w : World) : Prop := Hold w0 R Hs.flatten w
/-- The blocks E lie in w, each apart from the others. -/
structure Has (E : Hl) (w : World) : Prop where
  blk : ∀ x ∈ E, w.heap[x.1]? = some x.2
  ne : E.Pairwise fun x y => x.1 ≠ y.1
abbrev bks (E : Hl) : List Nat := E.map (·.1)

section
variable {w0 w w' : World} {R : List Nat} {L L' E E' : Hl} {Hs Hs' : List Hl}
theorem Has.nil (w : World) : Has [] w := ⟨fun _ h => (by cases h), .nil⟩
theorem Has.of (h : Has E w) (hs : E'.Sublist E) : Has E' w := ⟨fun x hx => h.blk x (hs.subset hx), h.ne.sublist hs⟩
theorem Has.hold (h : Has E w) : Hold w (bks E) E w :=
  ⟨rfl, rfl, rfl, Nat.le_refl _, h.blk, h.ne, fun _ hx => .inr (List.mem_map_of_mem hx), fun _ _ _ => rfl⟩
theorem Hold.has (h : Hold w0 R L w) : Has L w := ⟨h.blk, h.ne⟩
theorem Has.start (h : Has E w) : HH w (bks E) [E] w := by
  unfold HH
  rw [List.flatten_cons, List.flatten_nil, List.append_nil]
  exact h.hold
/-- THE FRAME'S RULE. -/
theorem Hold.frameE (h : Hold w0 R (L ++ (E ++ L')) w) (hE : Hold w (bks E) E' w') : Hold w0 R (L ++ (E' ++ L')) w' := by
  have hne := List.pairwise_append.1 h.ne
  have hne2 := List.pairwise_append.1 hne.2.1
  have hold : ∀ x, (x ∈ L ∨ x ∈ L') → x.1 ∉ bks E := fun x hx hm => by
    obtain ⟨y, hy, e⟩ := List.mem_map.1 hm
    rcases hx with hx | hx
    · exact hne.2.2 x hx y (List.mem_append_left _ hy) e.symm
    · exact hne2.2.2 y hy x hx e
  have hin : ∀ x, (x ∈ L ∨ x ∈ L') → x ∈ L ++ (E ++ L') := fun x hx => by
    rcases hx with hx | hx
    · exact List.mem_append_left _ hx
    · exact List.mem_append_right _ (List.mem_append_right _ hx)
  have hblk : ∀ x, (x ∈ L ∨ x ∈ L') → w'.heap[x.1]? = some x.2 := fun x hx =>
    (hE.frame x.1 (h.lt (hin x hx)) (hold x hx)).trans (h.blk x (hin x hx))
  have hapart : ∀ x ∈ E', ∀ y, (y ∈ L ∨ y ∈ L') → x.1 ≠ y.1 := fun x hx y hy e => by
    rcases hE.own x hx with h1 | h1
    · have := h.lt (hin y hy)
      omega
    · exact hold y hy (e ▸ h1)
  refine ⟨hE.os.trans h.os, hE.tape.trans h.tape, hE.output.trans h.output, Nat.le_trans h.size hE.size, fun x hx => ?_, ?_, fun x hx => ?_, fun k hk hkR => ?_⟩
  · rcases List.mem_append.1 hx with hx | hx
    · exact hblk x (.inl hx)
    · rcases List.mem_append.1 hx with hx | hx
      · exact hE.blk x hx
      · exact hblk x (.inr hx)
  · refine List.pairwise_append.2 ⟨hne.1, List.pairwise_append.2 ⟨hE.ne, hne2.2.1, fun x hx y hy => hapart x hx y (.inr hy)⟩, fun x hx y hy => ?_⟩
    rcases List.mem_append.1 hy with hy | hy
    · exact (hapart y hy x (.inl hx)).symm
    · exact hne.2.2 x hx y (List.mem_append_right _ hy)
  · rcases List.mem_append.1 hx with hx | hx
    · exact h.own x (hin x (.inl hx))
    · rcases List.mem_append.1 hx with hx | hx
      · rcases hE.own x hx with h1 | h1
        · exact .inl (Nat.le_trans h.size h1)
        · obtain ⟨y, hy, e⟩ := List.mem_map.1 h1
          rw [← e]
          exact h.own y (List.mem_append_right _ (List.mem_append_left _ hy))
      · exact h.own x (hin x (.inr hx))
  · have hnE : k ∉ bks E := fun hm => by
      obtain ⟨y, hy, e⟩ := List.mem_map.1 hm
      rcases h.own y (List.mem_append_right _ (List.mem_append_left _ hy)) with h1 | h1
      · omega
      · exact hkR (e ▸ h1)
    exact (hE.frame k (Nat.lt_of_lt_of_le hk h.size) hnE).trans (h.frame k hk hkR)
theorem flatten_split : ∀ {Hs : List Hl} {i : Nat} {E : Hl}, Hs[i]? = some E → ∃ L L', Hs.flatten = L ++ (E ++ L') ∧ ∀ E', (Hs.set i E').flatten = L ++ (E' ++ L')
  | [], i, E, h => by simp at h
  | H :: r, 0, E, h => by
    obtain rfl : H = E := by simpa using h
    exact ⟨[], r.flatten, by simp, fun E' => by simp⟩
  | H :: r, i + 1, E, h => by
    obtain ⟨L, L', h1, h2⟩ := flatten_split (Hs := r) (i := i) (E := E) (by simpa using h)
    exact ⟨H ++ L, L', by simp [h1], fun E' => by simp [h2]⟩
/-- Heaplet i turned. -/
theorem HH.turn (h : HH w0 R Hs w) (i : Nat) (hi : Hs[i]? = some E) (hE : Hold w (bks E) E' w') : HH w0 R (Hs.set i E') w' := by
  obtain ⟨L, L', h1, h2⟩ := flatten_split hi
  unfold HH at *
  rw [h1] at h
  rw [h2]
  exact h.frameE hE
/-- A heaplet made. -/
theorem HH.add (h : HH w0 R Hs w) (hE : Hold w [] E' w') : HH w0 R (Hs ++ [E']) w' := by
  unfold HH at *
  have h1 : Hold w0 R (Hs.flatten ++ ([] ++ [])) w := by simpa using h
  have h2 := h1.frameE (E := []) hE
  simpa using h2
theorem HH.has (h : HH w0 R Hs w) (i : Nat) (hi : Hs[i]? = some E) : Has E w := by
  obtain ⟨L, L', h1, _⟩ := flatten_split hi
  have h2 := Hold.has h
  rw [h1] at h2
  exact h2.of ((List.sublist_append_left E L').trans (List.sublist_append_right L _))
theorem HH.hasAll (h : HH w0 R Hs w) : Has Hs.flatten w := Hold.has h
theorem HH.blk (h : HH w0 R Hs w) (i : Nat) {g : Nat} {o : Obj} (hi : Hs[i]? = some [(g, o)]) : w.heap[g]? = some o := (h.has i hi).blk (g, o) (by simp)
/-- The same blocks, told by other heaplets. -/
theorem HH.cast (h : HH w0 R Hs w) (e : Hs.flatten = Hs'.flatten) : HH w0 R Hs' w := by unfold HH at *; rw [← e]; exact h
theorem HH.perm (h : HH w0 R Hs w) (e : Hs.flatten.Perm Hs'.flatten) : HH w0 R Hs' w := Hold.perm h e
theorem flatten_sub {Hs Hs' : List Hl} (e : Hs'.Sublist Hs) : Hs'.flatten.Sublist Hs.flatten := by
  induction e with
  | slnil => exact .slnil
  | cons a _ ih => rw [List.flatten_cons]; exact ih.trans (List.sublist_append_right _ _)
  | cons_cons a _ ih => rw [List.flatten_cons, List.flatten_cons]; exact ih.append_left a
/-- Heaplets left out. -/
theorem HH.drop (h : HH w0 R Hs w) (e : Hs'.Sublist Hs) : HH w0 R Hs' w := Hold.sub h (flatten_sub e)
theorem HH.below (h : HH w0 R Hs w) (hb : Below w.heap.size w w') : HH w0 R Hs w' := Hold.call h hb
theorem HH.drew (h : HH w0 R Hs w) : HH w0 R Hs w.drew := Hold.drew h
theorem HH.toBelow (h : HH w0 [] Hs w) : Below w0.heap.size w0 w := Hold.toBelow h
/-- What was there ahead of the call, and may not be written. -/
theorem HH.old (h : HH w0 R Hs w) {g : Nat} (hg : g < w0.heap.size) (hR : g ∉ R) : w.heap[g]? = w0.heap[g]? := Hold.frame h g hg hR
theorem HH.lt (h : HH w0 R Hs w) (i : Nat) (hi : Hs[i]? = some E) {x : Nat × Obj} (hx : x ∈ E) : x.1 < w.heap.size := (Array.getElem?_eq_some_iff.1 ((h.has i hi).blk x hx)).1
/-- Its blocks are none of those that were there. -/
theorem HH.fresh (h : HH w0 [] Hs w) (i : Nat) (hi : Hs[i]? = some E) {g : Nat} (hg : g < w0.heap.size) : g ∉ bks E := fun hm => by
  obtain ⟨y, hy, e⟩ := List.mem_map.1 hm
  have : y ∈ Hs.flatten := List.mem_flatten.2 ⟨E, List.mem_of_getElem? hi, hy⟩
  rcases Hold.own h y this with h1 | h1
  · omega
  · cases h1
/-- What a callee did, told to its caller: the blocks that were handed on are E. -/
theorem HH.hold (h : HH w0 R [E] w) : Hold w0 R E w := by
  unfold HH at h
  rw [List.flatten_cons, List.flatten_nil, List.append_nil] at h
  exact h
end

/-- An operation's result, and the world behind it. -/
def Out (P : Program) (K : Value → World → Prop) : Result Next → Prop
  | .ok (.value v) w => K v w
  | .ok .skip w => K undef w
  | .ok (.enter f args) w => Calls P f args w fun e w' => ∃ v, e = .returned v ∧ K v w'
  | _ => False
theorem Out.mono {P : Program} {K K' : Value → World → Prop} {r : Result Next} (h : Out P K r) (hk : ∀ v w, K v w → K' v w) : Out P K' r := by
  cases r with
  | ok x w =>
    cases x with
    | value v => exact hk _ _ h
    | skip => exact hk _ _ h
    | enter f args => exact Calls.mono h fun e w' ⟨v, he, hv⟩ => ⟨v, he, hk _ _ hv⟩
    | _ => exact h.elim
  | halt x w => exact h.elim
theorem Out.wp {P : Program} {o : Oper} {a : Act} {w : World} {next : Act → World → Prop} {Q : Exit → Act → World → Prop} (h : Out P (fun v w' => next (a.put o.dst v) w') ((execOp a.eval o).run P w)) : o.wp P a w next Q := by
  unfold Oper.wp
  revert h
  generalize (execOp a.eval o).run P w = r
  intro h
  cases r with
  | ok x w' =>
    cases x with
    | value v => exact h
    | skip => exact h
    | enter f args =>
      refine Calls.mono h ?_
      rintro e w'' ⟨v, rfl, hv⟩
      exact hv
    | _ => exact h.elim
  | halt x w' => exact h.elim

/-- What a call does to the blocks E. -/
def Does (P : Program) (f : FuncId) (args : Array Value) (E : Hl) (Rd : World → Prop) (post : Value → Hl → Prop) : Prop :=
  ∀ w, Has E w → Rd w → Calls P f args w fun e w' => ∃ v E', e = .returned v ∧ post v E' ∧ Hold w (bks E) E' w'
/-- What an operation does to the blocks E. -/
def Small (P : Program) (a : Act) (o : Oper) (E : Hl) (Rd : World → Prop) (post : Value → Hl → Prop) : Prop :=
  ∀ w, Has E w → Rd w → Out P (fun v w' => ∃ E', post v E' ∧ Hold w (bks E) E' w') ((execOp a.eval o).run P w)

theorem Does.mono {P : Program} {f : FuncId} {args : Array Value} {E : Hl} {Rd Rd' : World → Prop} {post post' : Value → Hl → Prop} (h : Does P f args E Rd post) (hR : ∀ w, Rd' w → Rd w) (hp : ∀ v E', post v E' → post' v E') : Does P f args E Rd' post' :=
  fun w hE hw => (h w hE (hR w hw)).mono fun _ _ ⟨v, E', h1, h2, h3⟩ => ⟨v, E', h1, hp v E' h2, h3⟩
/-- A call, as an operation. -/
theorem Does.small {P : Program} {f : FuncId} {args : Array Value} {E : Hl} {Rd : World → Prop} {post : Value → Hl → Prop} {a : Act} {o : Oper} (h : Does P f args E Rd post) (hr : ∀ w, (execOp a.eval o).run P w = .ok (.enter f args) w) : Small P a o E Rd post := fun w hE hw => by
  rw [hr w]
  exact (h w hE hw).mono fun _ _ ⟨v, E', h1, h2, h3⟩ => ⟨v, h1, E', h2, h3⟩

section
variable {P : Program} {ops : Array Oper} {Q : Exit → Act → World → Prop} {o : Oper} {rest : List Oper} {a : Act} {w0 w : World} {n : Sz} {l l' : List (Nat × Value)} {R : List Nat} {Hs : List Hl} {E : Hl} {Rd : World → Prop} {post : Value → Hl → Prop} {d : Nat} {v : Value}
/-- An operation that has one value and turns nothing. -/
theorem stepV (hF : Fr n l a) (hd : o.dst = some d) (hg : Region.wanted o (yielded ops a.tmps) = true) (hr : (execOp a.eval o).run P w = .ok (.value v) w) (hk : Kept d l' l) (hdn : d < n.n)
    (h : ∀ a', Fr n ((d, v) :: l') a' → wpList P ops Q rest a' w) : wpList P ops Q (o :: rest) a w := by
  refine wpList_step fun K hK => ?_
  rw [if_pos hg]
  unfold Oper.wp
  rw [hr]
  show K (a.put o.dst v) w
  rw [hd]
  exact hK _ _ (h _ (hF.put v hk hdn))
/-- One that isn't wanted. -/
theorem stepU (hF : Fr n l a) (hd : o.dst = some d) (hg : Region.wanted o (yielded ops a.tmps) = false) (hk : Kept d l' l) (hdn : d < n.n)
    (h : ∀ a', Fr n l' a' → wpList P ops Q rest a' w) : wpList P ops Q (o :: rest) a w := by
  refine wpList_step fun K hK => ?_
  rw [if_neg (by rw [hg]; simp), hd]
  exact hK _ _ (h _ ((hF.put undef hk hdn).sub (List.sublist_cons_self _ _)))
/-- One that turns heaplet i. -/
theorem stepE (i : Nat) (hF : Fr n l a) (hH : HH w0 R Hs w) (hi : Hs[i]? = some E) (hs : Small P a o E Rd post) (hRd : Rd w) (hd : o.dst = some d) (hg : Region.wanted o (yielded ops a.tmps) = true) (hk : Kept d l' l) (hdn : d < n.n)
    (h : ∀ v E' a' w', post v E' → Fr n ((d, v) :: l') a' → HH w0 R (Hs.set i E') w' → wpList P ops Q rest a' w') : wpList P ops Q (o :: rest) a w := by
  refine wpList_step fun K hK => ?_
  rw [if_pos hg]
  refine Out.wp ((hs w (hH.has i hi) hRd).mono ?_)
  rintro v w' ⟨E', h1, h2⟩
  rw [hd]
  exact hK _ _ (h v E' _ w' h1 (hF.put v hk hdn) (hH.turn i hi h2))
/-- The same, whose result is in no slot. -/
theorem stepE0 (i : Nat) (hH : HH w0 R Hs w) (hi : Hs[i]? = some E) (hs : Small P a o E Rd post) (hRd : Rd w) (hd : o.dst = none) (hg : Region.wanted o (yielded ops a.tmps) = true)
    (h : ∀ v E' w', post v E' → HH w0 R (Hs.set i E') w' → wpList P ops Q rest a w') : wpList P ops Q (o :: rest) a w := by
  refine wpList_step fun K hK => ?_
  rw [if_pos hg]
  refine Out.wp ((hs w (hH.has i hi) hRd).mono ?_)
  rintro v w' ⟨E', h1, h2⟩
  rw [hd]
  exact hK _ _ (h v E' w' h1 (hH.turn i hi h2))
/-- One that makes a heaplet, or none, and turns none. -/
theorem stepM (hF : Fr n l a) (hH : HH w0 R Hs w) (hs : Small P a o [] Rd post) (hRd : Rd w) (hd : o.dst = some d) (hg : Region.wanted o (yielded ops a.tmps) = true) (hk : Kept d l' l) (hdn : d < n.n)
    (h : ∀ v E' a' w', post v E' → Fr n ((d, v) :: l') a' → HH w0 R (Hs ++ [E']) w' → wpList P ops Q rest a' w') : wpList P ops Q (o :: rest) a w := by
  refine wpList_step fun K hK => ?_
  rw [if_pos hg]
  refine Out.wp ((hs w (Has.nil w) hRd).mono ?_)
  rintro v w' ⟨E', h1, h2⟩
  rw [hd]
  exact hK _ _ (h v E' _ w' h1 (hF.put v hk hdn) (hH.add h2))
end
/-- A guard that is met, or not. -/
theorem Fr.wanted {n : Sz} {l : List (Nat × Value)} {a : Act} {ops : Array Oper} {o : Oper} (hF : Fr n l a) (i : Nat) {j k : Nat} {b c : Bool} (hi : l[i]? = some (k, .bool b)) (hd : (ops[j]?).bind (·.dst) = some k) (hg : o.guard = some (j, c)) (hk : k < n.n) : Region.wanted o (yielded ops a.tmps) = (b == c) := by
  have h1 := hF.at i hi
  have hk' : k < a.tmps.size := by rw [hF.size]; exact hk
  have h2 : a.tmps[k]? = some (.bool b) := by
    rw [Array.getD_eq_getD_getElem?, Array.getElem?_eq_getElem hk'] at h1
    rw [Array.getElem?_eq_getElem hk']
    simpa using h1
  unfold Region.wanted yielded
  rw [hg]
  simp only [hd, Option.bind_some, h2]
  cases b <;> cases c <;> rfl
end Go.Proofs.YtfloiekaiiapnaaGreatDoor

namespace Go.Proofs.YtfloiekaiiapnaaGreatDoor
open Go Go.RowKit

section
variable {P : Program} {a : Act} {o : Oper} {w : World} {v vx vy : Value} {x y : Operand} {t t2 : TypeId}
theorem opMove (ho : o.op = .move x) (hx : a.eval x = v) : (execOp a.eval o).run P w = .ok (.value v) w := by
  unfold execOp; simp only [ho, hx, Sem.run_pure]
theorem opAssign (ho : o.op = .assign x) (hx : a.eval x = v) : (execOp a.eval o).run P w = .ok (.value v) w := by
  unfold execOp; simp only [ho, hx, Sem.run_pure]
theorem opPickT {c : Operand} (ho : o.op = .pick c x y) (hc : a.eval c = .bool true) (hx : a.eval x = v) : (execOp a.eval o).run P w = .ok (.value v) w := by
  unfold execOp; simp [ho, hx, hc, asBool]
theorem opPickF {c : Operand} (ho : o.op = .pick c x y) (hc : a.eval c = .bool false) (hy : a.eval y = v) : (execOp a.eval o).run P w = .ok (.value v) w := by
  unfold execOp; simp [ho, hy, hc, asBool]
/-- An operation on two integers of one kind. -/
theorem opInt {op : BinOp} {k : IntKind} {m j : Int} (ho : o.op = .binOp op t x y t2) (hx : a.eval x = .int k m) (hy : a.eval y = .int k j) (hr : (binOp op t (.int k m) (.int k j)).run P w = .ok v w) : (execOp a.eval o).run P w = .ok (.value v) w := by
  unfold execOp; simp [ho, hx, hy, eqGuard, hr]
theorem opAdd {k : IntKind} {m j z : Int} (ho : o.op = .binOp .add t x y t2) (hx : a.eval x = .int k m) (hy : a.eval y = .int k j) (hz : k.wrap (m + j) = z) : (execOp a.eval o).run P w = .ok (.value (.int k z)) w :=
  opInt ho hx hy (by simp [binOp, Op.intArith, hz])
theorem opSub {k : IntKind} {m j z : Int} (ho : o.op = .binOp .sub t x y t2) (hx : a.eval x = .int k m) (hy : a.eval y = .int k j) (hz : k.wrap (m - j) = z) : (execOp a.eval o).run P w = .ok (.value (.int k z)) w :=
  opInt ho hx hy (by simp [binOp, Op.intArith, hz])
theorem opMul {k : IntKind} {m j z : Int} (ho : o.op = .binOp .mul t x y t2) (hx : a.eval x = .int k m) (hy : a.eval y = .int k j) (hz : k.wrap (m * j) = z) : (execOp a.eval o).run P w = .ok (.value (.int k z)) w :=
  opInt ho hx hy (by simp [binOp, Op.intArith, hz])
theorem opQuo {k : IntKind} {m j z : Int} (ho : o.op = .binOp .quo t x y t2) (hx : a.eval x = .int k m) (hy : a.eval y = .int k j) (h0 : j ≠ 0) (hz : k.wrap (m.tdiv j) = z) : (execOp a.eval o).run P w = .ok (.value (.int k z)) w :=
  opInt ho hx hy (by simp [binOp, Op.intDiv, hz, h0])
theorem opRem {k : IntKind} {m j z : Int} (ho : o.op = .binOp .rem t x y t2) (hx : a.eval x = .int k m) (hy : a.eval y = .int k j) (h0 : j ≠ 0) (hz : m.tmod j = z) : (execOp a.eval o).run P w = .ok (.value (.int k z)) w :=
  opInt ho hx hy (by simp [binOp, Op.intDiv, hz, h0])
theorem opLss {k : IntKind} {m j : Int} {b : Bool} (ho : o.op = .binOp .lss t x y t2) (hx : a.eval x = .int k m) (hy : a.eval y = .int k j) (hb : decide (m < j) = b) : (execOp a.eval o).run P w = .ok (.value (.bool b)) w :=
  opInt ho hx hy (by subst hb; simp [binOp, Op.intCmp])
theorem opLeq {k : IntKind} {m j : Int} {b : Bool} (ho : o.op = .binOp .leq t x y t2) (hx : a.eval x = .int k m) (hy : a.eval y = .int k j) (hb : decide (m ≤ j) = b) : (execOp a.eval o).run P w = .ok (.value (.bool b)) w :=
  opInt ho hx hy (by subst hb; simp [binOp, Op.intCmp])
theorem opGtr {k : IntKind} {m j : Int} {b : Bool} (ho : o.op = .binOp .gtr t x y t2) (hx : a.eval x = .int k m) (hy : a.eval y = .int k j) (hb : decide (m > j) = b) : (execOp a.eval o).run P w = .ok (.value (.bool b)) w :=
  opInt ho hx hy (by subst hb; simp [binOp, Op.intCmp])
theorem opGeq {k : IntKind} {m j : Int} {b : Bool} (ho : o.op = .binOp .geq t x y t2) (hx : a.eval x = .int k m) (hy : a.eval y = .int k j) (hb : decide (m ≥ j) = b) : (execOp a.eval o).run P w = .ok (.value (.bool b)) w :=
  opInt ho hx hy (by subst hb; simp [binOp, Op.intCmp])
theorem opEqI {k : IntKind} {m j : Int} {b : Bool} (ho : o.op = .binOp .eql t x y t2) (hx : a.eval x = .int k m) (hy : a.eval y = .int k j) (hb : decide (m = j) = b) : (execOp a.eval o).run P w = .ok (.value (.bool b)) w :=
  opInt ho hx hy (by subst hb; simp [binOp, Op.intCmp]; rfl)
theorem opNeI {k : IntKind} {m j : Int} {b : Bool} (ho : o.op = .binOp .neq t x y t2) (hx : a.eval x = .int k m) (hy : a.eval y = .int k j) (hb : decide (m ≠ j) = b) : (execOp a.eval o).run P w = .ok (.value (.bool b)) w :=
  opInt ho hx hy (by subst hb; simp [binOp, Op.intCmp]; rfl)
theorem str_eq (p q : ByteArray) : (p.toList == q.toList) = decide (p = q) := by
  rcases p with ⟨⟨p⟩⟩
  rcases q with ⟨⟨q⟩⟩
  rw [ByteArray.toList_mk, ByteArray.toList_mk, Bool.eq_iff_iff]
  simp
theorem run_eqInP (d : Nat) {p : Option Addr} {e : TypeId} (hu : P.underlying t = some (.pointer e)) : (Op.equalIn (d + 1) t (.pointer p) (.pointer none)).run P w = .ok p.isNone w := by
  cases p <;> simp [Op.equalIn, run_underlying hu]
theorem opEqNil {e : TypeId} {p : Option Addr} {b : Bool} (ho : o.op = .binOp .eql t x y t2) (hu : P.underlying t = some (.pointer e)) (hx : a.eval x = .pointer p) (hy : a.eval y = .pointer none) (hb : p.isNone = b) : (execOp a.eval o).run P w = .ok (.value (.bool b)) w := by
  subst hb
  have h : (Op.equal t (.pointer p) (.pointer none)).run P w = .ok p.isNone w := run_eqInP 9999 hu
  have h2 : (binOp .eql t (.pointer p) (.pointer none)).run P w = .ok (.bool p.isNone) w := by
    simp only [binOp, Sem.run_bind, h, Result.andThen_ok, Sem.run_pure]
  unfold execOp
  simp [ho, hx, hy, eqGuard, h2]
theorem opEqS {p q : ByteArray} {b : Bool} (ho : o.op = .binOp .eql t x y t2) (hx : a.eval x = .string p) (hy : a.eval y = .string q) (hb : decide (p = q) = b) : (execOp a.eval o).run P w = .ok (.value (.bool b)) w := by
  subst hb
  unfold execOp; simp [ho, hx, hy, eqGuard, binOp, Op.stringOp, str_eq]
theorem opNeS {p q : ByteArray} {b : Bool} (ho : o.op = .binOp .neq t x y t2) (hx : a.eval x = .string p) (hy : a.eval y = .string q) (hb : decide (p ≠ q) = b) : (execOp a.eval o).run P w = .ok (.value (.bool b)) w := by
  subst hb
  unfold execOp; simp [ho, hx, hy, eqGuard, binOp, Op.stringOp, str_eq]
theorem opNot {b c : Bool} (ho : o.op = .unOp .not t x) (hx : a.eval x = .bool b) (hc : (!b) = c) : (execOp a.eval o).run P w = .ok (.value (.bool c)) w := by
  subst hc
  unfold execOp; simp [ho, hx, Op.unary]
theorem opNilCheck {ad : Addr} (ho : o.op = .nilCheck x) (hx : a.eval x = .pointer (some ad)) : (execOp a.eval o).run P w = .ok (.value (.pointer (some ad))) w := by
  unfold execOp; simp [ho, hx]
theorem opExtract {i : Nat} {vs : Array Value} (ho : o.op = .extract x i) (hx : a.eval x = .tuple vs) (hi : vs[i]? = some v) : (execOp a.eval o).run P w = .ok (.value v) w := by
  unfold execOp; simp [ho, hx, Instr.extract, hi]
theorem opLen {e ty : TypeId} {A : Option Addr} {n c : Nat} (ho : o.op = .call { callee := .builtin .len, args := #[x], argTypes := #[ty] }) (hu : P.underlying ty = some (.slice e)) (hx : a.eval x = .slice A n c) : (execOp a.eval o).run P w = .ok (.value (.int .i64 (n : Int))) w := by
  unfold execOp; simp [ho, hx, resolve, invoke, builtin, Builtin.len_, run_underlying hu, goInt]
theorem opMin {k : IntKind} {m j z : Int} {ts : Array TypeId} (ho : o.op = .call { callee := .builtin .min, args := #[x, y], argTypes := ts }) (hx : a.eval x = .int k m) (hy : a.eval y = .int k j) (hz : min m j = z) : (execOp a.eval o).run P w = .ok (.value (.int k z)) w := by
  subst hz
  have e : (if j < m then j else m) = min m j := by split <;> omega
  unfold execOp; simp [ho, hx, hy, resolve, invoke, builtin, Builtin.min_, Builtin.min2, e]
/-- Where a struct's field lies. -/
def fieldOff (P : Program) (s : TypeId) (f : Nat) : Option Nat :=
  match P.underlying s with
  | some (.struct fs) => match fs[f]? with
    | some fd => match P.info? fd.type with
      | some i => if i.size = 0 then none else some fd.offset
      | none => none
    | none => none
  | _ => none
theorem opField {s f off b c : Nat} (ho : o.op = .fieldAddr s x f) (hx : a.eval x = .pointer (some ⟨b, c, none⟩)) (hf : fieldOff P s f = some off) : (execOp a.eval o).run P w = .ok (.value (.pointer (some ⟨b, c + off, none⟩))) w := by
  unfold fieldOff at hf
  split at hf
  · rename_i fs hu
    split at hf
    · rename_i fd hfd
      split at hf
      · rename_i i hi
        split at hf
        · cases hf
        · rename_i h0
          obtain rfl := Option.some.inj hf
          have hadd : (⟨b, c, none⟩ : Addr).add fd.offset = ⟨b, c + fd.offset, none⟩ := Addr.add_mid ..
          unfold execOp
          simp [ho, hx, Instr.fieldAt, run_underlying hu, hfd, Instr.sureAddr, fieldPlace, sizeOf, typeInfo, hi, h0, hadd]
      · cases hf
    · cases hf
  · cases hf
/-- An element's place. -/
theorem opIndex {e ty : TypeId} {b off n c i sz : Nat} {k : IntKind} {j : Int} (ho : o.op = .indexAddr ty x y) (hu : P.underlying ty = some (.slice e)) (hs : (P.info? e).map (·.size) = some sz) (hx : a.eval x = .slice (some ⟨b, off, none⟩) n c) (hy : a.eval y = .int k j) (hj : j = (i : Int)) (hi : i < n) :
    (execOp a.eval o).run P w = .ok (.value (.pointer (some ⟨b, off + i * sz, none⟩))) w := by
  subst hj
  obtain ⟨ie, hie, rfl⟩ := Option.map_eq_some_iff.1 hs
  have hadd : (⟨b, off, none⟩ : Addr).add (i * ie.size) = ⟨b, off + i * ie.size, none⟩ := Addr.add_mid ..
  unfold execOp
  simp [ho, hx, hy, Instr.indexAt, asIntOf, run_underlying hu, sizeOf, typeInfo, hie, hadd, hi]
theorem opIndexA {e ty : TypeId} {b off n i sz : Nat} {k : IntKind} {j : Int} (ho : o.op = .indexAddr ty x y) (hu : P.underlying ty = some (.array n e)) (hs : (P.info? e).map (·.size) = some sz) (hx : a.eval x = .pointer (some ⟨b, off, none⟩)) (hy : a.eval y = .int k j) (hj : j = (i : Int)) (hi : i < n) :
    (execOp a.eval o).run P w = .ok (.value (.pointer (some ⟨b, off + i * sz, none⟩))) w := by
  subst hj
  obtain ⟨ie, hie, rfl⟩ := Option.map_eq_some_iff.1 hs
  have hadd : (⟨b, off, none⟩ : Addr).add (i * ie.size) = ⟨b, off + i * ie.size, none⟩ := Addr.add_mid ..
  unfold execOp
  simp [ho, hx, hy, Instr.indexAt, Instr.sureAddr, asIntOf, run_underlying hu, sizeOf, typeInfo, hie, hadd, hi]
theorem run_sizeOf {e : TypeId} {sz : Nat} (hs : (P.info? e).map (·.size) = some sz) (w : World) : (sizeOf e).run P w = .ok sz w := by
  obtain ⟨ie, hie, rfl⟩ := Option.map_eq_some_iff.1 hs
  simp [sizeOf, typeInfo, hie]
theorem elem_of {ty e : TypeId} (hu : P.underlying ty = some (.slice e)) : P.elem ty = e := by simp [Program.elem, hu]
theorem elem_ofA {ty e : TypeId} {n : Nat} (hu : P.underlying ty = some (.array n e)) : P.elem ty = e := by simp [Program.elem, hu]
theorem len_ofA {ty e : TypeId} {n : Nat} (hu : P.underlying ty = some (.array n e)) : P.arrayLen ty = n := by simp [Program.arrayLen, hu]
variable {e ty : TypeId} {b off n c l h sz : Nat} {kl kh : IntKind} {jl jh : Int} {xl xh : Operand}
/-- The whole of an array, as a slice. -/
theorem opSliceA (ho : o.op = .slice ty x none none none) (hu : P.underlying ty = some (.array n e)) (hs : (P.info? e).map (·.size) = some sz) (hx : a.eval x = .pointer (some ⟨b, off, none⟩)) :
    (execOp a.eval o).run P w = .ok (.value (.slice (some ⟨b, off, none⟩) n n)) w := by
  have he := elem_ofA hu
  have hn := len_ofA hu
  have hu' : P.underlying ty = some (.array (P.arrayLen ty) (P.elem ty)) := by rw [he, hn]; exact hu
  unfold execOp
  simp only [ho, Option.map_none, hx, Sem.run_bind, Sem.run_pure, run_sliceAt_array_all w ty ⟨b, off, none⟩ hu', he, hn, run_sizeOf hs, Result.andThen_ok, slicedAt]
  simp [Addr.add]
theorem opToArray {m : Nat} {A : Option Addr} (ho : o.op = .sliceToArrayPointer ty x) (hu : P.underlying ty = some (.array m e)) (hx : a.eval x = .slice A n c) (hn : m ≤ n) :
    (execOp a.eval o).run P w = .ok (.value (.pointer A)) w := by
  unfold execOp
  simp [ho, hx, Instr.arrayAt, run_underlying hu, show ¬ n < m by omega]
/-- Operands and what they are. -/
inductive Evs (a : Act) : List Operand → List Value → Prop where
  | nil : Evs a [] []
  | cons {x : Operand} {v : Value} {xs : List Operand} {vs : List Value} (h : a.eval x = v) (r : Evs a xs vs) : Evs a (x :: xs) (v :: vs)
theorem Evs.map {xs : List Operand} {vs : List Value} (h : Evs a xs vs) : xs.map a.eval = vs := by
  induction h with
  | nil => rfl
  | cons h _ ih => rw [List.map_cons, h, ih]
/-- A call of a Go function. -/
theorem opCall {f : FuncId} {fn : Func} {xs : List Operand} {vs : List Value} {ts : Array TypeId} (ho : o.op = .call { callee := .value (.func f), args := xs.toArray, argTypes := ts }) (hf : P.funcs[f]? = some fn) (hn : (fn.name == "runtime.NumGoroutine") = false) (hb : fn.body.isNone = false)
    (hx : Evs a xs vs) (w : World) : (execOp a.eval o).run P w = .ok (.enter f vs.toArray) w := by
  have e := hx.map
  unfold execOp
  simp only [ho, resolve, Act.eval, Deferred.ofValue, Sem.run_bind, Sem.run_pure, Result.andThen_ok, invoke, callFunc, run_program, hf, hn, hb, List.map_toArray]
  simp [e]
end
end Go.Proofs.YtfloiekaiiapnaaGreatDoor

namespace Go.Proofs.YtfloiekaiiapnaaGreatDoor
open Go Go.RowKit

theorem one_cells {v : Value} (h1 : v.oneCell' = true) : v.cells = #[v] := by cases v <;> first | rfl | cases h1
theorem putL_size : ∀ (vs : List Value) (cs : Array Value) (o : Nat), (putL cs o vs).size = cs.size
  | [], _, _ => rfl
  | v :: r, cs, o => by
    show (putL (cs.setIfInBounds o v) (o + 1) r).size = _
    rw [putL_size r]; simp
theorem putL_get : ∀ (vs : List Value) (cs : Array Value) (o k : Nat), (putL cs o vs)[k]? = if o ≤ k ∧ k < o + vs.length ∧ k < cs.size then vs[k - o]? else cs[k]?
  | [], cs, o, k => by
    have : ¬ (o ≤ k ∧ k < o + ([] : List Value).length ∧ k < cs.size) := by simp; omega
    rw [if_neg this]; rfl
  | v :: r, cs, o, k => by
    show (putL (cs.setIfInBounds o v) (o + 1) r)[k]? = _
    rw [putL_get r]
    simp only [Array.size_setIfInBounds, List.length_cons]
    by_cases hk : k < cs.size
    · by_cases h1 : o + 1 ≤ k ∧ k < o + 1 + r.length
      · rw [if_pos ⟨h1.1, h1.2, hk⟩, if_pos (by omega)]
        rw [show k - o = (k - (o + 1)) + 1 by omega, List.getElem?_cons_succ]
      · rw [if_neg (fun h => h1 ⟨h.1, h.2.1⟩)]
        by_cases h2 : o = k
        · subst h2
          rw [if_pos (by omega), Array.getElem?_setIfInBounds_self_of_lt hk, Nat.sub_self]
          rfl
        · rw [if_neg (by omega), Array.getElem?_setIfInBounds_ne h2]
    · rw [if_neg (by omega), if_neg (by omega), Array.getElem?_eq_none (by simp; omega), Array.getElem?_eq_none (by omega)]
section
variable {P : Program} {a : Act} {o : Oper} {w w0 : World} {R : List Nat} {Hs : List Hl} {v vx vy : Value} {x y : Operand} {t ty e : TypeId} {g off : Nat} {cs cs' : Array Value}
/-- One cell read. -/
theorem opLoadC (ho : o.op = .load ty x) (hx : a.eval x = .pointer (some ⟨g, off, none⟩)) (hdd : (P.underlying ty).map (·.isRow) = some false) (hc : w.cell? ⟨g, off, none⟩ = some v) : (execOp a.eval o).run P w = .ok (.value v) w := by
  cases h : P.underlying ty with
  | none => rw [h] at hdd; cases hdd
  | some d =>
    rw [h] at hdd
    have hd : d.isRow = false := Option.some.inj hdd
    have hag : (isAgg ty).run P w = .ok false w := by cases d <;> first | (cases hd; done) | simp [isAgg, run_underlying h]
    unfold execOp
    simp only [ho, hx, Instr.loadAt, Instr.sureAddr, loadVar, Sem.run_bind, Sem.run_pure, Result.andThen_ok, hag, Bool.false_eq_true, if_false, run_load, hc]
/-- A struct or an array read. -/
theorem opLoadRC {xs : Array Value} (ho : o.op = .load ty x) (hx : a.eval x = .pointer (some ⟨g, off, none⟩)) (hdd : (P.underlying ty).map (·.isRow) = some true) (hs : (P.info? ty).map (·.size) = some xs.size) (hc : ∀ j u, xs[j]? = some u → w.cell? ⟨g, off + j, none⟩ = some u) : (execOp a.eval o).run P w = .ok (.value (.agg xs)) w := by
  obtain ⟨d, hu, hdr⟩ := isRow_desc hdd
  have hr := run_loadAt_mid (P := P) w g off ty xs.toList d (fun j u hj => hc j u (by rw [Array.getElem?_toList] at hj; exact hj)) hu hdr (by rw [hs, Array.length_toList])
  unfold execOp
  simp only [ho, hx, Sem.run_bind, Sem.run_pure, Result.andThen_ok, hr]
/-- A cell laid. -/
theorem smStore (ho : o.op = .store ty x y) (hx : a.eval x = .pointer (some ⟨g, off, none⟩)) (hy : a.eval y = v) (hs : (P.info? ty).map (·.size) = some 1) (hn : off < cs.size) (h1 : v.oneCell' = true) (hcs : cs.setIfInBounds off v = cs') :
    Small P a o [bl g t cs] (fun _ => True) (fun _ E' => E' = [bl g t cs']) := fun w hE _ => by
  subst hcs
  have hh := Has.hold hE
  have hc := one_cells h1
  have hth := Hold.there hh 0 rfl off 1 (by omega)
  have := run_storeCells_cells (P := P) g off [v] 0 w (fun j hj => by simpa using (hth j (by simpa using hj)).1) (fun j hj => by simpa using (hth j (by simpa using hj)).2) (fun x hx => by simp at hx; subst hx; exact h1)
  have hr : (Instr.storeAt ty (.pointer (some ⟨g, off, none⟩)) v).run P w = .ok () (w.setCell ⟨g, off, none⟩ v) := by
    cases hq : P.info? ty with
    | none => simp [hq] at hs
    | some i =>
      have hs : i.size = 1 := by simpa [hq] using hs
      simp only [Nat.add_zero] at this
      simp only [Instr.storeAt, Instr.sureAddr, Sem.run_bind, Sem.run_pure, Result.andThen_ok]
      simp [storeVar, sizeOf, typeInfo, hq, hc, hs, this, World.setCells]
  unfold execOp
  simp only [ho, hx, hy, Sem.run_bind, Sem.run_pure, Result.andThen_ok, hr]
  exact ⟨_, rfl, hh.setCell 0 rfl off v⟩
/-- A struct or an array laid. -/
theorem smStoreR {xs : Array Value} (ho : o.op = .store ty x y) (hx : a.eval x = .pointer (some ⟨g, off, none⟩)) (hy : a.eval y = .agg xs) (hs : (P.info? ty).map (·.size) = some xs.size) (hn : off + xs.size ≤ cs.size) (h1 : xs.all (·.oneCell') = true) (hcs : putL cs off xs.toList = cs') :
    Small P a o [bl g t cs] (fun _ => True) (fun _ E' => E' = [bl g t cs']) := fun w hE _ => by
  subst hcs
  have hh := Has.hold hE
  have hr := run_storeAt_mid (P := P) w g off ty xs (Hold.there hh 0 rfl off xs.size hn) hs h1
  unfold execOp
  simp only [ho, hx, hy, Sem.run_bind, Sem.run_pure, Result.andThen_ok, hr]
  exact ⟨_, rfl, Hold.setCells xs.toList off hh 0 rfl⟩
theorem Has.new (w : World) (ob : Obj) : Hold w [] [(w.heap.size, ob)] (w.alloc ob) := by
  have := (Hold.init w).new ob
  simpa using this
/-- A new variable. -/
theorem smAlloc {z : Value} (ho : o.op = .alloc ty) (hz : (P.info? ty).bind (·.zero) = some z) (hcs : z.cells = cs) : Small P a o [] (fun _ => True) (fun v E' => ∃ g, v = ptrV g ∧ E' = [bl g ty cs]) := fun w _ _ => by
  subst hcs
  have hr : (Instr.alloc ty true (.tuple #[])).run P w = .ok (.pointer (some ⟨w.heap.size, 0, none⟩)) (w.alloc (.cells z.cells ty)) := by
    cases hq : P.info? ty with
    | none => simp [hq] at hz
    | some i =>
      have hs : i.zero = some z := by simpa [hq] using hz
      simp [Instr.alloc, zeroValue, typeInfo, hq, hs, newVar, newRow]
  unfold execOp
  simp only [ho, Sem.run_bind, Sem.run_pure, Result.andThen_ok, hr]
  exact ⟨_, ⟨_, rfl, rfl⟩, Has.new w _⟩
theorem smBox (ho : o.op = .box ty x) (hx : a.eval x = v) (hcs : v.cells = cs) : Small P a o [] (fun _ => True) (fun v E' => ∃ g, v = ptrV g ∧ E' = [bl g ty cs]) := fun w _ _ => by
  subst hcs
  have hr : (Instr.box ty v).run P w = .ok (.pointer (some ⟨w.heap.size, 0, none⟩)) (w.alloc (.cells v.cells ty)) := by
    simp [Instr.box, newVar, newRow]
  unfold execOp
  simp only [ho, hx, Sem.run_bind, Sem.run_pure, Result.andThen_ok, hr]
  exact ⟨_, ⟨_, rfl, rfl⟩, Has.new w _⟩
/-- make, of n elements. -/
theorem smMake {n sz by_ : Nat} {z : Value} {k k2 : IntKind} {m m2 : Int} (ho : o.op = .makeSlice ty x y) (hu : P.underlying ty = some (.slice e)) (hi : (P.info? e).map (fun i => (i.zero, i.size, i.bytes)) = some (some z, sz, by_)) (hx : a.eval x = .int k m) (hy : a.eval y = .int k2 m2) (hm : m = (n : Int)) (hm2 : m2 = (n : Int)) (hb : by_ * n ≤ 281474976710656) (hn : n ≤ 9223372036854775807) (hcs : madeCells z.cells (n * sz) = cs) :
    Small P a o [] (fun _ => True) (fun v E' => ∃ g, v = .slice (some ⟨g, 0, none⟩) n n ∧ E' = [bl g e cs]) := fun w _ _ => by
  subst hcs hm hm2
  obtain ⟨i, hi', h2⟩ := Option.map_eq_some_iff.1 hi
  simp only [Prod.mk.injEq] at h2
  obtain ⟨hz, rfl, rfl⟩ := h2
  have hr := run_make (P := P) w ty e i z hu hi' hz k k2 n n (by omega) (by omega) (by rw [← Int.natCast_mul]; omega) (by omega)
  rw [Int.toNat_natCast] at hr
  unfold execOp
  simp only [ho, hx, hy, Sem.run_bind, Sem.run_pure, Result.andThen_ok, hr]
  exact ⟨_, ⟨_, rfl, rfl⟩, Has.new w _⟩
/-- A literal of a slice: of nothing; of one element. -/
theorem smLit0 (ho : o.op = .buildSlice ty 0 #[]) (hu : P.underlying ty = some (.slice e)) (hs : ((P.info? e).map (·.size)).isSome = true) :
    Small P a o [] (fun _ => True) (fun v E' => ∃ g, v = .slice (some ⟨g, 0, none⟩) 0 0 ∧ E' = [bl g e #[]]) := fun w _ _ => by
  obtain ⟨sz, hs⟩ := Option.isSome_iff_exists.1 hs
  obtain ⟨i, hi, rfl⟩ := Option.map_eq_some_iff.1 hs
  have hr : (Instr.buildSlice ty 0 #[]).run P w = .ok (.slice (some ⟨w.heap.size, 0, none⟩) 0 0) (w.alloc (.cells #[] e)) := by
    simp [Instr.buildSlice, run_underlying hu, sizeOf, typeInfo, hi, newRow, Instr.fill]
    rw [show Array.range 0 = #[] from rfl, Array.map_empty]
  unfold execOp
  simp only [ho, Sem.run_bind, Sem.run_pure, Result.andThen_ok, List.map_toArray, List.map_nil, hr]
  exact ⟨_, ⟨_, rfl, rfl⟩, Has.new w _⟩
theorem smLit1 {sz : Nat} {z : Value} {by_ : Nat} (ho : o.op = .buildSlice ty 1 #[(0, x)]) (hu : P.underlying ty = some (.slice e)) (hi : (P.info? e).map (fun i => (i.zero, i.size, i.bytes)) = some (some z, sz, by_)) (hx : a.eval x = v) (hv : v.cells.size = sz) (h0 : 0 < sz) (h1 : sz ≤ 16777216) (hcs : v.cells = cs) :
    Small P a o [] (fun _ => True) (fun v E' => ∃ g, v = .slice (some ⟨g, 0, none⟩) 1 1 ∧ E' = [bl g e cs]) := fun w _ _ => by
  subst hcs
  obtain ⟨i, hi', h2⟩ := Option.map_eq_some_iff.1 hi
  simp only [Prod.mk.injEq] at h2
  obtain ⟨hz, hsz, rfl⟩ := h2
  rw [← hsz] at hv h0 h1
  have hf : Instr.fill (fun k => some (k * i.size, i.size)) ((Array.range (1 * i.size)).map (z.cells[· % z.cells.size]!)) [(0, v)] = some v.cells := by
    obtain ⟨g1, g2⟩ := Great.foldl_set 0 v.cells.toList 0 ((Array.range (1 * i.size)).map (z.cells[· % z.cells.size]!))
    unfold Instr.fill
    simp only [hv]
    rw [if_neg (by simp)]
    unfold Instr.fill
    congr 1
    apply Array.ext_getElem?
    intro k
    have g3 := g2 k
    simp only [Nat.zero_mul, Array.toList_zipIdx, ← Array.foldl_toList] at g3 ⊢
    rw [g3]
    simp only [Array.length_toList, Array.size_map, Array.size_range, Nat.zero_add, Nat.one_mul, hv, Nat.sub_zero, Array.getElem?_toList]
    by_cases hk : k < i.size
    · rw [if_pos ⟨Nat.zero_le _, hk, hk⟩]
    · rw [if_neg (by omega), Array.getElem?_eq_none (by simp; omega), Array.getElem?_eq_none (by omega)]
  have hr := run_buildSlice (P := P) w ty e 1 #[(0, v)] v.cells i z hu hi' hz (by omega) (by omega) hf
  unfold execOp
  simp only [ho, Sem.run_bind, Sem.run_pure, Result.andThen_ok, List.map_toArray, List.map_cons, List.map_nil, hx, hr]
  exact ⟨_, ⟨_, rfl, rfl⟩, Has.new w _⟩

/-- A slice of the call's own, of n elements of sz cells, that are xs; it may be nil. -/
def OwnS (e : TypeId) (sz : Nat) (v : Value) (n : Nat) (xs : List Value) (E : Hl) : Prop :=
  xs.length = n * sz ∧ ((v = .slice none 0 0 ∧ n = 0 ∧ E = []) ∨
    ∃ g cap cur, v = .slice (some ⟨g, 0, none⟩) n cap ∧ E = [bl g e cur] ∧ n ≤ cap ∧ cap ≤ maxLen ∧ cur.size = cap * sz ∧ cur.toList.take (n * sz) = xs)
theorem OwnS.nil (e : TypeId) (sz : Nat) : OwnS e sz (.slice none 0 0) 0 [] [] := ⟨by simp, .inl ⟨rfl, rfl, rfl⟩⟩
theorem OwnS.slice {sz n : Nat} {xs : List Value} {E : Hl} (h : OwnS e sz v n xs E) : ∃ A c, v = .slice A n c := by
  rcases h.2 with ⟨rfl, rfl, _⟩ | ⟨g, cap, cur, rfl, _⟩
  · exact ⟨_, _, rfl⟩
  · exact ⟨_, _, rfl⟩
theorem add_zero_at (g k : Nat) : (⟨g, 0, none⟩ : Addr).add k = ⟨g, k, none⟩ := by rw [Addr.add_mid, Nat.zero_add]
/-- What is read of a slice. -/
def Cells (w : World) (A : Option Addr) (xs : List Value) : Prop := ∀ p j u, A = some p → xs[j]? = some u → w.cell? (p.add j) = some u
/-- append, to a slice of the call's own. -/
theorem smAppend {sz by_ n m c : Nat} {z : Value} {xs news : List Value} {A : Option Addr} {E : Hl} (ho : o.op = .call { callee := .builtin .append, args := #[x, y], argTypes := #[ty, ty] })
    (hu : P.underlying ty = some (.slice e)) (hi : (P.info? e).map (fun i => (i.zero, i.size, i.bytes)) = some (some z, sz, by_)) (hzs : z.cells.size = sz) (hsz : 0 < sz)
    (hx : a.eval x = v) (hO : OwnS e sz v n xs E) (hy : a.eval y = .slice A m c) (hA : A = none → m = 0 ∧ c = 0) (hl : news.length = m * sz) (h1 : ∀ u ∈ news, u.oneCell' = true) (h63 : n + m ≤ maxLen) (hbytes : (n + m) * by_ ≤ 140737488355328) :
    Small P a o E (fun w => Cells w A news) (fun v' E' => OwnS e sz v' (n + m) (xs ++ news) E' ∧ (v' = .slice none 0 0 ↔ v = .slice none 0 0 ∧ m = 0)) := fun w hE hR => by
  obtain ⟨i, hi', h2⟩ := Option.map_eq_some_iff.1 hi
  simp only [Prod.mk.injEq] at h2
  obtain ⟨hz, rfl, rfl⟩ := h2
  have hsmall : n + m ≤ 9223372036854775807 := by simp only [maxLen] at h63; omega
  have hlen : (xs ++ news).length = (n + m) * i.size := by rw [List.length_append, hO.1, hl, Nat.add_mul]
  suffices h : ∃ v' w' E', (Builtin.append_ #[ty, ty] o.type #[v, .slice A m c]).run P w = .ok v' w' ∧ (OwnS e i.size v' (n + m) (xs ++ news) E' ∧ (v' = .slice none 0 0 ↔ v = .slice none 0 0 ∧ m = 0)) ∧ Hold w (bks E) E' w' by
    obtain ⟨v', w', E', hr, hp, hh⟩ := h
    unfold execOp
    simp only [ho, resolve, invoke, builtin, Sem.run_bind, Sem.run_pure, Result.andThen_ok, List.map_toArray, List.map_cons, List.map_nil, hx, hy, hr]
    exact ⟨E', hp, hh⟩
  have hhold := Has.hold hE
  cases A with
  | none =>
    obtain ⟨rfl, rfl⟩ := hA rfl
    obtain rfl : news = [] := List.eq_nil_of_length_eq_zero (by simpa using hl)
    refine ⟨v, w, E, ?_, ⟨by simpa using hO, by simp⟩, hhold⟩
    rcases hO.2 with ⟨rfl, rfl, _⟩ | ⟨g, cap, cur, rfl, _, hnc, _⟩
    · simp [Builtin.append_, run_underlying hu, sizeOf, typeInfo, hi', Builtin.lenOf, Builtin.firstCells]
    · simp [Builtin.append_, run_underlying hu, sizeOf, typeInfo, hi', Builtin.lenOf, Builtin.firstCells, hnc, storeCells]
  | some p =>
    have hnews : ∀ j u, news[j]? = some u → w.cell? (p.add j) = some u := fun j u hj => hR p j u rfl hj
    have grown : ∀ (old : Nat), old < n + m → ∀ (B : List Nat),
        OwnS e i.size (.slice (some ⟨w.heap.size, 0, none⟩) (n + m) (grownCap w (n + m) old e)) (n + m) (xs ++ news) [bl w.heap.size e (xs.toArray ++ news.toArray ++ Builtin.zeroCells z.cells (grownCap w (n + m) old e - (n + m)))] ∧
        Hold w B [bl w.heap.size e (xs.toArray ++ news.toArray ++ Builtin.zeroCells z.cells (grownCap w (n + m) old e - (n + m)))] (w.drew.alloc (.cells (xs.toArray ++ news.toArray ++ Builtin.zeroCells z.cells (grownCap w (n + m) old e - (n + m))) e)) := by
      intro old ho B
      have hge := grownCap_ge w (n + m) old e
      have hcm : grownCap w (n + m) old e ≤ maxLen := grownCap_le_maxLen w (n + m) old e h63
      refine ⟨⟨hlen, .inr ⟨w.heap.size, _, _, rfl, rfl, hge, hcm, ?_, ?_⟩⟩, ?_⟩
      · simp only [Array.size_append, List.size_toArray, size_zeroCells, hzs, hO.1, hl, ← Nat.add_mul]
        congr 1
        omega
      · simp only [Array.toList_append, List.append_assoc]
        rw [← List.append_assoc, ← hlen]
        exact List.take_left
      · have := Has.new w.drew (.cells (xs.toArray ++ news.toArray ++ Builtin.zeroCells z.cells (grownCap w (n + m) old e - (n + m))) e)
        exact ⟨this.os, this.tape, this.output, this.size, this.blk, this.ne, fun x hx => (this.own x hx).imp id (fun h => (by cases h)), fun k hk _ => this.frame k hk (by simp)⟩
    rcases hO.2 with ⟨rfl, rfl, rfl⟩ | ⟨g, cap, cur, rfl, rfl, hnc, hcm, hcs, htake⟩
    · obtain rfl : xs = [] := List.eq_nil_of_length_eq_zero (by simpa using hO.1)
      by_cases hm : m = 0
      · subst hm
        obtain rfl : news = [] := List.eq_nil_of_length_eq_zero (by simpa using hl)
        refine ⟨.slice none 0 0, w, [], ?_, ⟨OwnS.nil _ _, by simp⟩, hhold⟩
        simp [Builtin.append_, run_underlying hu, sizeOf, typeInfo, hi', Builtin.lenOf, Builtin.firstCells, loadCells, loadCellsFrom]
      · have hr := run_append_nil (P := P) w ty o.type e i z hu hi' hz p m c news hl hnews (by omega) (by omega) (by have hb := hbytes; simp only [Nat.zero_add] at hb; omega)
        have hgr := grown 0 (by omega) (bks [])
        simp only [Nat.zero_add, List.nil_append, Array.empty_append] at hgr ⊢
        exact ⟨_, _, _, hr, ⟨hgr.1, by simp [hm]⟩, hgr.2⟩
    · have hg : w.heap[g]? = some (.cells cur e (0, 0)) := hE.blk (g, _) (by simp)
      by_cases hroom : n + m ≤ cap
      · have hfit : n * i.size + news.length ≤ cur.size := by rw [hl, hcs, ← Nat.add_mul]; exact Nat.mul_le_mul_right _ hroom
        have hr := run_append_room (P := P) w ty o.type e i hu hi' g n cap cur hg p m c news hl hnews h1 hroom hfit
        refine ⟨_, _, _, hr, ⟨⟨hlen, .inr ⟨g, cap, _, rfl, rfl, hroom, hcm, ?_, ?_⟩⟩, by simp⟩, hhold.setRow 0 rfl _⟩
        · simp only [List.size_toArray, List.length_append, List.length_take, List.length_drop, Array.length_toList]
          omega
        · rw [htake, ← hlen]
          exact List.take_left
      · have holds : ∀ j u, xs[j]? = some u → w.cell? ((⟨g, 0, none⟩ : Addr).add j) = some u := fun j u hj => by
          rw [add_zero_at, cell_of_row w g j cur e (0, 0) hg]
          rw [← htake, List.getElem?_take] at hj
          split at hj
          · simpa using hj
          · cases hj
        have hr := run_append_grow (P := P) w ty o.type e i z hu hi' hz ⟨g, 0, none⟩ n cap xs hO.1 holds p m c news hl hnews (by omega) (by omega) (growslice_fits (by omega) hbytes)
        have hgr := grown cap (by omega) (bks [bl g e cur])
        exact ⟨_, _, _, hr, ⟨hgr.1, by simp⟩, hgr.2⟩
/-- copy, into a block. -/
theorem smCopy {ty2 : TypeId} {sz dn dc sn sc k : Nat} {news : List Value} {A : Option Addr} (ho : o.op = .call { callee := .builtin .copy, args := #[x, y], argTypes := #[ty, ty2] })
    (hu : P.underlying ty = some (.slice e)) (hs : (P.info? e).map (·.size) = some sz) (hx : a.eval x = .slice (some ⟨g, off, none⟩) dn dc) (hy : a.eval y = .slice A sn sc) (hA : A = none → sn = 0)
    (hk : k = Nat.min sn dn) (hl : news.length = k * sz) (h1 : ∀ u ∈ news, u.oneCell' = true) (hfit : off + k * sz ≤ cs.size) (hcs : putL cs off news = cs') :
    Small P a o [bl g t cs] (fun w => Cells w A news) (fun v' E' => v' = .int .i64 (k : Int) ∧ E' = [bl g t cs']) := fun w hE hR => by
  subst hcs
  obtain ⟨i, hi, rfl⟩ := Option.map_eq_some_iff.1 hs
  have hh := Has.hold hE
  have hth := Hold.there hh 0 rfl off (k * i.size) (by omega)
  have hst := run_storeCells_cells (P := P) g off news 0 w (fun j hj => by simpa using (hth j (by omega)).1) (fun j hj => by simpa using (hth j (by omega)).2) h1
  simp only [Nat.add_zero] at hst
  have hf : (Builtin.firstCells i.size k (.slice A sn sc)).run P w = .ok news.toArray w := by
    cases A with
    | none =>
      have h0 := hA rfl
      subst h0
      have : k = 0 := by rw [hk]; exact Nat.zero_min _
      subst this
      obtain rfl : news = [] := List.eq_nil_of_length_eq_zero (by simpa using hl)
      simp [Builtin.firstCells]
    | some p => exact run_firstCells_some (P := P) w i.size k p sn sc news hl fun j u hj => hR p j u rfl hj
  have hr : (Builtin.copy_ #[ty, ty2] o.type #[.slice (some ⟨g, off, none⟩) dn dc, .slice A sn sc]).run P w = .ok (goInt k) (w.setCells g off news) := by
    simp [Builtin.copy_, run_underlying hu, sizeOf, typeInfo, hi, Builtin.lenOf, ← hk, hf, hst]
  unfold execOp
  simp only [ho, resolve, invoke, builtin, Sem.run_bind, Sem.run_pure, Result.andThen_ok, List.map_toArray, List.map_cons, List.map_nil, hx, hy, hr]
  exact ⟨_, ⟨rfl, rfl⟩, Hold.setCells news off hh 0 rfl⟩
end
end Go.Proofs.YtfloiekaiiapnaaGreatDoor

namespace Go.Proofs.YtfloiekaiiapnaaGreatDoor
open Go

section
variable {P : Program} {ops : Array Oper} {Q : Exit → Act → World → Prop} {md : Region.Mode}

/-- Operation i waits for operation k. -/
def edgeW (md : Region.Mode) (ops : Array Oper) (i k : Nat) : Bool :=
  match ops[i]? with
  | some o => o.after.any fun e => Region.binds md e && e.on == k
  | none => false
/-- Each of the list waits for the next one. -/
def pathW (md : Region.Mode) (ops : Array Oper) : List Nat → Bool
  | i :: k :: r => edgeW md ops i k && pathW md ops (k :: r)
  | _ => true
def Behind (md : Region.Mode) (ops : Array Oper) (i p : Nat) : Prop := ∃ r, pathW md ops (i :: (r ++ [p])) = true
/-- Any two operations are one ahead of the other, or apart. -/
def okAll (md : Region.Mode) (ops : Array Oper) : Bool :=
  Region.noSelect ops && (List.range ops.size).all fun i => (List.range ops.size).all fun j => i == j || edgeW md ops i j || edgeW md ops j i || match ops[i]?, ops[j]? with
    | some x, some y => x.apart ops y
    | _, _ => true

theorem edgeW_spec {i k : Nat} (h : edgeW md ops i k = true) : ∃ o, ops[i]? = some o ∧ ∃ e ∈ o.after, Region.binds md e = true ∧ e.on = k := by
  unfold edgeW at h
  split at h
  · rename_i o ho
    simp only [Array.any_eq_true', Bool.and_eq_true, beq_iff_eq] at h
    exact ⟨o, ho, h⟩
  · cases h
theorem behind_listed {L : Array Bool} (hc : Closed md ops L) {p : Nat} : ∀ (r : List Nat) (i : Nat), pathW md ops (i :: (r ++ [p])) = true → (∀ k, edgeW md ops i k = true → L.getD k false = true) → L.getD p false = true
  | [], i, h, hi => by
    simp only [List.nil_append, pathW, Bool.and_true] at h
    exact hi p h
  | k :: r, i, h, hi => by
    simp only [List.cons_append, pathW, Bool.and_eq_true] at h
    refine behind_listed hc r k h.2 fun m hm => ?_
    obtain ⟨o, ho, e, he, hb, rfl⟩ := edgeW_spec hm
    exact hc k o ho (getD_up (hi k h.1)) e he hb
theorem ready_edges {L : Array Bool} {i : Nat} (hi : i ∈ Region.ready md ops L) : ∀ k, edgeW md ops i k = true → L.getD k false = true := fun k hk => by
  obtain ⟨_, o, ho, hall⟩ := mem_ready.1 hi
  obtain ⟨o', ho', e, he, hb, rfl⟩ := edgeW_spec hk
  rw [ho] at ho'
  obtain rfl := Option.some.inj ho'
  exact hall e he hb

/-- Operation j, which doesn't panic. -/
def opO (P : Program) (ops : Array Oper) (j : Nat) (K : Act → World → Prop) (a : Act) (w : World) : Prop :=
  match ops[j]? with
  | none => False
  | some o => if Region.wanted o (yielded ops a.tmps) then Out P (fun v w' => K (a.put o.dst v) w') ((execOp a.eval o).run P w) else K (a.put o.dst undef) w
theorem opO_wp {j : Nat} {K : Act → World → Prop} {a : Act} {w : World} (h : opO P ops j K a w) : wpOp P ops Q j K a w := by
  unfold opO at h
  unfold Go.wpOp
  split
  · rename_i h0; rw [h0] at h; exact h.elim
  · rename_i o h0
    simp only [h0] at h
    split
    · rename_i hw; simp only [hw, if_true] at h; exact .inl (Out.wp h)
    · rename_i hw; simp only [hw] at h; exact h
theorem opO_mono {j : Nat} {K K' : Act → World → Prop} (hk : ∀ a w, K a w → K' a w) {a : Act} {w : World} (h : opO P ops j K a w) : opO P ops j K' a w := by
  unfold opO at *
  split
  · rename_i h0; rw [h0] at h; exact h
  · rename_i o h0
    simp only [h0] at h
    split
    · rename_i hw; simp only [hw, if_true] at h; exact h.mono fun _ _ => hk _ _
    · rename_i hw; simp only [hw] at h; exact hk _ _ h

abbrev Pend := List (Nat × (World → Prop))
/-- The walk: Ss: what the operations that were taken ahead of their turn ask of the world. -/
def wpX (P : Program) (md : Region.Mode) (ops : Array Oper) (Q : Exit → Act → World → Prop) : Nat → Pend → Array Bool → Act → World → Prop
  | 0, _, L, a, w => Region.ready md ops L = [] ∧ Q .normal a w
  | n + 1, Ss, L, a, w => (Region.ready md ops L = [] → Q .normal a w) ∧ ∀ j ∈ Region.ready md ops L,
      opO P ops j (fun a' w' => ∃ Ss', (∀ s ∈ Ss, s ∈ Ss' ∨ Behind md ops j s.1) ∧ (∀ s ∈ Ss', s.2 w') ∧ wpX P md ops Q n Ss' (L.setIfInBounds j true) a' w') a w
theorem wpX_any : ∀ (n : Nat) {Ss : Pend} {L : Array Bool} {a : Act} {w : World}, wpX P md ops Q n Ss L a w → wpAny P md ops Q n L a w
  | 0, _, _, _, _, h => h
  | n + 1, _, _, _, _, h => ⟨h.1, fun j hj => opO_wp (opO_mono (fun _ _ ⟨_, _, _, h⟩ => wpX_any n h) (h.2 j hj))⟩
theorem wpX_sub {n : Nat} {Ss Ss' : Pend} {L : Array Bool} {a : Act} {w : World} (h : wpX P md ops Q n Ss L a w) (hs : ∀ s ∈ Ss', s ∈ Ss) : wpX P md ops Q n Ss' L a w := by
  cases n with
  | zero => exact h
  | succ n => exact ⟨h.1, fun j hj => opO_mono (fun _ _ ⟨T, h1, h2, h3⟩ => ⟨T, fun s hs' => h1 s (hs s hs'), h2, h3⟩) (h.2 j hj)⟩

theorem wpX_first {i : Nat} {oi : Oper} {v : Value} {S : World → Prop} (hi : ops[i]? = some oi) (hok : okAll md ops = true) :
    ∀ (n : Nat) (Ss : Pend) (L : Array Bool) (a : Act) (w : World), Closed md ops L → i ∈ Region.ready md ops L → S w → (∀ s ∈ Ss, s.2 w) → YieldsIf P ops S oi v a →
      wpX P md ops Q n ((i, S) :: Ss) (L.setIfInBounds i true) (a.put oi.dst v) w → wpX P md ops Q (n + 1) Ss L a w := by
  have hok' := hok
  unfold okAll at hok
  rw [Bool.and_eq_true] at hok
  have hsel := Region.noSelect_spec hok.1
  have hall := hok.2
  intro n
  induction n with
  | zero =>
    intro Ss L a w hc hr hS hSs hy H
    refine ⟨fun h => (by rw [h] at hr; cases hr), fun j hj => ?_⟩
    by_cases hji : j = i
    · subst hji
      unfold opO
      simp only [hi]
      split
      · rename_i hw
        rcases hy with ⟨_, hv⟩ | ⟨hw', _⟩
        · rw [hv w hS]; exact ⟨Ss, fun s hs => .inl hs, hSs, wpX_sub H fun s hs => List.mem_cons_of_mem _ hs⟩
        · rw [hw'] at hw; cases hw
      · rename_i hw
        rcases hy with ⟨hw', _⟩ | ⟨_, rfl⟩
        · exact absurd hw' hw
        · exact ⟨Ss, fun s hs => .inl hs, hSs, wpX_sub H fun s hs => List.mem_cons_of_mem _ hs⟩
    · have := ready_mono hj hji
      rw [H.1] at this
      cases this
  | succ n ih =>
    intro Ss L a w hc hr hS hSs hy H
    refine ⟨fun h => (by rw [h] at hr; cases hr), fun j hj => ?_⟩
    by_cases hji : j = i
    · subst hji
      unfold opO
      simp only [hi]
      split
      · rename_i hw
        rcases hy with ⟨_, hv⟩ | ⟨hw', _⟩
        · rw [hv w hS]; exact ⟨Ss, fun s hs => .inl hs, hSs, wpX_sub H fun s hs => List.mem_cons_of_mem _ hs⟩
        · rw [hw'] at hw; cases hw
      · rename_i hw
        rcases hy with ⟨hw', _⟩ | ⟨_, rfl⟩
        · exact absurd hw' hw
        · exact ⟨Ss, fun s hs => .inl hs, hSs, wpX_sub H fun s hs => List.mem_cons_of_mem _ hs⟩
    · have hH := H.2 j (ready_mono hj hji)
      obtain ⟨hjun, oj, hoj, _⟩ := mem_ready.1 hj
      have hiun := (mem_ready.1 hr).1
      have hij1 : ∀ x y : Nat, x ∈ Region.ready md ops L → L.getD y true = false → edgeW md ops x y = false := fun x y hx hy => by
        cases he : edgeW md ops x y
        · rfl
        · have := ready_edges hx y he
          rw [getD_down hy] at this; cases this
      have hap : oi.apart ops oj = true := by
        have h1 := List.all_eq_true.1 (List.all_eq_true.1 hall i (List.mem_range.2 (Array.getElem?_eq_some_iff.1 hi).1)) j (List.mem_range.2 (Array.getElem?_eq_some_iff.1 hoj).1)
        rw [hij1 i j hr hjun, hij1 j i hj hiun, hi, hoj] at h1
        simpa [Ne.symm hji] using h1
      obtain ⟨h1, h2, h3⟩ := Oper.apart_spec hap
      have he : execOp (a.put oi.dst v).eval oj = execOp a.eval oj := execOp_put oj (fun cs b => hsel j oj cs b hoj) a oi.dst v h1
      have hw : Region.wanted oj (yielded ops (a.put oi.dst v).tmps) = Region.wanted oj (yielded ops a.tmps) := wanted_put oj a oi.dst v h1
      have hnb : ¬ Behind md ops j i := fun ⟨r, hr'⟩ => by
        have := behind_listed hc r j hr' (ready_edges hj)
        rw [getD_down hiun] at this; cases this
      have key : ∀ (u : Value) (w' : World), (∃ Ss', (∀ s ∈ (i, S) :: Ss, s ∈ Ss' ∨ Behind md ops j s.1) ∧ (∀ s ∈ Ss', s.2 w') ∧ wpX P md ops Q n Ss' ((L.setIfInBounds i true).setIfInBounds j true) ((a.put oi.dst v).put oj.dst u) w') →
          ∃ Ss', (∀ s ∈ Ss, s ∈ Ss' ∨ Behind md ops j s.1) ∧ (∀ s ∈ Ss', s.2 w') ∧ wpX P md ops Q (n + 1) Ss' (L.setIfInBounds j true) (a.put oj.dst u) w' := fun u w' ⟨T, t1, t2, t3⟩ => by
        have hT : (i, S) ∈ T := (t1 (i, S) (by simp)).resolve_right hnb
        refine ⟨T, fun s hs => t1 s (List.mem_cons_of_mem _ hs), t2, ih T _ _ w' (hc.set hj) (ready_mono hr (Ne.symm hji)) (t2 _ hT) t2 ?_ ?_⟩
        · refine hy.of_same (execOp_put oi (fun cs b => hsel i oi cs b hi) a oj.dst u h3) (wanted_put oi a oj.dst u h3)
        · rw [Array.setIfInBounds_comm _ _ hji, ← Act.put_comm a v u h2]
          exact wpX_sub t3 fun s hs => by
            rcases List.mem_cons.1 hs with rfl | hs
            · exact hT
            · exact hs
      unfold opO at hH ⊢
      simp only [hoj] at hH ⊢
      rw [he, hw] at hH
      split
      · rename_i hw2
        simp only [hw2, if_true] at hH
        exact hH.mono fun u w' h => key u w' h
      · rename_i hw2
        simp only [hw2] at hH
        exact key undef w hH
end

/-! ### By live slots -/
section
variable {P : Program} {ops : Array Oper} {Q : Exit → Act → World → Prop} {o : Oper} {w w0 : World} {n : Sz} {d m i : Nat} {l l' : List (Nat × Value)} {L : Array Bool} {Ss Ss' : Pend} {R : List Nat} {Hs : List Hl} {E : Hl} {Rd : World → Prop} {post : Value → Hl → Prop} {v : Value}
def RX (P : Program) (ops : Array Oper) (Q : Exit → Act → World → Prop) (m : Nat) (Ss : Pend) (L : Array Bool) (n : Sz) (l : List (Nat × Value)) (w : World) : Prop :=
  okAll .any ops = true → Closed .any ops L → (∀ s ∈ Ss, s.2 w) → ∀ a, Fr n l a → wpX P .any ops Q m Ss L a w
def rdy (ops : Array Oper) (L : Array Bool) (i : Nat) : Bool := (Region.ready .any ops L).contains i
theorem region_X {id : Nat} {ls : List Oper} {a : Act} (hm : P.follows .mixedOrders = true) (hok : okAll .any ls.toArray = true) (hF : Fr n l a)
    (h : RX P ls.toArray Q ls.length [] (Array.replicate ls.length false) n l w.drew) : (Code.region id ls.toArray true).wp P Q a w := by
  refine wp_region_any hm ?_
  have := h hok (by simpa using Closed.none .any ls.toArray) (fun _ h => (by cases h)) a hF
  simpa using wpX_any _ this
/-- What has one value in whatever world. -/
theorem rxV (i : Nat) (ho : ops[i]? = some o) (hr : rdy ops L i = true) (hd : o.dst = some d) (hg : ∀ a, Fr n l a → Region.wanted o (yielded ops a.tmps) = true)
    (hv : ∀ a w, Fr n l a → (execOp a.eval o).run P w = .ok (.value v) w) (hk : Kept d l' l) (hdn : d < n.n) (h : RX P ops Q m Ss (L.setIfInBounds i true) n ((d, v) :: l') w) : RX P ops Q (m + 1) Ss L n l w := fun hok hc hS a hF => by
  have hi : i ∈ Region.ready .any ops L := by simpa [rdy] using hr
  refine wpX_first (S := fun _ => True) ho hok m Ss L a w hc hi trivial hS (.inl ⟨hg a hF, fun w _ => hv a w hF⟩) ?_
  rw [hd]
  have hF' := hF.put v hk hdn
  have := h hok (hc.set hi) hS _ hF'
  clear h
  -- the true condition is no burden
  revert this
  generalize a.put (some d) v = a'
  generalize L.setIfInBounds i true = L'
  intro h
  have key : ∀ (m : Nat) (Ss : Pend) (L' : Array Bool) (a' : Act) (w : World), wpX P .any ops Q m Ss L' a' w → wpX P .any ops Q m ((i, fun _ => True) :: Ss) L' a' w := by
    intro m
    induction m with
    | zero => intro Ss L' a' w h; exact h
    | succ m ih =>
      intro Ss L' a' w h
      refine ⟨h.1, fun j hj => opO_mono (fun a' w' ⟨T, t1, t2, t3⟩ => ⟨(i, fun _ => True) :: T, fun s hs => ?_, fun s hs => ?_, ih T _ _ _ t3⟩) (h.2 j hj)⟩
      · rcases List.mem_cons.1 hs with rfl | hs
        · exact .inl (by simp)
        · exact (t1 s hs).imp (fun h => List.mem_cons_of_mem _ h) id
      · rcases List.mem_cons.1 hs with rfl | hs
        · trivial
        · exact t2 s hs
  exact key m Ss L' a' w h
/-- What has one value in every world that meets S. -/
theorem rxS (S : World → Prop) (i : Nat) (ho : ops[i]? = some o) (hr : rdy ops L i = true) (hd : o.dst = some d) (hg : ∀ a, Fr n l a → Region.wanted o (yielded ops a.tmps) = true) (hS : S w)
    (hv : ∀ a w, Fr n l a → S w → (execOp a.eval o).run P w = .ok (.value v) w) (hk : Kept d l' l) (hdn : d < n.n) (h : RX P ops Q m ((i, S) :: Ss) (L.setIfInBounds i true) n ((d, v) :: l') w) : RX P ops Q (m + 1) Ss L n l w := fun hok hc hSs a hF => by
  have hi : i ∈ Region.ready .any ops L := by simpa [rdy] using hr
  refine wpX_first ho hok m Ss L a w hc hi hS hSs (.inl ⟨hg a hF, fun w hw => hv a w hF hw⟩) ?_
  rw [hd]
  refine h hok (hc.set hi) (fun s hs => ?_) _ (hF.put v hk hdn)
  rcases List.mem_cons.1 hs with rfl | hs
  · exact hS
  · exact hSs s hs
/-- Operation i comes up. -/
def MO (P : Program) (ops : Array Oper) (Q : Exit → Act → World → Prop) (m : Nat) (Ss : Pend) (L : Array Bool) (n : Sz) (l : List (Nat × Value)) (w : World) (i : Nat) : Prop :=
  ∃ o, ops[i]? = some o ∧ ∀ a, Fr n l a → Region.wanted o (yielded ops a.tmps) = true ∧
    Out P (fun v w' => ∃ Ss', (∀ s ∈ Ss, s ∈ Ss' ∨ Behind .any ops i s.1) ∧ (∀ s ∈ Ss', s.2 w') ∧ ∀ a', a' = a.put o.dst v → okAll .any ops = true → Closed .any ops (L.setIfInBounds i true) → wpX P .any ops Q m Ss' (L.setIfInBounds i true) a' w') ((execOp a.eval o).run P w)
theorem rxMs {is : List Nat} (hr : Region.ready .any ops L = is) (hne : is ≠ []) (h : ∀ i ∈ is, MO P ops Q m Ss L n l w i) : RX P ops Q (m + 1) Ss L n l w := fun hok hc hSs a hF => by
  refine ⟨fun h0 => absurd (hr ▸ h0) hne, fun j hj => ?_⟩
  obtain ⟨o, ho, h2⟩ := h j (hr ▸ hj)
  obtain ⟨hw, h3⟩ := h2 a hF
  unfold opO
  simp only [ho, hw, if_true]
  exact h3.mono fun v w' ⟨T, t1, t2, t3⟩ => ⟨T, t1, t2, t3 _ rfl hok (hc.set hj)⟩
theorem rx1 (i : Nat) (hr : Region.ready .any ops L = [i]) (h : MO P ops Q m Ss L n l w i) : RX P ops Q (m + 1) Ss L n l w := rxMs hr (by simp) fun j hj => by
  obtain rfl : j = i := by simpa using hj
  exact h
theorem rx2 (i j : Nat) (hr : Region.ready .any ops L = [i, j]) (h : MO P ops Q m Ss L n l w i) (h2 : MO P ops Q m Ss L n l w j) : RX P ops Q (m + 1) Ss L n l w := rxMs hr (by simp) fun k hk => by
  rcases List.mem_cons.1 hk with rfl | hk
  · exact h
  · obtain rfl : k = j := by simpa using hk
    exact h2
theorem rxEnd (hr : Region.ready .any ops L = []) (h : ∀ a, Fr n l a → Q .normal a w) : RX P ops Q m Ss L n l w := fun _ _ _ a hF => by
  cases m with
  | zero => exact ⟨hr, h a hF⟩
  | succ m => exact ⟨fun _ => h a hF, fun j hj => by rw [hr] at hj; cases hj⟩
/-- What is pending behind an operation: what waited is let go, the rest still holds. -/
def PendOk (ops : Array Oper) (i : Nat) (Ss Ss' : Pend) : Prop := ∀ s ∈ Ss, s ∈ Ss' ∨ Behind .any ops i s.1
theorem PendOk.nil (i : Nat) (Ss' : Pend) : PendOk ops i [] Ss' := fun _ h => (by cases h)
theorem PendOk.keep {i : Nat} {s : Nat × (World → Prop)} (h : PendOk ops i Ss Ss') : PendOk ops i (s :: Ss) (s :: Ss') := fun x hx => by
  rcases List.mem_cons.1 hx with rfl | hx
  · exact .inl (by simp)
  · exact (h x hx).imp (fun h => List.mem_cons_of_mem _ h) id
theorem PendOk.go {i p : Nat} {S : World → Prop} (r : List Nat) (hp : pathW .any ops (i :: (r ++ [p])) = true) (h : PendOk ops i Ss Ss') : PendOk ops i ((p, S) :: Ss) Ss' := fun x hx => by
  rcases List.mem_cons.1 hx with rfl | hx
  · exact .inr ⟨r, hp⟩
  · exact h x hx
/-- One that turns heaplet c. -/
theorem moE (c : Nat) (ho : ops[i]? = some o) (hH : HH w0 R Hs w) (hi : Hs[c]? = some E) (hs : ∀ a, Fr n l a → Small P a o E Rd post) (hRd : Rd w) (hd : o.dst = some d) (hg : ∀ a, Fr n l a → Region.wanted o (yielded ops a.tmps) = true) (hk : Kept d l' l) (hdn : d < n.n) (hp : PendOk ops i Ss Ss')
    (h : ∀ v E' w', post v E' → HH w0 R (Hs.set c E') w' → (∀ s ∈ Ss', s.2 w') ∧ RX P ops Q m Ss' (L.setIfInBounds i true) n ((d, v) :: l') w') : MO P ops Q m Ss L n l w i := by
  refine ⟨o, ho, fun a hF => ⟨hg a hF, (hs a hF w (hH.has c hi) hRd).mono ?_⟩⟩
  rintro v w' ⟨E', h1, h2⟩
  obtain ⟨h3, h4⟩ := h v E' w' h1 (hH.turn c hi h2)
  refine ⟨Ss', hp, h3, fun a' e hok hc => ?_⟩
  subst e
  rw [hd]
  exact h4 hok hc h3 _ (hF.put v hk hdn)
/-- The same, whose result is in no slot. -/
theorem moE0 (c : Nat) (ho : ops[i]? = some o) (hH : HH w0 R Hs w) (hi : Hs[c]? = some E) (hs : ∀ a, Fr n l a → Small P a o E Rd post) (hRd : Rd w) (hd : o.dst = none) (hg : ∀ a, Fr n l a → Region.wanted o (yielded ops a.tmps) = true) (hp : PendOk ops i Ss Ss')
    (h : ∀ v E' w', post v E' → HH w0 R (Hs.set c E') w' → (∀ s ∈ Ss', s.2 w') ∧ RX P ops Q m Ss' (L.setIfInBounds i true) n l w') : MO P ops Q m Ss L n l w i := by
  refine ⟨o, ho, fun a hF => ⟨hg a hF, (hs a hF w (hH.has c hi) hRd).mono ?_⟩⟩
  rintro v w' ⟨E', h1, h2⟩
  obtain ⟨h3, h4⟩ := h v E' w' h1 (hH.turn c hi h2)
  refine ⟨Ss', hp, h3, fun a' e hok hc => ?_⟩
  subst e
  rw [hd]
  exact h4 hok hc h3 _ hF
/-- One that makes a heaplet, or none, and turns none. -/
theorem moM (ho : ops[i]? = some o) (hH : HH w0 R Hs w) (hs : ∀ a, Fr n l a → Small P a o [] Rd post) (hRd : Rd w) (hd : o.dst = some d) (hg : ∀ a, Fr n l a → Region.wanted o (yielded ops a.tmps) = true) (hk : Kept d l' l) (hdn : d < n.n) (hp : PendOk ops i Ss Ss')
    (h : ∀ v E' w', post v E' → HH w0 R (Hs ++ [E']) w' → (∀ s ∈ Ss', s.2 w') ∧ RX P ops Q m Ss' (L.setIfInBounds i true) n ((d, v) :: l') w') : MO P ops Q m Ss L n l w i := by
  refine ⟨o, ho, fun a hF => ⟨hg a hF, (hs a hF w (Has.nil w) hRd).mono ?_⟩⟩
  rintro v w' ⟨E', h1, h2⟩
  obtain ⟨h3, h4⟩ := h v E' w' h1 (hH.add h2)
  refine ⟨Ss', hp, h3, fun a' e hok hc => ?_⟩
  subst e
  rw [hd]
  exact h4 hok hc h3 _ (hF.put v hk hdn)
end
end Go.Proofs.YtfloiekaiiapnaaGreatDoor

namespace Go.Proofs.YtfloiekaiiapnaaGreatDoor
open Go Go.RowKit

abbrev Slots := List (Nat × Value)
/-- Of every act whose live slots are l. -/
def CX (P : Program) (Q : Exit → Act → World → Prop) (c : Code) (n : Sz) (l : Slots) (w : World) : Prop := ∀ a, Fr n l a → c.wp P Q a w
def PX (P : Program) (ops : Array Oper) (Q : Exit → Act → World → Prop) (rest : List Oper) (n : Sz) (l : Slots) (w : World) : Prop := ∀ a, Fr n l a → wpList P ops Q rest a w
def QX (Q : Exit → Act → World → Prop) (e : Exit) (n : Sz) (l : Slots) (w : World) : Prop := ∀ a, Fr n l a → Q e a w

section
variable {P : Program} {Q : Exit → Act → World → Prop} {w w0 : World} {n : Sz} {l l' : Slots} {x y : Code} {fn : Func} {R : Ending → World → Prop}
/-! ### Code -/
theorem calls_X {n : Nat} {f : FuncId} {c : Code} {args : Array Value} (hf : P.funcs[f]? = some fn) (hb : fn.body = some c) (hn : fn.ntmps = n) (hsz : args.size ≤ n) (hl : argsL 0 args.toList = l)
    (h : CX P (bodyPost P fn R) c ⟨n, []⟩ l w) : Calls P f args w R := calls_F hf hb hn hsz hl h
theorem cxSeq (h : CX P (Exit.then (y.wp P Q) Q) x n l w) : CX P Q (.seq x y) n l w := fun a hF => wp_seq (h a hF)
theorem cxReg {id : Nat} {ls : List Oper} (h : PX P ls.toArray Q ls n l w) : CX P Q (.region id ls.toArray false) n l w := fun a hF => wp_region_lit (h a hF)
theorem cxRegX {id : Nat} {ls : List Oper} (hm : P.follows .mixedOrders = true) (hok : okAll .any ls.toArray = true) (h : RX P ls.toArray Q ls.length [] (Array.replicate ls.length false) n l w.drew) : CX P Q (.region id ls.toArray true) n l w := fun _ hF => region_X hm hok hF h
theorem cxSkip (h : QX Q .normal n l w) : CX P Q .skip n l w := fun a hF => wp_skip (h a hF)
theorem cxExit {id : Nat} (h : QX Q (.exit id) n l w) : CX P Q (.exit id) n l w := fun a hF => wp_exit (h a hF)
theorem cxRet (h : QX Q .ret n l w) : CX P Q .ret n l w := fun a hF => wp_ret (h a hF)
theorem cxBlock {id : Nat} (h : CX P (Exit.inBlock id Q) x n l w) : CX P Q (.block id x) n l w := fun a hF => wp_block (h a hF)
theorem cxP {c : Operand} {p : Prop} [Decidable p] (i : Nat) {k : Nat} (hc : c = .tmp k) (hi : l[i]? = some (k, .bool (decide p))) (ht : p → CX P Q x n l w) (hf : ¬ p → CX P Q y n l w) : CX P Q (.cond c x y) n l w := fun a hF => by
  have hv : a.eval c = .bool (decide p) := by rw [hc]; exact hF.ev i hi
  by_cases h : p
  · exact wp_cond_true (by rw [hv, decide_eq_true h]) (ht h a hF)
  · exact wp_cond_false (by rw [hv, decide_eq_false h]) (hf h a hF)
/-! ### Where a part of the code ends -/
theorem qxThen (h : CX P Q y n l w) : QX (Exit.then (y.wp P Q) Q) .normal n l w := h
theorem qxThenR {K : Act → World → Prop} (h : QX Q .ret n l w) : QX (Exit.then K Q) .ret n l w := h
theorem qxThenE {K : Act → World → Prop} {id : Nat} (h : QX Q (.exit id) n l w) : QX (Exit.then K Q) (.exit id) n l w := h
theorem qxInN {id : Nat} (h : QX Q .normal n l w) : QX (Exit.inBlock id Q) .normal n l w := h
theorem qxInR {id : Nat} (h : QX Q .ret n l w) : QX (Exit.inBlock id Q) .ret n l w := h
theorem qxInE {id : Nat} (h : QX Q .normal n l w) : QX (Exit.inBlock id Q) (.exit id) n l w := fun a hF => by
  show (if id = id then Q .normal a w else Q (.exit id) a w)
  rw [if_pos rfl]; exact h a hF
/-! ### Loops -/
section
variable {σ : Type} {fr : σ → Slots} {I : σ → World → Prop} {μ : σ → Nat}
def qLoop (n : Sz) (fr : σ → Slots) (I : σ → World → Prop) (μ : σ → Nat) (x : σ) (a : Act) (w : World) : Prop := ∃ x', (Fr n (fr x') a ∧ I x' w) ∧ μ x' < μ x
theorem cxLoop (fr : σ → Slots) (I : σ → World → Prop) (μ : σ → Nat) (x0 : σ) (h0 : I x0 w) (hfr : ∀ z ∈ fr x0, z ∈ l)
    (round : ∀ x w, I x w → CX P (Exit.then (qLoop n fr I μ x) Q) y n (fr x) w) : CX P Q (.loop y) n l w := fun _ hF =>
  loopF (σ := σ) (fun x a w => Fr n (fr x) a ∧ I x w) μ x0 ⟨hF.of hfr, h0⟩ fun x a w ⟨h1, h2⟩ => round x w h2 a h1
theorem qxRound {x0 : σ} (x : σ) (hI : I x w) (hμ : μ x < μ x0) (hfr : ∀ z ∈ fr x, z ∈ l) : QX (Exit.then (qLoop n fr I μ x0) Q) .normal n l w := fun _ hF => ⟨x, ⟨hF.of hfr, hI⟩, hμ⟩
end
/-- All of a list stand on another one, at these places. -/
theorem slots_at (is : List Nat) (h : is.map (fun i => l[i]?) = l'.map some) : ∀ z ∈ l', z ∈ l := fun z hz => by
  have h1 : some z ∈ l'.map some := List.mem_map_of_mem hz
  rw [← h] at h1
  obtain ⟨i, _, e⟩ := List.mem_map.1 h1
  exact List.mem_of_getElem? e
/-! ### Returning -/
theorem qxRet0 {n : Nat} (hf : fn.results = #[]) (hR : R (.returned (.tuple #[])) w) : QX (bodyPost P fn R) .ret ⟨n, []⟩ l w := fun _ hF => bodyPost_ret (results_none hf _ _ _) hF.defers hR
theorem qxEnd0 {n : Nat} (hf : fn.results = #[]) (hR : R (.returned (.tuple #[])) w) : QX (bodyPost P fn R) .normal ⟨n, []⟩ l w := fun _ hF => bodyPost_end (results_none hf _ _ _) hF.defers hR
theorem qxRet1 {n : Nat} {t : Tmp} {v : Value} (i : Nat) (hf : fn.results = #[.tmp t]) (hi : l[i]? = some (t, v)) (hR : R (.returned v) w) : QX (bodyPost P fn R) .ret ⟨n, []⟩ l w := fun a hF =>
  bodyPost_ret (v := v) (by rw [results_tmp hf, hF.at i hi]) hF.defers hR
theorem qxRet2 {n : Nat} {t u : Tmp} {v v2 : Value} (i j : Nat) (hf : fn.results = #[.tmp t, .tmp u]) (hi : l[i]? = some (t, v)) (hj : l[j]? = some (u, v2)) (hR : R (.returned (.tuple #[v, v2])) w) : QX (bodyPost P fn R) .ret ⟨n, []⟩ l w := fun a hF =>
  bodyPost_ret (v := .tuple #[v, v2]) (by rw [results_tmp2 hf, hF.at i hi, hF.at j hj]) hF.defers hR
theorem qxRet3 {n : Nat} {t u s : Tmp} {v v2 v3 : Value} (i j k : Nat) (hf : fn.results = #[.tmp t, .tmp u, .tmp s]) (hi : l[i]? = some (t, v)) (hj : l[j]? = some (u, v2)) (hk : l[k]? = some (s, v3)) (hR : R (.returned (.tuple #[v, v2, v3])) w) : QX (bodyPost P fn R) .ret ⟨n, []⟩ l w := fun a hF =>
  bodyPost_ret (v := .tuple #[v, v2, v3]) (by rw [results_tmp3 hf, hF.at i hi, hF.at j hj, hF.at k hk]) hF.defers hR
end

/-! ### Plain regions -/
section
variable {P : Program} {ops : Array Oper} {Q : Exit → Act → World → Prop} {o : Oper} {rest : List Oper} {w w0 : World} {n : Sz} {d : Nat} {l l' : Slots} {R : List Nat} {Hs : List Hl} {E : Hl} {Rd : World → Prop} {post : Value → Hl → Prop} {v : Value}
theorem pxEnd (h : QX Q .normal n l w) : PX P ops Q [] n l w := h
theorem pxV (hv : ∀ a w, Fr n l a → (execOp a.eval o).run P w = .ok (.value v) w) (hd : o.dst = some d) (hg : ∀ a, Fr n l a → Region.wanted o (yielded ops a.tmps) = true) (hk : Kept d l' l) (hdn : d < n.n)
    (h : PX P ops Q rest n ((d, v) :: l') w) : PX P ops Q (o :: rest) n l w := fun a hF => stepV hF hd (hg a hF) (hv a w hF) hk hdn h
theorem pxS (S : World → Prop) (hS : S w) (hv : ∀ a w, Fr n l a → S w → (execOp a.eval o).run P w = .ok (.value v) w) (hd : o.dst = some d) (hg : ∀ a, Fr n l a → Region.wanted o (yielded ops a.tmps) = true) (hk : Kept d l' l) (hdn : d < n.n)
    (h : PX P ops Q rest n ((d, v) :: l') w) : PX P ops Q (o :: rest) n l w := fun a hF => stepV hF hd (hg a hF) (hv a w hF hS) hk hdn h
theorem pxU (hd : o.dst = some d) (hg : ∀ a, Fr n l a → Region.wanted o (yielded ops a.tmps) = false) (hk : Kept d l' l) (hdn : d < n.n)
    (h : PX P ops Q rest n l' w) : PX P ops Q (o :: rest) n l w := fun a hF => stepU hF hd (hg a hF) hk hdn h
theorem pxE (c : Nat) (hH : HH w0 R Hs w) (hi : Hs[c]? = some E) (hs : ∀ a, Fr n l a → Small P a o E Rd post) (hRd : Rd w) (hd : o.dst = some d) (hg : ∀ a, Fr n l a → Region.wanted o (yielded ops a.tmps) = true) (hk : Kept d l' l) (hdn : d < n.n)
    (h : ∀ v E' w', post v E' → HH w0 R (Hs.set c E') w' → PX P ops Q rest n ((d, v) :: l') w') : PX P ops Q (o :: rest) n l w := fun a hF =>
  stepE c hF hH hi (hs a hF) hRd hd (hg a hF) hk hdn fun v E' a' w' h1 h2 h3 => h v E' w' h1 h3 a' h2
theorem pxE0 (c : Nat) (hH : HH w0 R Hs w) (hi : Hs[c]? = some E) (hs : ∀ a, Fr n l a → Small P a o E Rd post) (hRd : Rd w) (hd : o.dst = none) (hg : ∀ a, Fr n l a → Region.wanted o (yielded ops a.tmps) = true)
    (h : ∀ v E' w', post v E' → HH w0 R (Hs.set c E') w' → PX P ops Q rest n l w') : PX P ops Q (o :: rest) n l w := fun a hF =>
  stepE0 c hH hi (hs a hF) hRd hd (hg a hF) fun v E' w' h1 h3 => h v E' w' h1 h3 a hF
theorem pxM (hH : HH w0 R Hs w) (hs : ∀ a, Fr n l a → Small P a o [] Rd post) (hRd : Rd w) (hd : o.dst = some d) (hg : ∀ a, Fr n l a → Region.wanted o (yielded ops a.tmps) = true) (hk : Kept d l' l) (hdn : d < n.n)
    (h : ∀ v E' w', post v E' → HH w0 R (Hs ++ [E']) w' → PX P ops Q rest n ((d, v) :: l') w') : PX P ops Q (o :: rest) n l w := fun a hF =>
  stepM hF hH (hs a hF) hRd hd (hg a hF) hk hdn fun v E' a' w' h1 h2 h3 => h v E' w' h1 h3 a' h2
end
/-- A guard that is met, or not. -/
theorem gOn {n : Sz} {l : Slots} {ops : Array Oper} {o : Oper} (i : Nat) {j k : Nat} {b : Bool} (hi : l[i]? = some (k, .bool b)) (hd : (ops[j]?).bind (·.dst) = some k) (hg : o.guard = some (j, b)) (hk : k < n.n) : ∀ a, Fr n l a → Region.wanted o (yielded ops a.tmps) = true := fun _ hF => by
  rw [hF.wanted i hi hd hg hk]; cases b <;> rfl
theorem gOff {n : Sz} {l : Slots} {ops : Array Oper} {o : Oper} (i : Nat) {j k : Nat} {b : Bool} (hi : l[i]? = some (k, .bool (!b))) (hd : (ops[j]?).bind (·.dst) = some k) (hg : o.guard = some (j, b)) (hk : k < n.n) : ∀ a, Fr n l a → Region.wanted o (yielded ops a.tmps) = false := fun _ hF => by
  rw [hF.wanted i hi hd hg hk]; cases b <;> rfl
/-- Which live slots are kept: a mask. -/
def pick : List Bool → Slots → Slots
  | true :: m, x :: l => x :: pick m l
  | false :: m, _ :: l => pick m l
  | _, _ => []
theorem pick_sub : ∀ (m : List Bool) (l : Slots), (pick m l).Sublist l
  | [], l => by cases l <;> exact List.nil_sublist _
  | true :: m, [] => List.nil_sublist _
  | false :: m, [] => List.nil_sublist _
  | true :: m, x :: l => (pick_sub m l).cons_cons x
  | false :: m, x :: l => (pick_sub m l).cons x
theorem kA {d : Nat} {l : Slots} (h : keysB d l = true) : Kept d l l := ⟨List.Sublist.refl _, h⟩
theorem kM {d : Nat} {l l' : Slots} (m : List Bool) (e : pick m l = l') (h : keysB d l' = true) : Kept d l' l := ⟨by subst e; exact pick_sub m l, h⟩

/-! ### What is asked of a call -/
section
variable {P : Program} {w w0 : World} {R : List Nat} {Hs : List Hl} {E : Hl} {a : Act} {o : Oper} {f : FuncId} {args : Array Value} {Rd : World → Prop} {post : Value → Hl → Prop} {v : Value}
/-- A call that turns nothing, and makes nothing that matters. -/
def Pure (P : Program) (f : FuncId) (args : Array Value) (Rd : World → Prop) (v : Value) : Prop := ∀ w, Rd w → Calls P f args w fun e w' => e = .returned v ∧ Below w.heap.size w w'
theorem Pure.does (h : Pure P f args Rd v) : Does P f args [] Rd (fun u E' => u = v ∧ E' = []) := fun w _ hR => (h w hR).mono fun _ _ ⟨h1, h2⟩ => ⟨v, [], h1, ⟨rfl, rfl⟩, Hold.of_below h2⟩
theorem HH.unpad (h : HH w0 R (Hs ++ [[]]) w) : HH w0 R Hs w := h.cast (by simp)
/-- A walk of a call whose blocks are E. -/
theorem does_of {n : Nat} {l : Slots} {fn : Func} {c : Code} (hf : P.funcs[f]? = some fn) (hb : fn.body = some c) (hn : fn.ntmps = n) (hsz : args.size ≤ n) (hl : argsL 0 args.toList = l)
    (h : ∀ w, HH w (bks E) [E] w → Rd w → CX P (bodyPost P fn fun e w' => ∃ v E', e = .returned v ∧ post v E' ∧ Hold w (bks E) E' w') c ⟨n, []⟩ l w) : Does P f args E Rd post := fun w hE hR =>
  calls_X hf hb hn hsz hl (h w hE.start hR)
theorem pure_of {n : Nat} {l : Slots} {fn : Func} {c : Code} (hf : P.funcs[f]? = some fn) (hb : fn.body = some c) (hn : fn.ntmps = n) (hsz : args.size ≤ n) (hl : argsL 0 args.toList = l)
    (h : ∀ w, HH w [] [] w → Rd w → CX P (bodyPost P fn fun e w' => e = .returned v ∧ Below w.heap.size w w') c ⟨n, []⟩ l w) : Pure P f args Rd v := fun w hR =>
  calls_X hf hb hn hsz hl (h w (Hold.init w) hR)
end
end Go.Proofs.YtfloiekaiiapnaaGreatDoor

namespace Go.Proofs.YtfloiekaiiapnaaGreatDoor
open Go Go.RowKit

/-- How data of one type lie in cells. -/
structure Cod (α : Type) where
  val : α → Value
  sz : Nat
  row : Bool
  len : ∀ a, (val a).cells.size = sz
  one : ∀ a, (val a).cells.all (·.oneCell') = true
  agg : row = true → ∀ a, val a = .agg (val a).cells
  scal : row = false → ∀ a, (val a).oneCell' = true
theorem one1 {v : Value} (h : v.oneCell' = true) : (#[v] : Array Value).all (·.oneCell') = true := by simp [h]
def Cod.enc {α : Type} (C : Cod α) (a : α) : Array Value := (C.val a).cells
def cByte : Cod UInt8 := ⟨fun b => .int .u8 (b.toNat : Int), 1, false, fun _ => rfl, fun _ => one1 rfl, (fun h => by cases h), fun _ _ => rfl⟩
def cNat (k : IntKind) : Cod Nat := ⟨fun i => .int k (i : Int), 1, false, fun _ => rfl, fun _ => one1 rfl, (fun h => by cases h), fun _ _ => rfl⟩
def cPtr : Cod (Option Addr) := ⟨fun p => .pointer p, 1, false, fun _ => rfl, fun _ => one1 rfl, (fun h => by cases h), fun _ _ => rfl⟩
/-- A slice's head. -/
def cSl : Cod (Option Addr × Nat × Nat) := ⟨fun s => .slice s.1 s.2.1 s.2.2, 1, false, fun _ => rfl, fun _ => one1 rfl, (fun h => by cases h), fun _ _ => rfl⟩
def cArr (n : Nat) : Cod (Nat → UInt8) := ⟨fun f => .agg (Go.Proofs.YtfloiekaiiapnaaGreatDoor.row n f), n, true, fun f => row_size n f, fun f => row_one n f, fun _ _ => rfl, (fun h => by cases h)⟩
def cPair {α β : Type} (A : Cod α) (B : Cod β) : Cod (α × β) :=
  ⟨fun x => .agg ((A.val x.1).cells ++ (B.val x.2).cells), A.sz + B.sz, true, fun x => by
    show ((A.val x.1).cells ++ (B.val x.2).cells).size = A.sz + B.sz
    rw [Array.size_append, A.len, B.len], fun x => by
    show ((A.val x.1).cells ++ (B.val x.2).cells).all (·.oneCell') = true
    rw [Array.all_append, A.one, B.one]; rfl, fun _ _ => rfl, (fun h => by cases h)⟩
section
variable {α β : Type} {C : Cod α} {A : Cod α} {B : Cod β} {w w0 w' : World} {b off : Nat} {x : α} {R : List Nat} {Hs : List Hl}
theorem Cod.size (C : Cod α) (x : α) : (C.enc x).size = C.sz := C.len x
theorem enc_pair (x : α × β) : (cPair A B).enc x = A.enc x.1 ++ B.enc x.2 := rfl
/-- x lies at this place. -/
def Holds (C : Cod α) (w : World) (b off : Nat) (x : α) : Prop := ∀ j u, (C.enc x)[j]? = some u → w.cell? ⟨b, off + j, none⟩ = some u
/-- The data l lie from this place on. -/
def HoldsL (C : Cod α) (w : World) (b off : Nat) (l : List α) : Prop := ∀ i x, l[i]? = some x → Holds C w b (off + i * C.sz) x
theorem Holds.fst {x : α × β} (h : Holds (cPair A B) w b off x) : Holds A w b off x.1 := fun j u hu => h j u (by
  rw [enc_pair, Array.getElem?_append_left (Array.getElem?_eq_some_iff.1 hu).1]; exact hu)
theorem Holds.snd {x : α × β} (h : Holds (cPair A B) w b off x) : Holds B w b (off + A.sz) x.2 := fun j u hu => by
  have := h (A.sz + j) u (by
    rw [enc_pair, ← A.size x.1, Array.getElem?_append_right (by omega), Nat.add_sub_cancel_left]; exact hu)
  rw [Nat.add_assoc]
  exact this
theorem Holds.lt (h : Holds C w b off x) (hp : 0 < C.sz) : b < w.heap.size := by
  obtain ⟨u, hu⟩ : ∃ u, (C.enc x)[0]? = some u := ⟨_, Array.getElem?_eq_getElem (by rw [C.size]; exact hp)⟩
  exact block_lt_of_cell (h 0 u hu)
theorem Holds.move (h : Holds C w b off x) (hk : w'.heap[b]? = w.heap[b]?) : Holds C w' b off x := fun j u hu => by
  rw [← h j u hu]; exact World.cell?_of_block hk
theorem HoldsL.move {l : List α} (h : HoldsL C w b off l) (hk : w'.heap[b]? = w.heap[b]?) : HoldsL C w' b off l := fun i x hx => (h i x hx).move hk
theorem holds_blk {g : Nat} {t : TypeId} {cs : Array Value} (h : w.heap[g]? = some (.cells cs t (0, 0))) (hc : ∀ j u, (C.enc x)[j]? = some u → cs[off + j]? = some u) : Holds C w g off x := fun j u hu => by
  rw [cell_of_row w g (off + j) cs t (0, 0) h]; exact hc j u hu
end

section
variable {α β : Type} {C : Cod α} {P : Program} {a : Act} {o : Oper} {w w0 : World} {R : List Nat} {Hs : List Hl} {x : Operand} {v : Value} {ty t : TypeId} {b off g : Nat} {cs : Array Value}
def tyOk (P : Program) (ty : TypeId) (C : Cod α) : Bool := (P.underlying ty).map (·.isRow) == some C.row && (P.info? ty).map (·.size) == some C.sz
theorem tyOk.spec (h : tyOk P ty C = true) : (P.underlying ty).map (·.isRow) = some C.row ∧ (P.info? ty).map (·.size) = some C.sz := by
  simpa [tyOk] using h
/-- What lies at a place, read. -/
theorem opLoadT {y : α} (ho : o.op = .load ty x) (hx : a.eval x = .pointer (some ⟨b, off, none⟩)) (hty : tyOk P ty C = true) (h : Holds C w b off y) (hv : C.val y = v) : (execOp a.eval o).run P w = .ok (.value v) w := by
  subst hv
  obtain ⟨h1, h2⟩ := tyOk.spec hty
  cases hr : C.row with
  | true =>
    rw [hr] at h1
    rw [C.agg hr y]
    refine opLoadRC ho hx h1 (by rw [h2]; exact congrArg some (C.len y).symm) fun j u hu => h j u hu
  | false =>
    rw [hr] at h1
    have h3 := one_cells (C.scal hr y)
    refine opLoadC ho hx h1 ?_
    have := h 0 (C.val y) (by unfold Cod.enc; rw [h3]; rfl)
    exact this
/-- A cell of a block read. -/
theorem opLoadK (hb : w.heap[g]? = some (.cells cs t (0, 0))) (ho : o.op = .load ty x) (hx : a.eval x = .pointer (some ⟨g, off, none⟩)) (hdd : (P.underlying ty).map (·.isRow) = some false) (hc : cs[off]? = some v) : (execOp a.eval o).run P w = .ok (.value v) w :=
  opLoadC ho hx hdd (by rw [cell_of_row w g off cs t (0, 0) hb]; exact hc)
end

/-! ### Slices that are read -/
/-- A slice (of address A, length n, capacity c) of the data l. -/
structure Vu {α : Type} (C : Cod α) (w : World) (A : Option Addr) (n c : Nat) (l : List α) : Prop where
  len : l.length = n
  cap : n ≤ c
  nil : A = none → c = 0
  at' : 0 < n → ∃ b off, A = some ⟨b, off, none⟩ ∧ HoldsL C w b off l
section
variable {α : Type} {C : Cod α} {w w0 w' : World} {A : Option Addr} {n c : Nat} {l : List α} {R : List Nat} {Hs : List Hl}
theorem Vu.open (h : Vu C w A n c l) (hn : 0 < n) : ∃ b off, A = some ⟨b, off, none⟩ ∧ HoldsL C w b off l := h.at' hn
theorem Vu.none (C : Cod α) (w : World) : Vu C w none 0 0 [] := ⟨rfl, Nat.le_refl _, fun _ => rfl, fun h => absurd h (Nat.lt_irrefl _)⟩
theorem Vu.move (h : Vu C w A n c l) (hk : ∀ b off, A = some ⟨b, off, Option.none⟩ → 0 < n → w'.heap[b]? = w.heap[b]?) : Vu C w' A n c l :=
  ⟨h.len, h.cap, h.nil, fun hn => by
    obtain ⟨b, off, hA, hl⟩ := h.at' hn
    exact ⟨b, off, hA, hl.move (hk b off hA hn)⟩⟩
/-- Its block, if it has one, is none of these. -/
def Off (A : Option Addr) (n : Nat) (R : List Nat) : Prop := ∀ b off, A = some ⟨b, off, Option.none⟩ → 0 < n → b ∉ R
theorem Off.nil (A : Option Addr) (n : Nat) : Off A n [] := fun _ _ _ _ h => by cases h
/-- What was there ahead of the call, and isn't written. -/
theorem HH.vu (hH : HH w0 R Hs w) (h : Vu C w0 A n c l) (hp : 0 < C.sz) (ho : Off A n R) : Vu C w A n c l := h.move fun b off hA hn => by
  obtain ⟨b', off', hA', hl⟩ := h.at' hn
  rw [hA] at hA'
  obtain ⟨rfl, rfl⟩ : b = b' ∧ off = off' := by cases hA'; exact ⟨rfl, rfl⟩
  obtain ⟨x, hx⟩ : ∃ x, l[0]? = some x := ⟨_, List.getElem?_eq_getElem (by rw [h.len]; exact hn)⟩
  exact hH.old ((hl 0 x hx).lt hp) (ho b off hA hn)
theorem HH.holdsL {b off : Nat} (hH : HH w0 R Hs w) (h : HoldsL C w0 b off l) (hb : b < w0.heap.size) (ho : b ∉ R) : HoldsL C w b off l := h.move (hH.old hb ho)
/-- A part of it. -/
def cutA (A : Option Addr) (c k sz : Nat) : Option Addr := if c = k then A else A.map (·.add (k * sz))
theorem sliced_eq (A : Option Addr) (k h c sz : Nat) : Go.sliced A k h c sz = .slice (cutA A c k sz) (h - k) (c - k) := rfl
theorem Vu.cut (h : Vu C w A n c l) {k m : Nat} (hk : k ≤ m) (hm : m ≤ n) : Vu C w (cutA A c k C.sz) (m - k) (c - k) ((l.take m).drop k) := by
  have hl := h.len
  have hc := h.cap
  refine ⟨by rw [List.length_drop, List.length_take]; omega, by omega, fun hn => ?_, fun hn => ?_⟩
  · unfold cutA at hn
    split at hn
    · have := h.nil hn; omega
    · have : A = Option.none := by cases A with
        | none => rfl
        | some a => cases hn
      have := h.nil this; omega
  · obtain ⟨b, off, rfl, hL⟩ := h.at' (by omega)
    refine ⟨b, off + k * C.sz, ?_, fun i x hx => ?_⟩
    · unfold cutA
      rw [if_neg (by omega)]
      simp [Addr.add_mid]
    · rw [List.getElem?_drop, List.getElem?_take] at hx
      split at hx
      · have := hL (k + i) x hx
        rw [Nat.add_mul, ← Nat.add_assoc] at this
        exact this
      · cases hx
end
section
variable {P : Program} {a : Act} {o : Oper} {w : World} {x : Operand} {ty e : TypeId} {sz n c k h : Nat} {A : Option Addr} {kl kh : IntKind} {jl jh : Int} {xl xh : Operand}
theorem opCutLH (ho : o.op = .slice ty x (some xl) (some xh) none) (hu : P.underlying ty = some (.slice e)) (hs : (P.info? e).map (·.size) = some sz) (hx : a.eval x = .slice A n c) (hl : a.eval xl = .int kl jl) (hh : a.eval xh = .int kh jh) (hjl : jl = (k : Int)) (hjh : jh = (h : Int)) (h1 : k ≤ h) (h2 : h ≤ c) :
    (execOp a.eval o).run P w = .ok (.value (.slice (cutA A c k sz) (h - k) (c - k))) w := by
  subst hjl hjh
  have he := elem_of hu
  have hu' : P.underlying ty = some (.slice (P.elem ty)) := by rw [he]; exact hu
  unfold execOp
  simp only [ho, Option.map_some, Option.map_none, hx, hl, hh, Sem.run_bind, Sem.run_pure, run_sliceAt_slice w ty _ _ _ _ hu', run_slice_lh w ty A n c hu' kl kh (k : Int) (h : Int) (by omega) (by omega) (by omega), he, run_sizeOf hs, Result.andThen_ok, Int.toNat_natCast, sliced_eq]
theorem opCutL (ho : o.op = .slice ty x (some xl) none none) (hu : P.underlying ty = some (.slice e)) (hs : (P.info? e).map (·.size) = some sz) (hx : a.eval x = .slice A n c) (hl : a.eval xl = .int kl jl) (hjl : jl = (k : Int)) (h1 : k ≤ n) :
    (execOp a.eval o).run P w = .ok (.value (.slice (cutA A c k sz) (n - k) (c - k))) w := by
  subst hjl
  have he := elem_of hu
  have hu' : P.underlying ty = some (.slice (P.elem ty)) := by rw [he]; exact hu
  unfold execOp
  simp only [ho, Option.map_some, Option.map_none, hx, hl, Sem.run_bind, Sem.run_pure, run_sliceAt_slice w ty _ _ _ _ hu', run_slice_l w ty A n c hu' kl (k : Int) (by omega) (by omega), he, run_sizeOf hs, Result.andThen_ok, Int.toNat_natCast, sliced_eq]
theorem cutA_zero (A : Option Addr) (c sz : Nat) : cutA A c 0 sz = A := by
  unfold cutA
  split
  · rfl
  · cases A with
    | none => rfl
    | some a => simp [Addr.add]
theorem opCutH (ho : o.op = .slice ty x none (some xh) none) (hu : P.underlying ty = some (.slice e)) (hs : (P.info? e).map (·.size) = some sz) (hx : a.eval x = .slice A n c) (hh : a.eval xh = .int kh jh) (hjh : jh = (h : Int)) (h2 : h ≤ c) :
    (execOp a.eval o).run P w = .ok (.value (.slice A h c)) w := by
  subst hjh
  have he := elem_of hu
  have hu' : P.underlying ty = some (.slice (P.elem ty)) := by rw [he]; exact hu
  unfold execOp
  simp only [ho, Option.map_some, Option.map_none, hx, hh, Sem.run_bind, Sem.run_pure, run_sliceAt_slice w ty _ _ _ _ hu', run_slice_h w ty A n c hu' kh (h : Int) (by omega) (by omega), he, run_sizeOf hs, Result.andThen_ok, Int.toNat_natCast, sliced_eq, cutA_zero, Nat.sub_zero]
end

/-! ### Bytes as a string -/
abbrev strL (l : List UInt8) : ByteArray := ⟨l.toArray⟩
theorem opStr {P : Program} {a : Act} {o : Oper} {w : World} {x : Operand} {src dst e : TypeId} {A : Option Addr} {n c : Nat} {l : List UInt8} (ho : o.op = .convert src dst x) (hs : P.underlying src = some (.slice e)) (he : P.underlying e = some (.int .u8)) (hd : P.underlying dst = some .string)
    (hx : a.eval x = .slice A n c) (h : Vu cByte w A n c l) : (execOp a.eval o).run P w = .ok (.value (.string (strL l))) w := by
  have hr : (convert src dst (.slice A n c)).run P w = .ok (.string (strL l)) w := by
    have hl := h.len
    by_cases hn : 0 < n
    · obtain ⟨b, off, rfl, hL⟩ := h.at' hn
      subst hl
      refine run_convert_bytes_back w src dst e ⟨b, off, none⟩ c l hs he hd fun j hj => ?_
      have := hL j l[j] (List.getElem?_eq_getElem hj) 0 (.int .u8 (l[j].toNat : Int)) rfl
      rw [Addr.add_mid]
      simpa [cByte] using this
    · obtain rfl : n = 0 := by omega
      obtain rfl : l = [] := List.eq_nil_of_length_eq_zero hl
      cases A with
      | none =>
        rw [run_convert_bytes_string w _ _ _ none 0 c hs he hd]
        have := h.nil rfl
        simp [Conv.bytesToString]
        rfl
      | some p => exact run_convert_bytes_back w src dst e p c [] hs he hd fun j hj => absurd hj (Nat.not_lt_zero _)
  unfold execOp
  simp only [ho, hx, Sem.run_bind, Sem.run_pure, Result.andThen_ok, hr]

/-! ### Slices of the call's own -/
def flat {α : Type} (C : Cod α) (l : List α) : List Value := l.flatMap fun a => (C.enc a).toList
section
variable {α : Type} {C : Cod α}
theorem flat_len (l : List α) : (flat C l).length = l.length * C.sz := by
  induction l with
  | nil => simp [flat]
  | cons a r ih =>
    simp only [flat, List.flatMap_cons, List.length_append, Array.length_toList] at ih ⊢
    rw [ih, C.size, List.length_cons, Nat.add_mul, Nat.one_mul, Nat.add_comm]
theorem flat_append (l r : List α) : flat C (l ++ r) = flat C l ++ flat C r := List.flatMap_append ..
theorem flat_one (x : α) : flat C [x] = (C.enc x).toList := by simp [flat]
theorem flat_get : ∀ (l : List α) (i j : Nat) (x : α) (u : Value), l[i]? = some x → (C.enc x)[j]? = some u → (flat C l)[i * C.sz + j]? = some u
  | [], i, j, x, u, h, _ => by simp at h
  | a :: r, 0, j, x, u, h, hu => by
    obtain rfl : a = x := by simpa using h
    have hj := (Array.getElem?_eq_some_iff.1 hu).1
    simp only [flat, List.flatMap_cons, Nat.zero_mul, Nat.zero_add]
    rw [List.getElem?_append_left (by simpa using hj), Array.getElem?_toList, hu]
  | a :: r, i + 1, j, x, u, h, hu => by
    have := flat_get r i j x u (by simpa using h) hu
    simp only [flat, List.flatMap_cons]
    rw [List.getElem?_append_right (by rw [Array.length_toList, C.size, Nat.add_mul]; omega), Array.length_toList, C.size]
    rw [show (i + 1) * C.sz + j - C.sz = i * C.sz + j by rw [Nat.add_mul]; omega]
    exact this
theorem flat_one' (l : List α) : ∀ u ∈ flat C l, u.oneCell' = true := fun u hu => by
  obtain ⟨a, _, h2⟩ := List.mem_flatMap.1 hu
  have := C.one a
  rw [Array.all_eq_true_iff_forall_mem] at this
  exact this u (by simpa [Cod.enc] using h2)
theorem flat_set : ∀ (l : List α) (i : Nat) (x : α), i < l.length → flat C (l.set i x) = (flat C l).take (i * C.sz) ++ ((C.enc x).toList ++ (flat C l).drop (i * C.sz + C.sz))
  | [], i, x, h => by simp at h
  | a :: r, 0, x, _ => by
    simp only [List.set_cons_zero, flat, List.flatMap_cons, Nat.zero_mul, List.take_zero, List.nil_append, Nat.zero_add]
    congr 1
    rw [List.drop_append_of_le_length (by rw [Array.length_toList, C.size]; exact Nat.le_refl _), List.drop_eq_nil_of_le (by rw [Array.length_toList, C.size]; exact Nat.le_refl _), List.nil_append]
  | a :: r, i + 1, x, h => by
    have ih := flat_set r i x (by simpa using h)
    have ea : (C.enc a).toList.length = C.sz := by rw [Array.length_toList, C.size]
    simp only [List.set_cons_succ, flat, List.flatMap_cons] at ih ⊢
    rw [ih, show (i + 1) * C.sz = C.sz + i * C.sz by rw [Nat.add_mul, Nat.one_mul, Nat.add_comm]]
    rw [← ea, List.take_length_add_append, Nat.add_assoc, List.drop_length_add_append, List.append_assoc]
end
/-- A slice of the call's own, that may be nil. -/
def OwnT {α : Type} (C : Cod α) (e : TypeId) (v : Value) (l : List α) (E : Hl) : Prop := OwnS e C.sz v l.length (flat C l) E
/-- The cells of one that isn't nil. -/
structure Bk {α : Type} (C : Cod α) (cap : Nat) (cur : Array Value) (l : List α) : Prop where
  le : l.length ≤ cap
  max : cap ≤ maxLen
  size : cur.size = cap * C.sz
  take : cur.toList.take (l.length * C.sz) = flat C l
section
variable {α : Type} {C : Cod α} {e : TypeId} {v : Value} {l : List α} {E : Hl} {g cap n : Nat} {cur : Array Value} {w w0 : World} {R : List Nat} {Hs : List Hl}
theorem OwnT.nil (C : Cod α) (e : TypeId) : OwnT C e (.slice none 0 0) [] [] := OwnS.nil _ _
theorem OwnT.slice (h : OwnT C e v l E) : ∃ A c, v = .slice A l.length c := OwnS.slice h
theorem OwnT.cases (h : OwnT C e v l E) : (v = .slice none 0 0 ∧ l = [] ∧ E = []) ∨ ∃ g cap cur, v = .slice (some ⟨g, 0, none⟩) l.length cap ∧ E = [bl g e cur] ∧ Bk C cap cur l := by
  rcases h.2 with ⟨h1, h2, h3⟩ | ⟨g, cap, cur, h1, h2, h3, h4, h5, h6⟩
  · exact .inl ⟨h1, List.eq_nil_of_length_eq_zero h2, h3⟩
  · exact .inr ⟨g, cap, cur, h1, h2, h3, h4, h5, h6⟩
theorem OwnT.open (h : OwnT C e v l E) (hn : 0 < l.length) : ∃ g cap cur, v = .slice (some ⟨g, 0, none⟩) l.length cap ∧ E = [bl g e cur] ∧ Bk C cap cur l := by
  rcases h.cases with ⟨_, h2, _⟩ | h
  · subst h2; simp at hn
  · exact h
theorem Bk.own (h : Bk C cap cur l) (e : TypeId) (g : Nat) (hn : l.length = n) : OwnT C e (.slice (some ⟨g, 0, none⟩) n cap) l [bl g e cur] := by
  subst hn
  exact ⟨flat_len l, .inr ⟨g, cap, cur, rfl, rfl, h.le, h.max, h.size, h.take⟩⟩
theorem Bk.cell (h : Bk C cap cur l) (i j : Nat) {x : α} {u : Value} (hx : l[i]? = some x) (hu : (C.enc x)[j]? = some u) : cur[i * C.sz + j]? = some u := by
  have h1 := flat_get l i j x u hx hu
  rw [← h.take, List.getElem?_take] at h1
  split at h1
  · simpa using h1
  · cases h1
theorem Bk.holdsL (h : Bk C cap cur l) {t : TypeId} (hb : w.heap[g]? = some (.cells cur t (0, 0))) : HoldsL C w g 0 l := fun i x hx => holds_blk hb fun j u hu => by
  rw [Nat.zero_add]; exact h.cell i j hx hu
/-- One of its data laid anew. -/
theorem Bk.put (h : Bk C cap cur l) (i : Nat) (hi : i < l.length) (x : α) : Bk C cap (putL cur (i * C.sz) (C.enc x).toList) (l.set i x) := by
  have hs := h.size
  have hle := h.le
  have hb : i * C.sz + C.sz ≤ l.length * C.sz := by
    have := Nat.mul_le_mul_right C.sz (show i + 1 ≤ l.length by omega)
    rw [Nat.add_mul, Nat.one_mul] at this; exact this
  have hc : l.length * C.sz ≤ cap * C.sz := Nat.mul_le_mul_right _ hle
  refine ⟨by rw [List.length_set]; exact h.le, h.max, by rw [putL_size]; exact hs, ?_⟩
  rw [flat_set l i x hi, List.length_set, ← h.take]
  apply List.ext_getElem?
  intro k
  have hlen : (C.enc x).toList.length = C.sz := by rw [Array.length_toList, C.size]
  have hlt : (List.take (i * C.sz) (List.take (l.length * C.sz) cur.toList)).length = i * C.sz := by simp; omega
  rw [List.getElem?_take, Array.getElem?_toList, putL_get, hlen]
  by_cases h1 : k < i * C.sz
  · rw [if_pos (by omega), if_neg (by omega), List.getElem?_append_left (by omega), List.getElem?_take, if_pos h1, List.getElem?_take, if_pos (by omega), Array.getElem?_toList]
  · rw [List.getElem?_append_right (by omega), hlt]
    by_cases h2 : k < i * C.sz + C.sz
    · rw [if_pos (by omega), if_pos (by omega), List.getElem?_append_left (by omega)]
    · rw [List.getElem?_append_right (by omega), hlen, List.getElem?_drop, List.getElem?_take]
      by_cases h3 : k < l.length * C.sz
      · rw [if_pos h3, if_neg (by omega), if_pos (by omega), Array.getElem?_toList]
        congr 1; omega
      · rw [if_neg h3, if_neg (by omega)]
theorem OwnT.vu (h : OwnT C e v l E) (hE : Has E w) : ∃ A c, v = .slice A l.length c ∧ Vu C w A l.length c l := by
  rcases h.cases with ⟨rfl, rfl, rfl⟩ | ⟨g, cap, cur, rfl, rfl, hB⟩
  · exact ⟨none, 0, rfl, Vu.none C w⟩
  · exact ⟨_, cap, rfl, rfl, hB.le, (fun h => by cases h), fun _ => ⟨g, 0, rfl, hB.holdsL (t := e) (hE.blk (g, _) (by simp))⟩⟩
theorem OwnT.made {l : List α} {cs : Array Value} (hcs : cs.toList = flat C l) (hn : l.length ≤ maxLen) (hl : l.length = n) : OwnT C e (.slice (some ⟨g, 0, none⟩) n n) l [bl g e cs] := by
  subst hl
  refine Bk.own ⟨Nat.le_refl _, hn, ?_, ?_⟩ e g rfl
  · rw [← Array.length_toList, hcs, flat_len]
  · rw [hcs, ← flat_len (C := C), List.take_length]
end
section
variable {α : Type} {C : Cod α} {P : Program} {a : Act} {o : Oper} {w w0 : World} {v : Value} {x y : Operand} {t ty e : TypeId} {g off : Nat} {cs cs' : Array Value} {l m : List α} {E : Hl}
/-- What a store lays. -/
theorem smStoreT {z : α} (ho : o.op = .store ty x y) (hx : a.eval x = .pointer (some ⟨g, off, none⟩)) (hy : a.eval y = v) (hv : C.val z = v) (hty : tyOk P ty C = true) (hn : off + C.sz ≤ cs.size) (hcs : putL cs off (C.enc z).toList = cs') :
    Small P a o [bl g t cs] (fun _ => True) (fun _ E' => E' = [bl g t cs']) := by
  subst hv
  obtain ⟨h1, h2⟩ := tyOk.spec hty
  cases hr : C.row with
  | true =>
    rw [C.agg hr z] at hy
    exact smStoreR ho hx hy (by rw [h2]; exact congrArg some (C.len z).symm) (by rw [C.len]; exact hn) (C.one z) hcs
  | false =>
    have h3 := one_cells (C.scal hr z)
    have hsz : C.sz = 1 := by rw [← C.len z, h3]; rfl
    refine smStore ho hx hy (by rw [h2, hsz]) (by omega) (C.scal hr z) ?_
    rw [← hcs]
    show _ = putL cs off (C.val z).cells.toList
    rw [h3]; rfl
/-- append, to a slice of the call's own. -/
theorem smAppT {n c by_ : Nat} {z : Value} {A : Option Addr} (ho : o.op = .call { callee := .builtin .append, args := #[x, y], argTypes := #[ty, ty] })
    (hu : P.underlying ty = some (.slice e)) (hi : (P.info? e).map (fun i => (i.zero, i.size, i.bytes)) = some (some z, C.sz, by_)) (hzs : z.cells.size = C.sz) (hsz : 0 < C.sz)
    (hx : a.eval x = v) (hO : OwnT C e v l E) (hy : a.eval y = .slice A n c) (hn : m.length = n) (hA : A = none → n = 0 ∧ c = 0) (h63 : l.length + n ≤ maxLen) (hbytes : (l.length + n) * by_ ≤ 140737488355328) :
    Small P a o E (fun w => Vu C w A n c m) (fun v' E' => OwnT C e v' (l ++ m) E' ∧ (v' = .slice none 0 0 ↔ v = .slice none 0 0 ∧ n = 0)) := fun w hE hR => by
  subst hn
  have h := smAppend (xs := flat C l) (news := flat C m) ho hu hi hzs hsz hx hO hy hA (flat_len m) (flat_one' m) h63 hbytes w hE (fun p j u hp hj => ?_)
  · refine h.mono ?_
    rintro v' w' ⟨E', ⟨h1, h2⟩, h3⟩
    refine ⟨E', ⟨?_, h2⟩, h3⟩
    unfold OwnT
    rw [List.length_append, flat_append]
    exact h1
  · have hlen : j < m.length * C.sz := by
      have := (List.getElem?_eq_some_iff.1 hj).1
      rw [flat_len] at this; exact this
    have hm : 0 < m.length := by
      rcases Nat.eq_zero_or_pos m.length with h0 | h0
      · rw [h0] at hlen; simp at hlen
      · exact h0
    obtain ⟨b, off, hA', hL⟩ := hR.at' hm
    rw [hp] at hA'
    obtain rfl := Option.some.inj hA'
    have hdiv : j / C.sz < m.length := (Nat.div_lt_iff_lt_mul hsz).2 hlen
    have hmod : j % C.sz < C.sz := Nat.mod_lt _ hsz
    have hx' : m[j / C.sz]? = some m[j / C.sz] := List.getElem?_eq_getElem hdiv
    have hu' : (C.enc m[j / C.sz])[j % C.sz]? = some ((C.enc m[j / C.sz])[j % C.sz]'(by rw [C.size]; exact hmod)) := Array.getElem?_eq_getElem (by rw [C.size]; exact hmod)
    have h1 := flat_get m _ _ _ _ hx' hu'
    rw [Nat.div_add_mod' j C.sz, hj] at h1
    obtain rfl := Option.some.inj h1
    have h2 := hL _ _ hx' _ _ hu'
    rw [Addr.add_mid, ← h2]
    congr 2
    rw [Nat.add_assoc, Nat.div_add_mod']
end
end Go.Proofs.YtfloiekaiiapnaaGreatDoor

namespace Go.Proofs.YtfloiekaiiapnaaGreatDoor
open Go Go.RowKit

/-- Operands of parts, and what they are. -/
inductive EvP (a : Act) : List (Nat × Operand) → List (Nat × Value) → Prop where
  | nil : EvP a [] []
  | cons {i : Nat} {x : Operand} {v : Value} {xs : List (Nat × Operand)} {vs : List (Nat × Value)} (h : a.eval x = v) (r : EvP a xs vs) : EvP a ((i, x) :: xs) ((i, v) :: vs)
theorem EvP.map {a : Act} {xs : List (Nat × Operand)} {vs : List (Nat × Value)} (h : EvP a xs vs) : (xs.toArray.map fun (i, x) => (i, a.eval x)).toList = vs := by
  have : xs.map (fun (i, x) => (i, a.eval x)) = vs := by
    induction h with
    | nil => rfl
    | cons h _ ih => rw [List.map_cons, ih, ← h]
  simpa using this
theorem opBuildP {P : Program} {a : Act} {o : Oper} {ty : TypeId} {parts : List (Nat × Operand)} {cells : Array Value} {vals : List (Nat × Value)} (ho : o.op = .build ty parts.toArray) (hx : EvP a parts vals) (hb : P.built ty vals = some cells) (w : World) : (execOp a.eval o).run P w = .ok (.value (.agg cells)) w :=
  exec_build ty parts.toArray ho cells vals hx.map hb w
/-- Values of these sizes. -/
def Sizes : List Nat → List Value → Prop
  | [], [] => True
  | s :: ss, v :: vs => v.cells.size = s ∧ Sizes ss vs
  | _, _ => False
/-- Places one behind the other. -/
def placesFrom : Nat → List Nat → List (Nat × Nat)
  | _, [] => []
  | off, s :: ss => (off, s) :: placesFrom (off + s) ss
def enumV : Nat → List Value → List (Nat × Value)
  | _, [] => []
  | i, v :: vs => (i, v) :: enumV (i + 1) vs
def structOk (P : Program) (ty : TypeId) (ss : List Nat) : Bool :=
  match P.info? ty, P.underlying ty with
  | some it, some (.struct fields) =>
    match it.zero, fields.toList.mapM (fun f => (P.info? f.type).map fun i => (f.offset, i.size)) with
    | some z, some places => places == placesFrom 0 ss && z.cells.size == ss.sum
    | _, _ => false
  | _, _ => false
def cellsL (vs : List Value) : List Value := vs.flatMap fun v => v.cells.toList
theorem foldl_put : ∀ (l : List Value) (off : Nat) (cs : Array Value) (s : Nat), (l.zipIdx s).foldl (fun cs (x : Value × Nat) => cs.setIfInBounds (off + x.2) x.1) cs = putL cs (off + s) l
  | [], _, _, _ => rfl
  | v :: r, off, cs, s => by
    simp only [List.zipIdx_cons, List.foldl_cons]
    rw [foldl_put r off _ (s + 1)]
    rfl
theorem putL_append (pre z vs : List Value) (off : Nat) (hp : pre.length = off) (hz : vs.length ≤ z.length) : putL (pre ++ z).toArray off vs = (pre ++ (vs ++ z.drop vs.length)).toArray := by
  apply Array.ext_getElem?
  intro k
  rw [putL_get]
  simp only [List.getElem?_toArray, List.size_toArray, List.length_append]
  by_cases h1 : k < off
  · rw [if_neg (by omega), List.getElem?_append_left (by omega), List.getElem?_append_left (by omega)]
  · by_cases h2 : k < off + vs.length
    · rw [if_pos (by omega), List.getElem?_append_right (by omega), List.getElem?_append_left (by omega), hp]
    · rw [if_neg (by omega), List.getElem?_append_right (by omega), List.getElem?_append_right (by omega), List.getElem?_append_right (by omega), hp, List.getElem?_drop]
      congr 1; omega
theorem placesFrom_get : ∀ (ss : List Nat) (off i s : Nat), ss[i]? = some s → (placesFrom off ss)[i]? = some (off + (ss.take i).sum, s)
  | [], _, _, _, h => by simp at h
  | t :: ss, off, 0, s, h => by
    obtain rfl : t = s := by simpa using h
    simp [placesFrom]
  | t :: ss, off, i + 1, s, h => by
    have := placesFrom_get ss (off + t) i s (by simpa using h)
    simp only [placesFrom, List.getElem?_cons_succ, this, List.take_succ_cons, List.sum_cons]
    congr 2; omega
theorem fill_all (ss : List Nat) : ∀ (vs : List Value) (i : Nat) (pre z : List Value), Sizes (ss.drop i) vs → pre.length = (ss.take i).sum → z.length = (ss.drop i).sum →
    Instr.fill ((placesFrom 0 ss).toArray[·]?) (pre ++ z).toArray (enumV i vs) = some (pre ++ cellsL vs).toArray
  | [], i, pre, z, hs, _, hz => by
    have h0 : ss.drop i = [] := by
      cases h : ss.drop i with
      | nil => rfl
      | cons a b => rw [h] at hs; exact hs.elim
    rw [h0] at hz
    obtain rfl : z = [] := List.eq_nil_of_length_eq_zero (by simpa using hz)
    simp [enumV, Instr.fill, cellsL]
  | v :: vs, i, pre, z, hs, hp, hz => by
    obtain ⟨s, r, hd⟩ : ∃ s r, ss.drop i = s :: r := by
      cases h : ss.drop i with
      | nil => rw [h] at hs; exact hs.elim
      | cons a b => exact ⟨a, b, rfl⟩
    rw [hd] at hs hz
    obtain ⟨hv, hs⟩ := hs
    have hi : ss[i]? = some s := by
      have := congrArg (fun l => l[0]?) hd
      simpa using this
    have hr : ss.drop (i + 1) = r := by
      have := congrArg (fun l => l.drop 1) hd
      simpa [List.drop_drop, Nat.add_comm] using this
    have hpl := placesFrom_get ss 0 i s hi
    rw [Nat.zero_add] at hpl
    rw [List.sum_cons] at hz
    simp only [enumV]
    unfold Instr.fill
    simp only [List.getElem?_toArray, hpl, hv]
    rw [if_neg (by simp; omega)]
    have hf := foldl_put v.cells.toList (ss.take i).sum (pre ++ z).toArray 0
    rw [Nat.add_zero] at hf
    rw [← Array.foldl_toList, Array.toList_zipIdx, hf, putL_append pre z v.cells.toList _ hp (by rw [Array.length_toList, hv]; omega), ← List.append_assoc]
    have ih := fill_all ss vs (i + 1) (pre ++ v.cells.toList) (z.drop v.cells.toList.length) (by rw [hr]; exact hs) (by
      rw [List.length_append, hp, Array.length_toList, hv, List.take_add_one, hi]
      simp) (by
      have e : v.cells.toList.length = s := by rw [Array.length_toList, hv]
      rw [List.length_drop, e, hr]; omega)
    simp only [List.getElem?_toArray] at ih
    rw [ih]
    simp [cellsL]
theorem built_all {P : Program} {ty : TypeId} {vs : List Value} (ss : List Nat) (h : structOk P ty ss = true) (hs : Sizes ss vs) : P.built ty (enumV 0 vs) = some (cellsL vs).toArray := by
  unfold structOk at h
  unfold Program.built
  cases hi : P.info? ty with
  | none => rw [hi] at h; cases h
  | some it =>
    cases hu : P.underlying ty with
    | none => rw [hi, hu] at h; cases h
    | some d =>
      rw [hi, hu] at h
      cases d <;> try (cases h; done)
      rename_i fields
      simp only at h ⊢
      cases hz : it.zero with
      | none => rw [hz] at h; cases h
      | some z =>
        cases hp : fields.toList.mapM (fun f => (P.info? f.type).map fun i => (f.offset, i.size)) with
        | none => rw [hz, hp] at h; cases h
        | some places =>
          rw [hz, hp] at h
          simp only [Bool.and_eq_true, beq_iff_eq] at h
          obtain ⟨rfl, h2⟩ := h
          have := fill_all ss vs 0 [] z.cells.toList (by simpa using hs) (by simp) (by simpa using h2)
          simpa using this
/-- A composite literal of a pair, of three, of four. -/
theorem built_pair {P : Program} {ty : TypeId} {α β : Type} {A : Cod α} {B : Cod β} {u v : Value} {x : α × β} (h : structOk P ty [A.sz, B.sz] = true) (hu : A.val x.1 = u) (hv : B.val x.2 = v) : P.built ty [(0, u), (1, v)] = some ((cPair A B).enc x) := by
  subst hu hv
  rw [show [(0, A.val x.1), (1, B.val x.2)] = enumV 0 [A.val x.1, B.val x.2] from rfl, built_all (vs := [A.val x.1, B.val x.2]) [A.sz, B.sz] h ⟨A.len _, B.len _, trivial⟩, enc_pair]
  congr 1
  apply Array.ext'
  simp [cellsL, Cod.enc]
theorem built_3 {P : Program} {ty : TypeId} {α0 α1 α2 : Type} {A0 : Cod α0} {A1 : Cod α1} {A2 : Cod α2} {u0 u1 u2 : Value} {x : α0 × α1 × α2} (h : structOk P ty [A0.sz, A1.sz, A2.sz] = true) (h0 : A0.val x.1 = u0) (h1 : A1.val x.2.1 = u1) (h2 : A2.val x.2.2 = u2) : P.built ty [(0, u0), (1, u1), (2, u2)] = some ((cPair A0 (cPair A1 A2)).enc x) := by
  subst h0 h1 h2
  rw [show [(0, A0.val x.1), (1, A1.val x.2.1), (2, A2.val x.2.2)] = enumV 0 [A0.val x.1, A1.val x.2.1, A2.val x.2.2] from rfl, built_all (vs := [A0.val x.1, A1.val x.2.1, A2.val x.2.2]) [A0.sz, A1.sz, A2.sz] h ⟨A0.len _, A1.len _, A2.len _, trivial⟩]
  rw [show (cPair A0 (cPair A1 A2)).enc x = A0.enc x.1 ++ (A1.enc x.2.1 ++ (A2.enc x.2.2)) from rfl]
  congr 1
  apply Array.ext'
  simp [cellsL, Cod.enc]
section
variable {P : Program} {a : Act} {o : Oper} {w : World} {x : Operand} {src dst : TypeId}
/-- An integer of another kind. -/
theorem opConvI {k k' : IntKind} {n z : Int} (ho : o.op = .convert src dst x) (hs : (P.underlying src).isSome = true) (hd : P.underlying dst = some (.int k')) (hx : a.eval x = .int k n) (hz : k'.wrap n = z) : (execOp a.eval o).run P w = .ok (.value (.int k' z)) w := by
  subst hz
  have hk : P.intKind dst = k' := by simp [Program.intKind, hd]
  have hr := run_convert_int (P := P) (w := w) src dst k n hs (by rw [hk]; exact hd)
  unfold execOp
  simp only [ho, hx, Sem.run_bind, Sem.run_pure, hr, hk, Result.andThen_ok]
end
/-! ### Numbers -/
theorem wI {x z : Int} (h : x = z) (h1 : -9223372036854775808 ≤ z) (h2 : z ≤ 9223372036854775807) : IntKind.i64.wrap x = z := by
  subst h
  simp only [IntKind.wrap]
  first | omega | (simp [IntKind.signed, IntKind.bits]; omega)
theorem dc {p q : Prop} [Decidable p] [Decidable q] (h : p ↔ q) : decide p = decide q := by
  by_cases hp : p
  · rw [decide_eq_true hp, decide_eq_true (h.1 hp)]
  · rw [decide_eq_false hp, decide_eq_false fun hq => hp (h.2 hq)]
theorem quoN {a b : Nat} : ((a : Int)).tdiv (b : Int) = ((a / b : Nat) : Int) := rfl
theorem remN {a b : Nat} : ((a : Int)).tmod (b : Int) = ((a % b : Nat) : Int) := rfl
end Go.Proofs.YtfloiekaiiapnaaGreatDoor

namespace Go.Proofs.YtfloiekaiiapnaaGreatDoor
open Go Go.RowKit

section
variable {P : Program} {ops : Array Oper} {Q : Exit → Act → World → Prop} {rest : List Oper} {w : World} {n : Sz} {m k : Nat} {l l1 l2 : Slots} {p : Prop} [Decidable p] {b : Bool} {Ss : Pend} {L : Array Bool}
theorem Fr.set {a : Act} {v v' : Value} (hF : Fr n l a) (i : Nat) (hi : l[i]? = some (k, v)) (e : v = v') : Fr n (l.set i (k, v')) a := by
  subst e
  refine hF.of fun z hz => ?_
  obtain ⟨j, hj, rfl⟩ := List.mem_iff_getElem.1 hz
  rw [List.getElem_set]
  split
  · exact List.mem_of_getElem? hi
  · exact List.getElem_mem _
theorem pxSplitP (i : Nat) (hi : l[i]? = some (k, .bool (decide p))) (h1 : l.set i (k, .bool true) = l1) (h2 : l.set i (k, .bool false) = l2) (ht : p → PX P ops Q rest n l1 w) (hf : ¬ p → PX P ops Q rest n l2 w) : PX P ops Q rest n l w := fun a hF => by
  subst h1 h2
  by_cases h : p
  · exact ht h a (hF.set i hi (by rw [decide_eq_true h]))
  · exact hf h a (hF.set i hi (by rw [decide_eq_false h]))
end
section
variable {α : Type} {C : Cod α} {w w0 : World} {g : Nat} {t : TypeId} {x : α} {l : List α} {cap : Nat} {cur : Array Value} {A : Option Addr} {n c : Nat} {R : List Nat}
theorem holds_blk0 (h : w.heap[g]? = some (.cells (C.enc x) t (0, 0))) : Holds C w g 0 x := holds_blk h fun j u hu => by rw [Nat.zero_add]; exact hu
theorem put_whole (C : Cod α) (x z : α) : putL (C.enc x) 0 (C.enc z).toList = C.enc z := by
  apply Array.ext_getElem?
  intro k
  rw [putL_get, Array.length_toList, C.size, C.size]
  by_cases hk : k < C.sz
  · rw [if_pos (by omega), Nat.sub_zero, Array.getElem?_toList]
  · rw [if_neg (by omega), Array.getElem?_eq_none (by rw [C.size]; omega), Array.getElem?_eq_none (by rw [C.size]; omega)]
theorem put_at (h : Bk C cap cur l) (i : Nat) (hi : i < l.length) (x : α) : Bk C cap (putL cur (0 + i * C.sz) (C.enc x).toList) (l.set i x) := by rw [Nat.zero_add]; exact h.put i hi x
theorem room_at (h : Bk C cap cur l) {i : Nat} (hi : i < l.length) : 0 + i * C.sz + C.sz ≤ cur.size := by
  rw [h.size, Nat.zero_add]
  have := Nat.mul_le_mul_right C.sz (show i + 1 ≤ cap by have := h.le; omega)
  rw [Nat.add_mul, Nat.one_mul] at this
  exact this
theorem get_at (l : List α) (i : Nat) (h : i < l.length) : ∃ x, l[i]? = some x := ⟨_, List.getElem?_eq_getElem h⟩
theorem Vu.blk (h : Vu C w0 A n c l) (hp : 0 < C.sz) (hO : Off A n R) (hn : 0 < n) : ∃ b off, A = some ⟨b, off, Option.none⟩ ∧ HoldsL C w0 b off l ∧ b < w0.heap.size ∧ b ∉ R := by
  obtain ⟨b, off, hA, hL⟩ := h.at' hn
  obtain ⟨x, hx⟩ := get_at l 0 (by rw [h.len]; exact hn)
  exact ⟨b, off, hA, hL, (hL 0 x hx).lt hp, hO b off hA hn⟩
end
theorem ltb {a b : Nat} (h : Nat.blt a b = true) : a < b := by simpa [Nat.blt_eq] using h
theorem leb {a b : Nat} (h : Nat.ble a b = true) : a ≤ b := Nat.le_of_ble_eq_true h
theorem drop_at {α : Type} {l : List α} {i : Nat} {x : α} (h : l[i]? = some x) : l.drop i = x :: l.drop (i + 1) := by
  obtain ⟨hi, rfl⟩ := List.getElem?_eq_some_iff.1 h
  exact List.drop_eq_getElem_cons hi
theorem Bk.lit1 {α : Type} {C : Cod α} (x : α) : Bk C 1 (C.enc x) [x] := ⟨Nat.le_refl _, by unfold maxLen; decide, by rw [C.size, Nat.one_mul], by
  rw [flat_one, List.length_singleton, Nat.one_mul, ← C.size x, ← Array.length_toList, List.take_length]⟩
theorem Bk.lit0 {α : Type} {C : Cod α} : Bk C 0 #[] [] := ⟨Nat.le_refl _, Nat.zero_le _, by simp, by simp [flat]⟩
theorem Bk.vu {α : Type} {C : Cod α} {cap : Nat} {cur : Array Value} {l : List α} {w : World} {g n : Nat} {t : TypeId} (h : Bk C cap cur l) (hb : w.heap[g]? = some (.cells cur t (0, 0))) (hn : l.length = n) : Vu C w (some ⟨g, 0, none⟩) n cap l :=
  ⟨hn, hn ▸ h.le, (fun h => by cases h), fun _ => ⟨g, 0, rfl, h.holdsL hb⟩⟩
theorem madeCells_flat {α : Type} (C : Cod α) (z : α) (n : Nat) (hsz : 0 < C.sz) : (madeCells (C.enc z) (n * C.sz)).toList = flat C (List.replicate n z) := by
  apply List.ext_getElem?
  intro k
  have hlen : (flat C (List.replicate n z)).length = n * C.sz := by rw [flat_len, List.length_replicate]
  by_cases hk : k < n * C.sz
  · have hdiv : k / C.sz < n := (Nat.div_lt_iff_lt_mul hsz).2 hk
    have hmod : k % C.sz < C.sz := Nat.mod_lt _ hsz
    have hu : (C.enc z)[k % C.sz]? = some ((C.enc z)[k % C.sz]'(by rw [C.size]; exact hmod)) := Array.getElem?_eq_getElem (by rw [C.size]; exact hmod)
    have h1 := flat_get (C := C) (List.replicate n z) (k / C.sz) (k % C.sz) z _ (by simp [hdiv]) hu
    rw [Nat.div_add_mod' k C.sz] at h1
    rw [h1]
    have hm : (C.enc z).size = C.sz := C.size z
    simp only [madeCells, Array.toList_map, Array.toList_range, List.getElem?_map, List.getElem?_range hk, Option.map_some]
    congr 1
    have e : k % (C.enc z).size = k % C.sz := by rw [hm]
    simp only [e]
    exact getElem!_pos _ _ (by rw [hm]; exact hmod)
  · rw [List.getElem?_eq_none (by rw [Array.length_toList, size_madeCells]; omega), List.getElem?_eq_none (by rw [hlen]; omega)]
theorem Bk.make {α : Type} {C : Cod α} (z : α) (n : Nat) (hsz : 0 < C.sz) (hn : n ≤ maxLen) : Bk C n (madeCells (C.enc z) (n * C.sz)) (List.replicate n z) := by
  refine ⟨by rw [List.length_replicate]; exact Nat.le_refl _, hn, by simp [madeCells], ?_⟩
  rw [madeCells_flat C z n hsz, List.length_replicate]
  have : (flat C (List.replicate n z)).length = n * C.sz := by rw [flat_len, List.length_replicate]
  rw [← this, List.take_length]
/-- Blocks of two heaplets are apart. -/
theorem HH.apart {w0 w : World} {R : List Nat} {Hs : List Hl} (h : HH w0 R Hs w) {i j : Nat} {E F : Hl} (hi : Hs[i]? = some E) (hj : Hs[j]? = some F) (hij : i ≠ j) : ∀ x ∈ E, ∀ y ∈ F, x.1 ≠ y.1 := by
  have key : ∀ {i j : Nat} {E F : Hl}, Hs[i]? = some E → Hs[j]? = some F → i < j → ∀ x ∈ E, ∀ y ∈ F, x.1 ≠ y.1 := fun {i j E F} hi hj hij x hx y hy => by
    have hn := Hold.has h |>.ne
    obtain ⟨L, L', h1, _⟩ := flatten_split hi
    have hd : Hs = Hs.take i ++ (E :: Hs.drop (i + 1)) := by
      rw [← drop_at hi, List.take_append_drop]
    have hy' : y ∈ (Hs.drop (i + 1)).flatten := List.mem_flatten.2 ⟨F, by
      have : (Hs.drop (i + 1))[j - (i + 1)]? = some F := by rw [List.getElem?_drop, ← hj]; congr 1; omega
      exact List.mem_of_getElem? this, hy⟩
    rw [hd, List.flatten_append, List.flatten_cons] at hn
    have hn2 := (List.pairwise_append.1 hn).2.1
    exact (List.pairwise_append.1 hn2).2.2 x hx y hy'
  rcases Nat.lt_or_ge i j with h1 | h1
  · exact key hi hj h1
  · intro x hx y hy e
    exact key hj hi (by omega) y hy x hx e.symm
/-- These heaplets, in this order. -/
theorem HH.pick {w0 w : World} {R : List Nat} {Hs Hs' : List Hl} (h : HH w0 R Hs w) (is : List Nat) (hi : is.map (fun i => Hs[i]?) = Hs'.map some) (hn : is.Nodup) : Hold w0 R Hs'.flatten w := by
  have hlen : is.length = Hs'.length := by simpa using congrArg List.length hi
  have hget : ∀ (k : Nat) (E : Hl), Hs'[k]? = some E → ∃ i, is[k]? = some i ∧ Hs[i]? = some E := fun k E hE => by
    have h1 := congrArg (fun l => l[k]?) hi
    simp only [List.getElem?_map, hE, Option.map_some] at h1
    cases hk : is[k]? with
    | none => rw [hk] at h1; cases h1
    | some i => rw [hk] at h1; exact ⟨i, rfl, by simpa using h1⟩
  have hmem : ∀ E ∈ Hs', ∃ i, Hs[i]? = some E := fun E hE => by
    obtain ⟨k, hk⟩ := List.getElem?_of_mem hE
    obtain ⟨i, _, hi⟩ := hget k E hk
    exact ⟨i, hi⟩
  have hsub : ∀ x ∈ Hs'.flatten, x ∈ Hs.flatten := fun x hx => by
    obtain ⟨E, hE, hx⟩ := List.mem_flatten.1 hx
    obtain ⟨i, hi⟩ := hmem E hE
    exact List.mem_flatten.2 ⟨E, List.mem_of_getElem? hi, hx⟩
  have h0 : Hold w0 R Hs.flatten w := h
  refine ⟨h0.os, h0.tape, h0.output, h0.size, fun x hx => h0.blk x (hsub x hx), ?_, fun x hx => h0.own x (hsub x hx), h0.frame⟩
  refine List.pairwise_flatten.2 ⟨fun E hE => ?_, ?_⟩
  · obtain ⟨i, hi⟩ := hmem E hE
    exact (h.has i hi).ne
  · rw [List.pairwise_iff_getElem]
    intro a b ha hb hab x hx y hy
    obtain ⟨i, hia, hi⟩ := hget a _ (List.getElem?_eq_getElem ha)
    obtain ⟨j, hjb, hj⟩ := hget b _ (List.getElem?_eq_getElem hb)
    refine h.apart hi hj (fun e => ?_) x hx y hy
    subst e
    obtain ⟨ha', ea⟩ := List.getElem?_eq_some_iff.1 hia
    obtain ⟨hb', eb⟩ := List.getElem?_eq_some_iff.1 hjb
    have := List.pairwise_iff_getElem.1 hn a b ha' hb' hab
    exact this (ea.trans eb.symm)
/-- A slice of what was there is none of the call's blocks. -/
theorem HH.off {α : Type} {C : Cod α} {w0 w : World} {R : List Nat} {Hs : List Hl} {A : Option Addr} {n c : Nat} {l : List α} {E : Hl} (hH : HH w0 R Hs w) (k : Nat) (hk : Hs[k]? = some E) (hV : Vu C w0 A n c l) (hp : 0 < C.sz) (ho : Off A n R) : Off A n (bks E) := fun b off hA hn hm => by
  obtain ⟨b', off', hA', hL⟩ := hV.at' hn
  rw [hA] at hA'
  obtain rfl : b = b' := by injection hA' with h; injection h
  obtain ⟨x, hx⟩ : ∃ x, l[0]? = some x := ⟨_, List.getElem?_eq_getElem (by rw [hV.len]; exact hn)⟩
  have hlt := (hL 0 x hx).lt hp
  obtain ⟨y, hy, e⟩ := List.mem_map.1 hm
  rcases Hold.own hH y (List.mem_flatten.2 ⟨E, List.mem_of_getElem? hk, hy⟩) with h1 | h1
  · omega
  · exact ho b off hA hn (e ▸ h1)
/-- A slice of another of the call's blocks. -/
theorem HH.off2 {w0 w : World} {R : List Nat} {Hs : List Hl} {g off n : Nat} {t : TypeId} {cs : Array Value} {E : Hl} (hH : HH w0 R Hs w) (k j : Nat) (hk : Hs[k]? = some E) (hj : Hs[j]? = some [bl g t cs]) (hkj : (k == j) = false) : Off (some ⟨g, off, none⟩) n (bks E) := fun b off' hA _ hm => by
  obtain rfl : g = b := by injection hA with h; injection h
  obtain ⟨y, hy, e⟩ := List.mem_map.1 hm
  exact hH.apart hk hj (by simpa using hkj) y hy _ (List.mem_singleton.2 rfl) e
/-! ### Parts of slices; copy -/
theorem HoldsL.cut {α : Type} {C : Cod α} {w : World} {b off : Nat} {l : List α} (h : HoldsL C w b off l) (k m : Nat) : HoldsL C w b (off + k * C.sz) ((l.take m).drop k) := fun i x hx => by
  rw [List.getElem?_drop, List.getElem?_take] at hx
  split at hx
  · have := h (k + i) x hx
    rw [Nat.add_mul, ← Nat.add_assoc] at this
    exact this
  · cases hx
theorem Vu.from {α : Type} {C : Cod α} {w : World} {A : Option Addr} {n c : Nat} {l : List α} (h : Vu C w A n c l) {k : Nat} (hk : k ≤ n) : Vu C w (cutA A c k C.sz) (n - k) (c - k) (l.drop k) := by
  have := h.cut hk (Nat.le_refl n)
  rw [← h.len, List.take_length, h.len] at this
  exact this
theorem cutA_some {b off c k sz : Nat} (h : k < c) : cutA (some ⟨b, off, none⟩) c k sz = some ⟨b, off + k * sz, none⟩ := by
  unfold cutA
  rw [if_neg (by omega)]
  simp [Addr.add_mid]
/-- n bytes from place k on, as an array; an array's bytes. -/
def cutF (l : List UInt8) (k : Nat) : Nat → UInt8 := fun j => l.getD (k + j) 0
def lst (n : Nat) (f : Nat → UInt8) : List UInt8 := (List.range n).map f
theorem lst_len (n : Nat) (f : Nat → UInt8) : (lst n f).length = n := by simp [lst]
theorem lst_get {n : Nat} {f : Nat → UInt8} {i : Nat} (h : i < n) : (lst n f)[i]? = some (f i) := by simp [lst, h]
theorem enc_arr (n : Nat) (f : Nat → UInt8) : (cArr n).enc f = row n f := rfl
theorem HoldsL.arr {w : World} {b off : Nat} {l : List UInt8} (h : HoldsL cByte w b off l) (k n : Nat) (hk : k + n ≤ l.length) : Holds (cArr n) w b (off + k * 1) (cutF l k) := fun j u hu => by
  have hj : j < n := by
    have := (Array.getElem?_eq_some_iff.1 hu).1
    rwa [enc_arr, row_size] at this
  rw [enc_arr, row_get n _ j hj] at hu
  obtain rfl := Option.some.inj hu
  have hx : l[k + j]? = some (cutF l k j) := by
    unfold cutF
    rw [List.getD_eq_getElem?_getD, List.getElem?_eq_getElem (by omega)]; rfl
  have := h (k + j) _ hx 0 (by8 (cutF l k j)) rfl
  rw [Nat.mul_one, Nat.add_assoc]
  simpa [cByte] using this
theorem flat_lst (n : Nat) (f : Nat → UInt8) : flat cByte (lst n f) = (row n f).toList := by
  apply List.ext_getElem?
  intro j
  by_cases hj : j < n
  · have := flat_get (C := cByte) (lst n f) j 0 (f j) (by8 (f j)) (lst_get hj) rfl
    rw [show j * cByte.sz + 0 = j from Nat.mul_one j] at this
    rw [this, Array.getElem?_toList (xs := row n f), row_get n f j hj]
  · rw [List.getElem?_eq_none (by rw [flat_len, lst_len]; show n * 1 ≤ j; omega), List.getElem?_eq_none (by rw [Array.length_toList, row_size]; omega)]
theorem holdsL_arr {w : World} {g n : Nat} {f : Nat → UInt8} {t : TypeId} (hb : w.heap[g]? = some (.cells ((cArr n).enc f) t (0, 0))) : HoldsL cByte w g 0 (lst n f) := fun i x hx => by
  have hi : i < n := by
    have := (List.getElem?_eq_some_iff.1 hx).1
    rwa [lst_len] at this
  rw [lst_get hi] at hx
  obtain rfl := Option.some.inj hx
  refine holds_blk hb fun j u hu => ?_
  obtain rfl : j = 0 := by
    have : j < 1 := (Array.getElem?_eq_some_iff.1 hu).1
    omega
  obtain rfl := Option.some.inj hu
  rw [Nat.zero_add, show i * cByte.sz + 0 = i from Nat.mul_one i, enc_arr, row_get n f i hi]
  rfl
theorem vu_arr {w : World} {g n : Nat} {f : Nat → UInt8} {t : TypeId} (hb : w.heap[g]? = some (.cells ((cArr n).enc f) t (0, 0))) : Vu cByte w (some ⟨g, 0, none⟩) n n (lst n f) :=
  ⟨lst_len n f, Nat.le_refl _, (fun h => by cases h), fun _ => ⟨g, 0, rfl, holdsL_arr hb⟩⟩
section
variable {α : Type} {C : Cod α} {P : Program} {a : Act} {o : Oper} {w w0 : World} {v : Value} {x y : Operand} {t ty ty2 e : TypeId} {g off cap k : Nat} {cs cs' cur : Array Value} {l m : List α} {E : Hl}
theorem Bk.copy (h : Bk C cap cur l) (k : Nat) (m : List α) (hk : k + m.length ≤ l.length) : Bk C cap (putL cur (0 + k * C.sz) (flat C m)) (l.take k ++ (m ++ l.drop (k + m.length))) := by
  have hs := h.size
  have hle := h.le
  have hl : (l.take k ++ (m ++ l.drop (k + m.length))).length = l.length := by simp; omega
  have hb : k * C.sz + m.length * C.sz ≤ l.length * C.sz := by rw [← Nat.add_mul]; exact Nat.mul_le_mul_right _ hk
  have hc : l.length * C.sz ≤ cap * C.sz := Nat.mul_le_mul_right _ hle
  have hfl : (flat C l).length = l.length * C.sz := flat_len l
  refine ⟨by rw [hl]; exact hle, h.max, by rw [putL_size]; exact hs, ?_⟩
  have e1 : flat C (l.take k) = (flat C l).take (k * C.sz) := by
    have := flat_append (C := C) (l.take k) (l.drop k)
    rw [List.take_append_drop] at this
    rw [this]
    have h1 : (flat C (l.take k)).length = k * C.sz := by rw [flat_len, List.length_take]; congr 1; omega
    rw [← h1, List.take_left']
    rfl
  have e2 : flat C (l.drop (k + m.length)) = (flat C l).drop (k * C.sz + m.length * C.sz) := by
    have := flat_append (C := C) (l.take (k + m.length)) (l.drop (k + m.length))
    rw [List.take_append_drop] at this
    rw [this]
    have h1 : (flat C (l.take (k + m.length))).length = k * C.sz + m.length * C.sz := by rw [flat_len, List.length_take, ← Nat.add_mul]; congr 1; omega
    rw [← h1, List.drop_left']
    rfl
  rw [hl, flat_append, flat_append, e1, e2, Nat.zero_add, ← h.take]
  apply List.ext_getElem?
  intro j
  have hlen : (flat C m).length = m.length * C.sz := flat_len m
  have hlt : (List.take (k * C.sz) (List.take (l.length * C.sz) cur.toList)).length = k * C.sz := by simp; omega
  rw [List.getElem?_take, Array.getElem?_toList, putL_get, hlen]
  by_cases h1 : j < k * C.sz
  · rw [if_pos (by omega), if_neg (by omega), List.getElem?_append_left (by omega), List.getElem?_take, if_pos h1, List.getElem?_take, if_pos (by omega), Array.getElem?_toList]
  · rw [List.getElem?_append_right (by omega), hlt]
    by_cases h2 : j < k * C.sz + m.length * C.sz
    · rw [if_pos (by omega), if_pos (by omega), List.getElem?_append_left (by omega)]
    · rw [List.getElem?_append_right (by omega), hlen, List.getElem?_drop, List.getElem?_take]
      by_cases h3 : j < l.length * C.sz
      · rw [if_pos h3, if_neg (by omega), if_pos (by omega), Array.getElem?_toList]
        congr 1; omega
      · rw [if_neg h3, if_neg (by omega)]
theorem OwnT.capLe {A : Option Addr} {n c : Nat} (h : OwnT C e (.slice A n c) l E) : n ≤ c := by
  rcases h.cases with ⟨h1, _, _⟩ | ⟨g, cap, cur, h1, _, hB⟩
  · injection h1 with _ h2 h3; omega
  · injection h1 with _ h2 h3; have := hB.le; omega
/-- copy, the whole of a slice into a block. -/
theorem smCopyT {dn dc sn sc : Nat} {A : Option Addr} (ho : o.op = .call { callee := .builtin .copy, args := #[x, y], argTypes := #[ty, ty2] })
    (hu : P.underlying ty = some (.slice e)) (hs : (P.info? e).map (·.size) = some C.sz) (hsz : 0 < C.sz) (hx : a.eval x = .slice (some ⟨g, off, none⟩) dn dc) (hy : a.eval y = .slice A sn sc)
    (hk : sn ≤ dn) (hm : m.length = sn) (hfit : off + sn * C.sz ≤ cs.size) (hcs : putL cs off (flat C m) = cs') :
    Small P a o [bl g t cs] (fun w => Vu C w A sn sc m) (fun v' E' => v' = .int .i64 (sn : Int) ∧ E' = [bl g t cs']) := fun w hE hR => by
  subst hm
  refine smCopy (news := flat C m) ho hu hs hx hy (fun hA => ?_) (Nat.min_eq_left hk).symm (flat_len m) (flat_one' m) hfit hcs w hE fun p j u hp hj => ?_
  · have := hR.nil hA
    have := hR.cap
    omega
  · have hlen : j < m.length * C.sz := by
      have := (List.getElem?_eq_some_iff.1 hj).1
      rw [flat_len] at this; exact this
    have hm : 0 < m.length := by
      rcases Nat.eq_zero_or_pos m.length with h0 | h0
      · rw [h0] at hlen; simp at hlen
      · exact h0
    obtain ⟨b, off', hA', hL⟩ := hR.at' hm
    rw [hp] at hA'
    obtain rfl := Option.some.inj hA'
    have hdiv : j / C.sz < m.length := (Nat.div_lt_iff_lt_mul hsz).2 hlen
    have hmod : j % C.sz < C.sz := Nat.mod_lt _ hsz
    have hx' : m[j / C.sz]? = some m[j / C.sz] := List.getElem?_eq_getElem hdiv
    have hu' : (C.enc m[j / C.sz])[j % C.sz]? = some ((C.enc m[j / C.sz])[j % C.sz]'(by rw [C.size]; exact hmod)) := Array.getElem?_eq_getElem (by rw [C.size]; exact hmod)
    have h1 := flat_get m _ _ _ _ hx' hu'
    rw [Nat.div_add_mod' j C.sz, hj] at h1
    obtain rfl := Option.some.inj h1
    have h2 := hL _ _ hx' _ _ hu'
    rw [Addr.add_mid, ← h2]
    congr 2
    rw [Nat.add_assoc, Nat.div_add_mod']
/-- copy, as much as there is room for. -/
theorem smCopyK {dn dc sn sc : Nat} {A : Option Addr} (kk : Nat) (hkk : Nat.min sn dn = kk) (ho : o.op = .call { callee := .builtin .copy, args := #[x, y], argTypes := #[ty, ty2] })
    (hu : P.underlying ty = some (.slice e)) (hs : (P.info? e).map (·.size) = some C.sz) (hsz : 0 < C.sz) (hx : a.eval x = .slice (some ⟨g, off, none⟩) dn dc) (hy : a.eval y = .slice A sn sc)
    (hm : m.length = sn) (hfit : off + kk * C.sz ≤ cs.size) (hcs : putL cs off (flat C (m.take kk)) = cs') :
    Small P a o [bl g t cs] (fun w => Vu C w A sn sc m) (fun v' E' => v' = .int .i64 (kk : Int) ∧ E' = [bl g t cs']) := fun w hE hR => by
  subst hm hkk
  have hk : (m.take (Nat.min m.length dn)).length = Nat.min m.length dn := by rw [List.length_take]; exact Nat.min_eq_left (Nat.min_le_left _ _)
  refine smCopy (news := flat C (m.take (Nat.min m.length dn))) ho hu hs hx hy (fun hA => ?_) rfl (by rw [flat_len, hk]) (flat_one' _) hfit hcs w hE fun p j u hp hj => ?_
  · have := hR.nil hA
    have := hR.cap
    omega
  · have hlen : j < (m.take (Nat.min m.length dn)).length * C.sz := by
      have := (List.getElem?_eq_some_iff.1 hj).1
      rw [flat_len] at this; exact this
    have hm : 0 < m.length := by
      rcases Nat.eq_zero_or_pos m.length with h0 | h0
      · rw [List.eq_nil_of_length_eq_zero h0] at hlen; simp at hlen
      · exact h0
    obtain ⟨b, off', hA', hL⟩ := hR.at' hm
    rw [hp] at hA'
    obtain rfl := Option.some.inj hA'
    have hdiv : j / C.sz < (m.take (Nat.min m.length dn)).length := (Nat.div_lt_iff_lt_mul hsz).2 hlen
    have hmod : j % C.sz < C.sz := Nat.mod_lt _ hsz
    obtain ⟨z, hz⟩ := get_at _ _ hdiv
    have hu' : (C.enc z)[j % C.sz]? = some ((C.enc z)[j % C.sz]'(by rw [C.size]; exact hmod)) := Array.getElem?_eq_getElem (by rw [C.size]; exact hmod)
    have h1 := flat_get _ _ _ _ _ hz hu'
    rw [Nat.div_add_mod' j C.sz, hj] at h1
    obtain rfl := Option.some.inj h1
    rw [List.getElem?_take] at hz
    split at hz
    · have h2 := hL _ _ hz _ _ hu'
      rw [Addr.add_mid, ← h2]
      congr 2
      rw [Nat.add_assoc, Nat.div_add_mod']
    · cases hz
/-- An element's place, in a slice whose address is told by an equation. -/
theorem opIndexC {A : Option Addr} {b n c i sz : Nat} {ki : IntKind} {j : Int} (ho : o.op = .indexAddr ty x y) (hu : P.underlying ty = some (.slice e)) (hs : (P.info? e).map (·.size) = some sz) (hx : a.eval x = .slice A n c) (hA : A = some ⟨b, off, none⟩) (hy : a.eval y = .int ki j) (hj : j = (i : Int)) (hi : i < n) :
    (execOp a.eval o).run P w = .ok (.value (.pointer (some ⟨b, off + i * sz, none⟩))) w := opIndex ho hu hs (hA ▸ hx) hy hj hi
/-- A part of a slice that is not nil, from a place inside it on. -/
theorem opSlcL {n c sz : Nat} {b : Nat} {kl : IntKind} {jl : Int} {xl : Operand} (ho : o.op = .slice ty x (some xl) none none) (hu : P.underlying ty = some (.slice e)) (hs : (P.info? e).map (·.size) = some sz) (hx : a.eval x = .slice (some ⟨b, off, none⟩) n c) (hl : a.eval xl = .int kl jl) (hjl : jl = (k : Int)) (h1 : k ≤ n) (h2 : k < c) :
    (execOp a.eval o).run P w = .ok (.value (.slice (some ⟨b, off + k * sz, none⟩) (n - k) (c - k))) w := by
  have := opCutL (w := w) ho hu hs hx hl hjl h1
  rw [cutA_some h2] at this
  exact this
theorem opSlcLH {n c sz h : Nat} {b : Nat} {kl kh : IntKind} {jl jh : Int} {xl xh : Operand} (ho : o.op = .slice ty x (some xl) (some xh) none) (hu : P.underlying ty = some (.slice e)) (hs : (P.info? e).map (·.size) = some sz) (hx : a.eval x = .slice (some ⟨b, off, none⟩) n c) (hl : a.eval xl = .int kl jl) (hh : a.eval xh = .int kh jh) (hjl : jl = (k : Int)) (hjh : jh = (h : Int)) (h1 : k ≤ h) (h2 : h ≤ c) (h3 : k < c) :
    (execOp a.eval o).run P w = .ok (.value (.slice (some ⟨b, off + k * sz, none⟩) (h - k) (c - k))) w := by
  have := opCutLH (w := w) ho hu hs hx hl hh hjl hjh h1 h2
  rw [cutA_some h3] at this
  exact this
end
theorem HH.sel {w0 w : World} {R : List Nat} {Hs Hs' : List Hl} (h : HH w0 R Hs w) (is : List Nat) (hi : is.map (fun i => Hs[i]?) = Hs'.map some) (hn : is.Nodup) : HH w0 R Hs' w := h.pick is hi hn
section
variable {α : Type} {C : Cod α} {e : TypeId} {A : Option Addr} {n c : Nat} {l : List α} {E : Hl} {w : World}
theorem OwnT.vuAt (h : OwnT C e (.slice A n c) l E) (hE : Has E w) : Vu C w A n c l := by
  obtain ⟨A', c', he, hV⟩ := h.vu hE
  injection he with h1 h2 h3
  subst h1 h2 h3
  exact hV
theorem OwnT.nilA (h : OwnT C e (.slice A n c) l E) (hA : A = none) : n = 0 ∧ c = 0 := by
  rcases h.cases with ⟨h1, _, _⟩ | ⟨g, cap, cur, h1, _, _⟩
  · injection h1 with _ h2 h3; exact ⟨h2, h3⟩
  · injection h1 with h1; rw [hA] at h1; cases h1
end
theorem HH.off3 {α : Type} {C : Cod α} {w0 w : World} {R : List Nat} {Hs : List Hl} {A : Option Addr} {n c : Nat} {e : TypeId} {l : List α} {E F : Hl} (hH : HH w0 R Hs w) (k j : Nat) (hk : Hs[k]? = some E) (hj : Hs[j]? = some F) (hkj : (k == j) = false) (hO : OwnT C e (.slice A n c) l F) : Off A n (bks E) := fun b off hA hn hm => by
  rcases hO.cases with ⟨h1, _, _⟩ | ⟨g, cap, cur, h1, rfl, _⟩
  · injection h1 with h1; rw [hA] at h1; cases h1
  · injection h1 with h1
    rw [hA] at h1
    obtain rfl : b = g := by injection h1 with h; injection h
    obtain ⟨y, hy, e⟩ := List.mem_map.1 hm
    exact hH.apart hk hj (by simpa using hkj) y hy _ (List.mem_singleton.2 rfl) e
theorem vu_holds {w : World} {b off n : Nat} {f : Nat → UInt8} (h : Holds (cArr n) w b off f) : Vu cByte w (some ⟨b, off, none⟩) n n (lst n f) :=
  ⟨lst_len n f, Nat.le_refl _, (fun h => by cases h), fun _ => ⟨b, off, rfl, fun i x hx j u hu => by
    have hi : i < n := by
      have := (List.getElem?_eq_some_iff.1 hx).1
      rwa [lst_len] at this
    rw [lst_get hi] at hx
    obtain rfl := Option.some.inj hx
    obtain rfl : j = 0 := by
      have : j < 1 := (Array.getElem?_eq_some_iff.1 hu).1
      omega
    obtain rfl := Option.some.inj hu
    have := h i (by8 (f i)) (by rw [enc_arr]; exact row_get n f i hi)
    rw [show off + i * cByte.sz + 0 = off + i from by show off + i * 1 + 0 = _; omega]
    exact this⟩⟩
/-- Heaplets of nothing beside the others. -/
theorem HH.pad {w0 w : World} {R : List Nat} {Hs : List Hl} (h : HH w0 R Hs w) (m : Nat) : HH w0 R (Hs ++ List.replicate m []) w := h.cast (by simp)
/-- Some of a list: a mask. -/
def pickG {α : Type} : List Bool → List α → List α
  | true :: m, x :: l => x :: pickG m l
  | false :: m, _ :: l => pickG m l
  | _, _ => []
theorem pickG_sub {α : Type} : ∀ (m : List Bool) (l : List α), (pickG m l).Sublist l
  | [], l => by cases l <;> exact List.nil_sublist _
  | true :: _, [] => List.nil_sublist _
  | false :: _, [] => List.nil_sublist _
  | true :: m, x :: l => (pickG_sub m l).cons_cons x
  | false :: m, x :: l => (pickG_sub m l).cons x
/-- What is handed back: these heaplets. -/
theorem HH.out {w0 w : World} {R : List Nat} {Hs : List Hl} (h : HH w0 R Hs w) (m : List Bool) : Hold w0 R (pickG m Hs).flatten w := Hold.sub h (flatten_sub (pickG_sub m Hs))
theorem HH.out1 {w0 w : World} {R : List Nat} {Hs : List Hl} {E : Hl} (h : HH w0 R Hs w) (m : List Bool) (e : pickG m Hs = [E]) : Hold w0 R E w := by
  have := h.out m
  rw [e] at this
  simpa using this
theorem HH.only {w0 w : World} {R : List Nat} {Hs : List Hl} (h : HH w0 R Hs w) (m : List Bool) : HH w0 R (pickG m Hs) w := h.drop (pickG_sub m Hs)
end Go.Proofs.YtfloiekaiiapnaaGreatDoor

namespace Go.Proofs.YtfloiekaiiapnaaGreatDoor
open Go Go.RowKit

theorem wrapU {k : IntKind} (hs : k.signed = false) (a : Nat) : k.wrap (a : Int) = ((a % 2 ^ k.bits : Nat) : Int) := by
  unfold IntKind.wrap
  simp only [hs, Bool.false_and, Bool.false_eq_true, if_false]
  rw [Int.natCast_emod]
  congr 1
theorem ofInt_nat (n a : Nat) (h : a < 2 ^ n) : (BitVec.ofInt n (a : Int)).toNat = a := by
  rw [BitVec.toNat_ofInt]
  have : ((a : Int) % ((2 ^ n : Nat) : Int)) = (a : Int) := Int.emod_eq_of_lt (by omega) (by omega)
  rw [this]; rfl
section
variable {P : Program} {a : Act} {o : Oper} {w : World} {x y : Operand} {t t2 : TypeId} {k : IntKind} {m j z : Nat}
theorem opAndU (hs : k.signed = false) (ho : o.op = .binOp .and t x y t2) (hx : a.eval x = .int k (m : Int)) (hy : a.eval y = .int k (j : Int)) (hm : m < 2 ^ k.bits) (hj : j < 2 ^ k.bits) (hz : m &&& j = z) : (execOp a.eval o).run P w = .ok (.value (.int k (z : Int))) w := by
  subst hz
  refine opInt ho hx hy ?_
  have e : k.wrap ((BitVec.ofInt k.bits (m : Int) &&& BitVec.ofInt k.bits (j : Int)).toNat : Int) = ((m &&& j : Nat) : Int) := by
    rw [BitVec.toNat_and, ofInt_nat _ _ hm, ofInt_nat _ _ hj, wrapU hs, Nat.mod_eq_of_lt (Nat.lt_of_le_of_lt Nat.and_le_left hm)]
  rw [binOp_and]
  show ((pure (.int k (k.wrap ((BitVec.ofInt k.bits (m : Int) &&& BitVec.ofInt k.bits (j : Int)).toNat : Int))) : Sem Value)).run P w = _
  rw [e]; rfl
theorem opOrU (hs : k.signed = false) (ho : o.op = .binOp .or t x y t2) (hx : a.eval x = .int k (m : Int)) (hy : a.eval y = .int k (j : Int)) (hm : m < 2 ^ k.bits) (hj : j < 2 ^ k.bits) (hz : m ||| j = z) : (execOp a.eval o).run P w = .ok (.value (.int k (z : Int))) w := by
  subst hz
  refine opInt ho hx hy ?_
  have e : k.wrap ((BitVec.ofInt k.bits (m : Int) ||| BitVec.ofInt k.bits (j : Int)).toNat : Int) = ((m ||| j : Nat) : Int) := by
    rw [BitVec.toNat_or, ofInt_nat _ _ hm, ofInt_nat _ _ hj, wrapU hs, Nat.mod_eq_of_lt (Nat.or_lt_two_pow hm hj)]
  rw [binOp_or]
  show ((pure (.int k (k.wrap ((BitVec.ofInt k.bits (m : Int) ||| BitVec.ofInt k.bits (j : Int)).toNat : Int))) : Sem Value)).run P w = _
  rw [e]; rfl
theorem opXorU (hs : k.signed = false) (ho : o.op = .binOp .xor t x y t2) (hx : a.eval x = .int k (m : Int)) (hy : a.eval y = .int k (j : Int)) (hm : m < 2 ^ k.bits) (hj : j < 2 ^ k.bits) (hz : m ^^^ j = z) : (execOp a.eval o).run P w = .ok (.value (.int k (z : Int))) w := by
  subst hz
  refine opInt ho hx hy ?_
  have e : k.wrap ((BitVec.ofInt k.bits (m : Int) ^^^ BitVec.ofInt k.bits (j : Int)).toNat : Int) = ((m ^^^ j : Nat) : Int) := by
    rw [BitVec.toNat_xor, ofInt_nat _ _ hm, ofInt_nat _ _ hj, wrapU hs, Nat.mod_eq_of_lt (Nat.xor_lt_two_pow hm hj)]
  rw [binOp_xor]
  show ((pure (.int k (k.wrap ((BitVec.ofInt k.bits (m : Int) ^^^ BitVec.ofInt k.bits (j : Int)).toNat : Int))) : Sem Value)).run P w = _
  rw [e]; rfl
theorem opAddU (hs : k.signed = false) (ho : o.op = .binOp .add t x y t2) (hx : a.eval x = .int k (m : Int)) (hy : a.eval y = .int k (j : Int)) (hz : (m + j) % 2 ^ k.bits = z) : (execOp a.eval o).run P w = .ok (.value (.int k (z : Int))) w := by
  subst hz
  exact opAdd ho hx hy (by rw [← Int.natCast_add, wrapU hs])
theorem opMulU (hs : k.signed = false) (ho : o.op = .binOp .mul t x y t2) (hx : a.eval x = .int k (m : Int)) (hy : a.eval y = .int k (j : Int)) (hz : (m * j) % 2 ^ k.bits = z) : (execOp a.eval o).run P w = .ok (.value (.int k (z : Int))) w := by
  subst hz
  exact opMul ho hx hy (by rw [← Int.natCast_mul, wrapU hs])
theorem opSubU (hs : k.signed = false) (ho : o.op = .binOp .sub t x y t2) (hx : a.eval x = .int k (m : Int)) (hy : a.eval y = .int k (j : Int)) (hj : j ≤ 2 ^ k.bits) (hz : (m + (2 ^ k.bits - j)) % 2 ^ k.bits = z) : (execOp a.eval o).run P w = .ok (.value (.int k (z : Int))) w := by
  subst hz
  refine opSub ho hx hy ?_
  rw [← wrapU hs]
  unfold IntKind.wrap
  simp only [hs, Bool.false_and, Bool.false_eq_true, if_false]
  have e : (((m + (2 ^ k.bits - j) : Nat)) : Int) = ((m : Int) - (j : Int)) + (2 ^ k.bits : Int) := by
    have h := Int.natCast_pow 2 k.bits
    have h2 : ((2 ^ k.bits : Nat) : Int) = (2 : Int) ^ k.bits := h
    rw [← h2]
    omega
  rw [e, Int.add_emod_right]
theorem opShlG {yk : IntKind} {n : Nat} {r : Int} (ho : o.op = .binOp .shl t x y t2) (hx : a.eval x = .int k (m : Int)) (hy : a.eval y = .int yk (n : Int)) (hn : n ≤ k.bits) (e : k.wrap ((m : Int) * 2 ^ n) = r) : (execOp a.eval o).run P w = .ok (.value (.int k r)) w := by
  have h0 : ¬ ((n : Int) < 0) := by omega
  unfold execOp
  simp [ho, hx, hy, eqGuard, binOp, Op.shift, h0, Nat.min_eq_left hn, e]
theorem opShlU {yk : IntKind} {n : Nat} (hs : k.signed = false) (ho : o.op = .binOp .shl t x y t2) (hx : a.eval x = .int k (m : Int)) (hy : a.eval y = .int yk (n : Int)) (hn : n ≤ k.bits) (hz : (m * 2 ^ n) % 2 ^ k.bits = z) : (execOp a.eval o).run P w = .ok (.value (.int k (z : Int))) w := by
  subst hz
  have e : k.wrap ((m : Int) * 2 ^ n) = ((m * 2 ^ n % 2 ^ k.bits : Nat) : Int) := by
    rw [← wrapU hs, Int.natCast_mul, Int.natCast_pow]; rfl
  have h0 : ¬ ((n : Int) < 0) := by omega
  unfold execOp
  simp [ho, hx, hy, eqGuard, binOp, Op.shift, h0, Nat.min_eq_left hn, e]
theorem opShrU {yk : IntKind} {n : Nat} (ho : o.op = .binOp .shr t x y t2) (hx : a.eval x = .int k (m : Int)) (hy : a.eval y = .int yk (n : Int)) (hn : n ≤ k.bits) (hz : m / 2 ^ n = z) : (execOp a.eval o).run P w = .ok (.value (.int k (z : Int))) w := by
  subst hz
  have e : (m : Int).fdiv (2 ^ n) = ((m / 2 ^ n : Nat) : Int) := by
    rw [Int.natCast_ediv, Int.natCast_pow, Int.fdiv_eq_ediv_of_nonneg _ (by exact Int.pow_nonneg (by decide))]; rfl
  have h0 : ¬ ((n : Int) < 0) := by omega
  unfold execOp
  simp [ho, hx, hy, eqGuard, binOp, Op.shift, h0, Nat.min_eq_left hn, e]
/-- 1 << n, of ints. -/
theorem opShlI {yk : IntKind} {n : Nat} (ho : o.op = .binOp .shl t x y t2) (hx : a.eval x = .int .i64 (m : Int)) (hy : a.eval y = .int yk (n : Int)) (hn : n ≤ 64) (hz : m * 2 ^ n = z) (hl : z ≤ 9223372036854775807) : (execOp a.eval o).run P w = .ok (.value (.int .i64 (z : Int))) w := by
  subst hz
  have e : IntKind.i64.wrap ((m : Int) * 2 ^ n) = ((m * 2 ^ n : Nat) : Int) := wI (by rw [Int.natCast_mul, Int.natCast_pow]; rfl) (by omega) (by omega)
  exact opShlG (k := .i64) ho hx hy hn e
/-- A number, as one of an unsigned kind. -/
theorem opConvU {src dst : TypeId} {k' : IntKind} (hs : k'.signed = false) (ho : o.op = .convert src dst x) (hsrc : (P.underlying src).isSome = true) (hd : P.underlying dst = some (.int k')) (hx : a.eval x = .int k (m : Int)) (hz : m % 2 ^ k'.bits = z) : (execOp a.eval o).run P w = .ok (.value (.int k' (z : Int))) w := by
  subst hz
  exact opConvI ho hsrc hd hx (wrapU hs m)
end
/-- A mask of n bits. -/
theorem and_mask (m n : Nat) : m &&& (2 ^ n - 1) = m % 2 ^ n := Nat.and_two_pow_sub_one_eq_mod m n
theorem strL_inj {l m : List UInt8} : strL l = strL m ↔ l = m := by
  constructor
  · intro h
    have := congrArg (fun b => b.data.toList) h
    simpa using this
  · intro h; rw [h]
end Go.Proofs.YtfloiekaiiapnaaGreatDoor

namespace Go.Proofs.YtfloiekaiiapnaaGreatDoor
open Go Go.RowKit

section
variable {P : Program} {a : Act} {o : Oper} {w w0 : World} {R : List Nat} {Hs : List Hl} {v vx vy : Value} {x y : Operand} {t t2 ty ty2 e : TypeId} {g off n c k : Nat} {cs cs' xs : Array Value}
/-- What was there ahead of the call, and isn't written. -/
theorem HH.oldBlk {ob : Obj} (hH : HH w0 R Hs w) (h : w0.heap[g]? = some ob) (hR : g ∉ R) : w.heap[g]? = some ob := by
  rw [hH.old (Array.getElem?_eq_some_iff.1 h).1 hR]; exact h
/-- A block of another heaplet. -/
theorem HH.notin {E : Hl} {ob : Obj} (hH : HH w0 R Hs w) (i j : Nat) (hi : Hs[i]? = some E) (hj : Hs[j]? = some [(g, ob)]) (hij : (i == j) = false) : g ∉ bks E := fun hm => by
  obtain ⟨y, hy, e⟩ := List.mem_map.1 hm
  exact hH.apart hi hj (by simpa using hij) y hy _ (List.mem_singleton.2 rfl) e
/-- The first elements of a slice. -/
theorem Vu.head {α : Type} {C : Cod α} {w : World} {A : Option Addr} {n c m : Nat} {l : List α} (h : Vu C w A n c l) (hm : m ≤ n) : Vu C w A m c (l.take m) := by
  have := h.cut (Nat.zero_le m) hm
  rwa [cutA_zero, Nat.sub_zero, Nat.sub_zero, List.drop_zero] at this
/-! ### What is handed back in a cell -/
section
variable {Q : Exit → Act → World → Prop} {l : Slots} {fn : Func} {RR : Ending → World → Prop}
theorem qxRetC {nn : Nat} {p : Tmp} (i : Nat) (hb : w.heap[g]? = some (.cells cs t (0, 0))) (hf : fn.results = #[.cell p ty]) (hi : l[i]? = some (p, .pointer (some ⟨g, 0, none⟩))) (hdd : (P.underlying ty).map (·.isRow) = some true) (hk : cs.size = k) (hs : (P.info? ty).map (·.size) = some k) (hR : RR (.returned (.agg cs)) w) : QX (bodyPost P fn RR) .ret ⟨nn, []⟩ l w := fun a hF => by
  obtain ⟨d, hu, hdr⟩ := isRow_desc hdd
  exact bodyPost_ret (results_cell_row hf _ _ g t cs (0, 0) d (hF.at i hi) hb hu (by cases d <;> first | rfl | cases hdr) (by rw [hs, hk])) hF.defers hR
theorem qxRetCT {nn : Nat} {p u : Tmp} (i j : Nat) (hb : w.heap[g]? = some (.cells cs t (0, 0))) (hf : fn.results = #[.cell p ty, .tmp u]) (hi : l[i]? = some (p, .pointer (some ⟨g, 0, none⟩))) (hj : l[j]? = some (u, v)) (hdd : (P.underlying ty).map (·.isRow) = some true) (hk : cs.size = k) (hs : (P.info? ty).map (·.size) = some k) (hR : RR (.returned (.tuple #[.agg cs, v])) w) : QX (bodyPost P fn RR) .ret ⟨nn, []⟩ l w := fun a hF => by
  obtain ⟨d, hu, hdr⟩ := isRow_desc hdd
  refine bodyPost_ret (v := .tuple #[.agg cs, v]) ?_ hF.defers hR
  have hl := run_loadVar_row (P := P) w g t ty cs (0, 0) d hb hu (by cases d <;> first | rfl | cases hdr) (by rw [hs, hk])
  rw [results_cell_tmp hf, hF.at i hi, hF.at j hj]
  simp [asAddr, hl]
end
/-- One element of an array. -/
theorem Holds.elt {m b i : Nat} {f : Nat → UInt8} (h : Holds (cArr m) w b off f) (hi : i < m) : Holds cByte w b (off + i * 1) (f i) := fun j u hu => by
  obtain rfl : j = 0 := by
    have : j < 1 := (Array.getElem?_eq_some_iff.1 hu).1
    omega
  obtain rfl := Option.some.inj hu
  have := h i (by8 (f i)) (by rw [enc_arr]; exact row_get m f i hi)
  rw [Nat.mul_one, Nat.add_zero]
  exact this
end
/-! ### What hangs on an operation that isn't wanted -/
section
variable {P : Program} {ops : Array Oper} {Q : Exit → Act → World → Prop} {o : Oper} {rest : List Oper} {w : World} {n : Sz} {d m i : Nat} {l l' : Slots} {L : Array Bool} {Ss : Pend}
end
section
variable {α : Type} {C : Cod α} {P : Program} {a : Act} {o : Oper} {w w0 : World} {v : Value} {x y : Operand} {t ty ty2 e : TypeId} {g off cap k : Nat} {cs cs' cur : Array Value} {l m : List α} {E : Hl}
/-- A view's cells, one by one. -/
theorem Vu.cells {A : Option Addr} {n c : Nat} (h : Vu C w A n c l) (hsz : 0 < C.sz) : Cells w A (flat C l) := fun p j u hp hj => by
  have hlen : j < l.length * C.sz := by
    have := (List.getElem?_eq_some_iff.1 hj).1
    rw [flat_len] at this; exact this
  have hm : 0 < l.length := by
    rcases Nat.eq_zero_or_pos l.length with h0 | h0
    · rw [h0] at hlen; simp at hlen
    · exact h0
  obtain ⟨b, off', hA', hL⟩ := h.at' (h.len ▸ hm)
  rw [hp] at hA'
  obtain rfl := Option.some.inj hA'
  have hdiv : j / C.sz < l.length := (Nat.div_lt_iff_lt_mul hsz).2 hlen
  have hmod : j % C.sz < C.sz := Nat.mod_lt _ hsz
  obtain ⟨z, hz⟩ := get_at _ _ hdiv
  have hu' : (C.enc z)[j % C.sz]? = some ((C.enc z)[j % C.sz]'(by rw [C.size]; exact hmod)) := Array.getElem?_eq_getElem (by rw [C.size]; exact hmod)
  have h1 := flat_get _ _ _ _ _ hz hu'
  rw [Nat.div_add_mod' j C.sz, hj] at h1
  obtain rfl := Option.some.inj h1
  have h2 := hL _ _ hz _ _ hu'
  rw [Addr.add_mid, ← h2]
  congr 2
  rw [Nat.add_assoc, Nat.div_add_mod']
/-- append, to a slice that has no room for it: a new one. -/
theorem smAppNew {nx cx n c by_ : Nat} {z : Value} {p : Addr} {A : Option Addr} (ho : o.op = .call { callee := .builtin .append, args := #[x, y], argTypes := #[ty, ty] })
    (hu : P.underlying ty = some (.slice e)) (hi : (P.info? e).map (fun i => (i.zero, i.size, i.bytes)) = some (some z, C.sz, by_)) (hzs : z.cells.size = C.sz) (hsz : 0 < C.sz)
    (hx : a.eval x = .slice (some p) nx cx) (hy : a.eval y = .slice A n c) (hl : l.length = nx) (hm : m.length = n) (hA : A = none → n = 0) (hfull : cx < nx + n) (hcx : nx ≤ cx) (h63 : nx + n ≤ maxLen) (hbytes : (nx + n) * by_ ≤ 140737488355328) :
    Small P a o [] (fun w => Vu C w (some p) nx cx l ∧ Vu C w A n c m) (fun v' E' => OwnT C e v' (l ++ m) E') := fun w hE ⟨hV1, hV2⟩ => by
  subst hl hm
  obtain ⟨i, hi', h2⟩ := Option.map_eq_some_iff.1 hi
  simp only [Prod.mk.injEq] at h2
  obtain ⟨hz, hisz, rfl⟩ := h2
  have hpos : 0 < m.length := by omega
  obtain ⟨q, rfl⟩ : ∃ q, A = some q := by
    cases A with
    | none => have := hA rfl; omega
    | some q => exact ⟨q, rfl⟩
  have hsmall : l.length + m.length ≤ 9223372036854775807 := by simp only [maxLen] at h63; omega
  have hr := run_append_grow (P := P) w ty o.type e i z hu hi' hz p l.length cx (flat C l) (by rw [hisz]; exact flat_len l) (fun j u hj => hV1.cells hsz p j u rfl hj) q m.length c (flat C m) (by rw [hisz]; exact flat_len m) (fun j u hj => hV2.cells hsz q j u rfl hj) hfull (by omega) (growslice_fits (by omega) hbytes)
  unfold execOp
  simp only [ho, resolve, invoke, builtin, Sem.run_bind, Sem.run_pure, Result.andThen_ok, List.map_toArray, List.map_cons, List.map_nil, hx, hy, hr]
  have hge := grownCap_ge w (l.length + m.length) cx e
  have hcm := grownCap_le_maxLen w (l.length + m.length) cx e h63
  have hold : Hold w [] [bl w.heap.size e ((flat C l).toArray ++ (flat C m).toArray ++ Builtin.zeroCells z.cells (grownCap w (l.length + m.length) cx e - (l.length + m.length)))] (w.drew.alloc (.cells ((flat C l).toArray ++ (flat C m).toArray ++ Builtin.zeroCells z.cells (grownCap w (l.length + m.length) cx e - (l.length + m.length))) e)) := by
    have := Has.new w.drew (.cells ((flat C l).toArray ++ (flat C m).toArray ++ Builtin.zeroCells z.cells (grownCap w (l.length + m.length) cx e - (l.length + m.length))) e)
    exact ⟨this.os, this.tape, this.output, this.size, this.blk, this.ne, fun x hx => (this.own x hx).imp id (fun h => (by cases h)), fun k hk _ => this.frame k hk (by simp)⟩
  refine ⟨_, ?_, hold⟩
  refine Bk.own (cap := grownCap w (l.length + m.length) cx e) ⟨by rw [List.length_append]; exact hge, hcm, ?_, ?_⟩ e w.heap.size (by rw [List.length_append])
  · simp only [Array.size_append, List.size_toArray, size_zeroCells, hzs, flat_len, ← Nat.add_mul]
    congr 1
    omega
  · simp only [Array.toList_append, List.append_assoc]
    rw [← List.append_assoc, ← flat_append, List.length_append, ← List.length_append, ← flat_len (C := C)]
    exact List.take_left
/-- A literal of a slice, each of whose elements is given. -/
theorem fill_flat (C : Cod α) : ∀ (l : List α) (i : Nat) (pre z : List Value), pre.length = i * C.sz → z.length = l.length * C.sz →
    Instr.fill (fun k => some (k * C.sz, C.sz)) (pre ++ z).toArray (enumV i (l.map C.val)) = some (pre ++ flat C l).toArray
  | [], i, pre, z, _, hz => by
    obtain rfl : z = [] := List.eq_nil_of_length_eq_zero (by simpa using hz)
    simp [enumV, Instr.fill, flat]
  | d :: r, i, pre, z, hp, hz => by
    have hd : (C.val d).cells.size = C.sz := C.len d
    simp only [List.map_cons, enumV]
    unfold Instr.fill
    simp only [hd]
    have hzl : C.sz ≤ z.length := by
      rw [hz, List.length_cons, Nat.add_mul]; omega
    rw [if_neg (by simp; omega)]
    have hf := foldl_put (C.val d).cells.toList (i * C.sz) (pre ++ z).toArray 0
    rw [Nat.add_zero] at hf
    rw [← Array.foldl_toList, Array.toList_zipIdx, hf, putL_append pre z (C.val d).cells.toList _ hp (by rw [Array.length_toList, hd]; exact hzl), ← List.append_assoc]
    have hdl : (C.val d).cells.toList.length = C.sz := by rw [Array.length_toList, hd]
    rw [fill_flat C r (i + 1) (pre ++ (C.val d).cells.toList) (z.drop (C.val d).cells.toList.length) (by rw [List.length_append, hp, hdl, Nat.add_mul]; omega) (by rw [List.length_drop, hz, hdl, List.length_cons, Nat.add_mul]; omega)]
    simp [flat, Cod.enc]
theorem smLits {parts : List (Nat × Operand)} {n by_ : Nat} {z : Value} (l : List α) (ho : o.op = .buildSlice ty n parts.toArray) (hu : P.underlying ty = some (.slice e)) (hi : (P.info? e).map (fun i => (i.zero, i.size, i.bytes)) = some (some z, C.sz, by_)) (hx : EvP a parts (enumV 0 (l.map C.val))) (hn : l.length = n) (h0 : 0 < n * C.sz) (h1 : n * C.sz ≤ 16777216) (hcs : (flat C l).toArray = cs) :
    Small P a o [] (fun _ => True) (fun v E' => ∃ g, v = .slice (some ⟨g, 0, none⟩) n n ∧ E' = [bl g e cs]) := fun w _ _ => by
  subst hcs hn
  obtain ⟨i, hi', h2⟩ := Option.map_eq_some_iff.1 hi
  simp only [Prod.mk.injEq] at h2
  obtain ⟨hz, hsz, rfl⟩ := h2
  have hf : Instr.fill (fun k => some (k * i.size, i.size)) ((Array.range (l.length * i.size)).map (z.cells[· % z.cells.size]!)) (enumV 0 (l.map C.val)) = some (flat C l).toArray := by
    rw [hsz]
    have := fill_flat C l 0 [] ((Array.range (l.length * C.sz)).map (z.cells[· % z.cells.size]!)).toList (by simp) (by simp)
    rw [List.nil_append, List.nil_append, Array.toArray_toList] at this
    exact this
  have hr := run_buildSlice (P := P) w ty e l.length (parts.toArray.map fun (i, x) => (i, a.eval x)) (flat C l).toArray i z hu hi' hz (by rw [hsz]; omega) (by rw [hsz]; omega) (by rw [hx.map]; exact hf)
  unfold execOp
  simp only [ho, Sem.run_bind, Sem.run_pure, Result.andThen_ok, hr]
  exact ⟨_, ⟨_, rfl, rfl⟩, Has.new w _⟩
theorem Bk.lits (l : List α) (h : l.length ≤ maxLen) : Bk C l.length (flat C l).toArray l := ⟨Nat.le_refl _, h, by simp [flat_len], by
  have : (flat C l).length = l.length * C.sz := flat_len l
  rw [← this]; simp⟩
theorem put_from (h : Bk C cap cur l) (k i : Nat) (hi : k + i < l.length) (x : α) : Bk C cap (putL cur (0 + k * C.sz + i * C.sz) (C.enc x).toList) (l.set (k + i) x) := by
  have := put_at h (k + i) hi x
  rw [Nat.add_mul, ← Nat.add_assoc] at this
  exact this
theorem room_from (h : Bk C cap cur l) {k i : Nat} (hi : k + i < l.length) : 0 + k * C.sz + i * C.sz + C.sz ≤ cur.size := by
  have := room_at h hi
  rw [Nat.add_mul, ← Nat.add_assoc] at this
  exact this
end
/-- A call's answer in other words. -/
theorem Pure.as {P : Program} {f : FuncId} {args : Array Value} {Rd : World → Prop} {v v' : Value} (h : Pure P f args Rd v') (e : v' = v) : Pure P f args Rd v := e ▸ h
/-- The first bytes others. -/
def ovr (l : List UInt8) (f : Nat → UInt8) : Nat → UInt8 := fun k => if k < l.length then l.getD k 0 else f k
theorem arr_ovr {n : Nat} (l : List UInt8) (f : Nat → UInt8) : putL ((cArr n).enc f) 0 (flat cByte l) = (cArr n).enc (ovr l f) := by
  apply Array.ext_getElem?
  intro k
  have hf : (flat cByte l).length = l.length := by rw [flat_len]; exact Nat.mul_one _
  rw [putL_get, enc_arr, enc_arr, row_size, hf]
  by_cases hk : k < n
  · rw [row_get n _ k hk, row_get n _ k hk]
    by_cases h1 : k < l.length
    · rw [if_pos (by omega)]
      have := flat_get (C := cByte) l k 0 l[k] (by8 l[k]) (List.getElem?_eq_getElem h1) rfl
      rw [show k * cByte.sz + 0 = k from Nat.mul_one k] at this
      rw [Nat.sub_zero, this]
      unfold ovr
      rw [if_pos h1, List.getD_eq_getElem?_getD, List.getElem?_eq_getElem h1]; rfl
    · rw [if_neg (by omega)]
      unfold ovr
      rw [if_neg h1]
  · rw [if_neg (by omega), Array.getElem?_eq_none (by rw [row_size]; omega), Array.getElem?_eq_none (by rw [row_size]; omega)]
/-! ### '==' of arrays of bytes -/
section
variable {P : Program} {a : Act} {o : Oper} {w : World} {x y : Operand} {t t2 e : TypeId} {n : Nat} {f g : Nat → UInt8}
theorem eqItems_row (d n : Nat) (he : P.underlying e = some (.int .u8)) (f g : Nat → UInt8) : ∀ l : List Nat, (∀ i ∈ l, i < n) → (Op.eqItems (d + 1) e 1 (row n f) (row n g) l).run P w = .ok (l.all fun i => f i == g i) w
  | [], _ => by simp [Op.eqItems]
  | i :: l, h => by
    have hi := h i (by simp)
    have h1 := row_get n f i hi
    have h2 := row_get n g i hi
    have ih := eqItems_row d n he f g l (fun j hj => h j (by simp [hj]))
    have p1 : (part e (row n f) (i * 1)).run P w = .ok (by8 (f i)) w := by simp [part, isAgg, run_underlying he, h1]
    have p2 : (part e (row n g) (i * 1)).run P w = .ok (by8 (g i)) w := by simp [part, isAgg, run_underlying he, h2]
    have p3 : (Op.equalIn (d + 1) e (by8 (f i)) (by8 (g i))).run P w = .ok (f i == g i) w := by
      have e1 : ((f i).toNat == (g i).toNat) = (f i == g i) := by
        rw [Bool.eq_iff_iff]
        simp [← UInt8.toNat_inj]
      have e2 : (((f i).toNat : Int) == ((g i).toNat : Int)) = (f i == g i) := by
        rw [← e1, Bool.eq_iff_iff]
        simp
        omega
      simp [Op.equalIn, run_underlying he, by8, e2]
    simp only [Op.eqItems, Sem.run_bind, p1, p2, p3, Result.andThen_ok, List.all_cons]
    cases f i == g i
    · simp
    · simpa using ih
theorem sameL {n : Nat} {f g : Nat → UInt8} : ((List.range n).all fun i => f i == g i) = decide (lst n f = lst n g) := by
  rw [Bool.eq_iff_iff, List.all_eq_true, decide_eq_true_iff]
  constructor
  · intro h
    refine List.map_congr_left fun i hi => ?_
    simpa using h i hi
  · intro h i hi
    have h1 := congrArg (fun l => l[i]?) h
    have hi' : i < n := List.mem_range.1 hi
    simp only [lst_get hi', Option.some.injEq] at h1
    simpa using h1
theorem equal_arr (hu : P.underlying t = some (.array n e)) (he : P.underlying e = some (.int .u8)) (hs : (P.info? e).map (·.size) = some 1) (f g : Nat → UInt8) (w : World) : (Op.equal t (.agg (row n f)) (.agg (row n g))).run P w = .ok (decide (lst n f = lst n g)) w := by
  obtain ⟨i, hi, hsz⟩ := Option.map_eq_some_iff.1 hs
  have h := run_equalIn_array (P := P) (w := w) 9999 (row n f) (row n g) hu hi
  have hc : P.cellsOf e = 1 := by simp [Program.cellsOf, hi, hsz]
  rw [hc, eqItems_row 9998 n he f g _ (fun j hj => List.mem_range.1 hj), sameL] at h
  exact h
theorem opNeA {p : Prop} [Decidable p] (ho : o.op = .binOp .neq t x y t2) (hu : P.underlying t = some (.array n e)) (he : P.underlying e = some (.int .u8)) (hs : (P.info? e).map (·.size) = some 1) (hx : a.eval x = (cArr n).val f) (hy : a.eval y = (cArr n).val g) (hq : P.eqGuardType P.depth t = false) (hb : lst n f ≠ lst n g ↔ p) : (execOp a.eval o).run P w = .ok (.value (.bool (decide p))) w := by
  have h := equal_arr hu he hs f g w
  have h2 : (binOp .neq t (.agg (row n f)) (.agg (row n g))).run P w = .ok (.bool (decide p)) w := by
    simp only [binOp, Sem.run_bind, h, Result.andThen_ok, Sem.run_pure]
    rw [← dc hb, decide_not]
  unfold execOp
  simp only [ho, hx, hy]
  simp [cArr, eqGuard, h2, hq]
end
end Go.Proofs.YtfloiekaiiapnaaGreatDoor
