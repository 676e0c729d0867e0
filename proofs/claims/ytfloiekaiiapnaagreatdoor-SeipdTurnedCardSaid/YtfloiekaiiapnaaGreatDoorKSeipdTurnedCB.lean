/- What the claim leans on, part 2: plain theorems, and walks of functions of the program and of the document. -/
import Derived.Test.YtfloiekaiiapnaaGreatDoorKSeipdTurnedCA
import Derived.Test.YtfloiekaiiapnaaGreatDoorProg
import Derived.ProofKit
import Derived.OpenShut
import Derived.ChangeSlices
import Derived.Laws.StructEq
namespace Go.Proofs.YtfloiekaiiapnaaGreatDoor
open Go Go.RowKit

/-! ### Slots -/
/-- The slots that are dropped, by a number's bits. -/
def dropM : Nat → Slots → Slots
  | _, [] => []
  | m, x :: l => cond (Nat.beq (m % 2) 1) (dropM (m / 2) l) (x :: dropM (m / 2) l)
theorem dropM_sub : ∀ (l : Slots) (m : Nat), (dropM m l).Sublist l
  | [], m => by rw [dropM]; exact List.Sublist.refl _
  | x :: l, m => by
    rw [dropM]
    cases Nat.beq (m % 2) 1
    · exact (dropM_sub l (m / 2)).cons_cons x
    · exact (dropM_sub l (m / 2)).cons x
/-- The same list, laid out. -/
inductive Nm : Slots → Slots → Prop where
  | nil : Nm [] []
  | cons {x : Nat × Value} {l l' : Slots} (h : Nm l l') : Nm (x :: l) (x :: l')
theorem Nm.eq {l l' : Slots} (h : Nm l l') : l = l' := by
  induction h with
  | nil => rfl
  | cons _ ih => rw [ih]
def lk : Nat → Slots → Option Value
  | _, [] => none
  | k, x :: l => cond (Nat.beq x.1 k) (some x.2) (lk k l)
theorem lk_mem {k : Nat} {v : Value} : ∀ {l : Slots}, lk k l = some v → (k, v) ∈ l
  | [], h => by cases h
  | x :: l, h => by
    rw [lk] at h
    cases hb : Nat.beq x.1 k with
    | true =>
      rw [hb] at h
      obtain rfl := Option.some.inj h
      obtain rfl := Nat.eq_of_beq_eq_true hb
      exact List.mem_cons_self ..
    | false =>
      rw [hb] at h
      exact List.mem_cons_of_mem _ (lk_mem h)
/-- What an operand is. -/
def vo (l : Slots) : Operand → Option Value
  | .tmp k => lk k l
  | .const v => some v
  | .global g => some (.pointer (some ⟨g, 0, none⟩))
  | .func f => some (.func (.func f) #[] #[])
theorem Fr.vo {n : Sz} {l : Slots} {a : Act} {x : Operand} {v : Value} (hF : Fr n l a) (h : vo l x = some v) : a.eval x = v := by
  cases x with
  | tmp k => exact hF.get (k, v) (lk_mem h)
  | const u => exact Option.some.inj h
  | global g => exact Option.some.inj h
  | func f => exact Option.some.inj h
def vos (l : Slots) : List Operand → Option (List Value)
  | [] => some []
  | x :: r => match vo l x, vos l r with
    | some v, some vs => some (v :: vs)
    | _, _ => none
theorem Fr.vos {n : Sz} {l : Slots} {a : Act} (hF : Fr n l a) : ∀ {xs : List Operand} {vs : List Value}, vos l xs = some vs → Evs a xs vs
  | [], vs, h => by obtain rfl := Option.some.inj h; exact Evs.nil
  | x :: r, vs, h => by
    unfold Go.Proofs.YtfloiekaiiapnaaGreatDoor.vos at h
    cases h1 : Go.Proofs.YtfloiekaiiapnaaGreatDoor.vo l x with
    | none => simp [h1] at h
    | some v =>
      cases h2 : Go.Proofs.YtfloiekaiiapnaaGreatDoor.vos l r with
      | none => simp [h1, h2] at h
      | some vs' =>
        simp only [h1, h2] at h
        obtain rfl := Option.some.inj h
        exact Evs.cons (hF.vo h1) (hF.vos h2)
/-- All of a frame stands among these. -/
inductive Al (l : Slots) : Slots → Prop where
  | nil : Al l []
  | cons {k : Nat} {v : Value} {r : Slots} (h : lk k l = some v) (t : Al l r) : Al l ((k, v) :: r)
theorem Al.all {l l' : Slots} (h : Al l l') : ∀ z ∈ l', z ∈ l := by
  induction h with
  | nil => intro z hz; cases hz
  | cons h _ ih =>
    intro z hz
    rcases List.mem_cons.1 hz with rfl | hz
    · exact lk_mem h
    · exact ih z hz

/-! ### Steps -/
section
variable {P : Program} {ops : Array Oper} {Q : Exit → Act → World → Prop} {o : Oper} {rest : List Oper} {w w0 : World} {n : Sz} {d : Nat} {l l' : Slots} {R : List Nat} {Hs : List Hl} {E : Hl} {Rd S : World → Prop} {post : Value → Hl → Prop} {v : Value} {f : FuncId} {fn : Func} {vs : List Value} {xs : List Operand} {ts : Array TypeId}
/-- It has one value, in whatever world. -/
def Vl (P : Program) (n : Sz) (l : Slots) (o : Oper) (v : Value) : Prop := ∀ a w, Fr n l a → (execOp a.eval o).run P w = .ok (.value v) w
def Vs (P : Program) (n : Sz) (l : Slots) (S : World → Prop) (o : Oper) (v : Value) : Prop := ∀ a w, Fr n l a → S w → (execOp a.eval o).run P w = .ok (.value v) w
def Sm (P : Program) (n : Sz) (l : Slots) (o : Oper) (E : Hl) (Rd : World → Prop) (post : Value → Hl → Prop) : Prop := ∀ a, Fr n l a → Small P a o E Rd post
theorem unguarded {a : Act} (hg : o.guard = none) : Region.wanted o (yielded ops a.tmps) = true := by unfold Region.wanted; rw [hg]
theorem kept_of {m : Nat} (hn : Nm (dropM m l) l') (hk : (keysB d l' && Nat.blt d n.n) = true) : Kept d l' l ∧ d < n.n := by
  obtain ⟨h1, h2⟩ := Bool.and_eq_true_iff.1 hk
  exact ⟨⟨hn.eq ▸ dropM_sub l m, h1⟩, ltb h2⟩
theorem zv (hv : Vl P n l o v) (m : Nat) (h : PX P ops Q rest n ((d, v) :: l') w) (hd : o.dst = some d := by exact rfl) (hg : o.guard = none := by exact rfl) (hn : Nm (dropM m l) l' := by (repeat (first | exact Nm.nil | apply Nm.cons))) (hk : (keysB d l' && Nat.blt d n.n) = true := by exact rfl) : PX P ops Q (o :: rest) n l w :=
  pxV hv hd (fun _ _ => unguarded hg) (kept_of hn hk).1 (kept_of hn hk).2 h
theorem zs (hS : S w) (hv : Vs P n l S o v) (m : Nat) (h : PX P ops Q rest n ((d, v) :: l') w) (hd : o.dst = some d := by exact rfl) (hg : o.guard = none := by exact rfl) (hn : Nm (dropM m l) l' := by (repeat (first | exact Nm.nil | apply Nm.cons))) (hk : (keysB d l' && Nat.blt d n.n) = true := by exact rfl) : PX P ops Q (o :: rest) n l w :=
  pxS S hS hv hd (fun _ _ => unguarded hg) (kept_of hn hk).1 (kept_of hn hk).2 h
theorem ze (c : Nat) (hH : HH w0 R Hs w) (hi : Hs[c]? = some E) (hs : Sm P n l o E Rd post) (hRd : Rd w) (m : Nat) (h : ∀ v E' w', post v E' → HH w0 R (Hs.set c E') w' → PX P ops Q rest n ((d, v) :: l') w') (hd : o.dst = some d := by exact rfl) (hg : o.guard = none := by exact rfl) (hn : Nm (dropM m l) l' := by (repeat (first | exact Nm.nil | apply Nm.cons))) (hk : (keysB d l' && Nat.blt d n.n) = true := by exact rfl) : PX P ops Q (o :: rest) n l w :=
  pxE c hH hi hs hRd hd (fun _ _ => unguarded hg) (kept_of hn hk).1 (kept_of hn hk).2 h
theorem ze0 (c : Nat) (hH : HH w0 R Hs w) (hi : Hs[c]? = some E) (hs : Sm P n l o E Rd post) (hRd : Rd w) (h : ∀ v E' w', post v E' → HH w0 R (Hs.set c E') w' → PX P ops Q rest n l w') (hd : o.dst = none := by exact rfl) (hg : o.guard = none := by exact rfl) : PX P ops Q (o :: rest) n l w :=
  pxE0 c hH hi hs hRd hd (fun _ _ => unguarded hg) h
theorem zm (hH : HH w0 R Hs w) (hs : Sm P n l o [] Rd post) (hRd : Rd w) (m : Nat) (h : ∀ v E' w', post v E' → HH w0 R (Hs ++ [E']) w' → PX P ops Q rest n ((d, v) :: l') w') (hd : o.dst = some d := by exact rfl) (hg : o.guard = none := by exact rfl) (hn : Nm (dropM m l) l' := by (repeat (first | exact Nm.nil | apply Nm.cons))) (hk : (keysB d l' && Nat.blt d n.n) = true := by exact rfl) : PX P ops Q (o :: rest) n l w :=
  pxM hH hs hRd hd (fun _ _ => unguarded hg) (kept_of hn hk).1 (kept_of hn hk).2 h
/-- A call, as an operation. -/
theorem Sm.call (F : P.funcs[f]? = some fn) (hd : Does P f vs.toArray E Rd post) (ho : o.op = .call { callee := .value (.func f), args := xs.toArray, argTypes := ts } := by exact rfl) (hx : vos l xs = some vs := by exact rfl) (h1 : (fn.name == "runtime.NumGoroutine") = false := by exact rfl) (h2 : fn.body.isNone = false := by exact rfl) : Sm P n l o E Rd post := fun _ hF =>
  Does.small hd (fun w => opCall ho F h1 h2 (hF.vos hx) w)
/-- A call that turns nothing. -/
theorem zc (F : P.funcs[f]? = some fn) (hp : Pure P f vs.toArray Rd v) (hR : Rd w) (hH : HH w0 R Hs w) (m : Nat) (h : ∀ w', HH w0 R Hs w' → PX P ops Q rest n ((d, v) :: l') w') (ho : o.op = .call { callee := .value (.func f), args := xs.toArray, argTypes := ts } := by exact rfl) (hx : vos l xs = some vs := by exact rfl) (h1 : (fn.name == "runtime.NumGoroutine") = false := by exact rfl) (h2 : fn.body.isNone = false := by exact rfl) (hd : o.dst = some d := by exact rfl) (hg : o.guard = none := by exact rfl) (hn : Nm (dropM m l) l' := by (repeat (first | exact Nm.nil | apply Nm.cons))) (hk : (keysB d l' && Nat.blt d n.n) = true := by exact rfl) : PX P ops Q (o :: rest) n l w :=
  zm hH (Sm.call F hp.does ho hx h1 h2) hR m (fun _ _ w' hp hH => by
    obtain ⟨rfl, rfl⟩ := hp
    exact h w' hH.unpad) hd hg hn hk
end
/-! ### Steps of regions that draw -/
section
variable {P : Program} {ops : Array Oper} {Q : Exit → Act → World → Prop} {w w0 : World} {n : Sz} {d fu : Nat} {l l' : Slots} {R : List Nat} {Hs : List Hl} {E : Hl} {Rd S : World → Prop} {post : Value → Hl → Prop} {v : Value} {L : Array Bool} {Ss Ss' : Pend} {f : FuncId} {fn : Func} {vs : List Value} {xs : List Operand} {ts : Array TypeId}
def opAt (ops : Array Oper) (i : Nat) : Oper := ops[i]?.getD default
theorem opAt_some {i : Nat} (h : Nat.blt i ops.size = true) : ops[i]? = some (opAt ops i) := by
  have := ltb h
  simp [opAt, Array.getElem?_eq_getElem this]
theorem rv (i : Nat) (hv : Vl P n l (opAt ops i) v) (m : Nat) (h : RX P ops Q fu Ss (L.setIfInBounds i true) n ((d, v) :: l') w) (hr : rdy ops L i = true := by kernel_rfl) (hz : Nat.blt i ops.size = true := by kernel_rfl) (hd : (opAt ops i).dst = some d := by exact rfl) (hg : (opAt ops i).guard = none := by exact rfl) (hn : Nm (dropM m l) l' := by (repeat (first | exact Nm.nil | apply Nm.cons))) (hk : (keysB d l' && Nat.blt d n.n) = true := by exact rfl) : RX P ops Q (fu + 1) Ss L n l w :=
  rxV i (opAt_some hz) hr hd (fun _ _ => unguarded hg) hv (kept_of hn hk).1 (kept_of hn hk).2 h
theorem rld (i : Nat) (hS : S w) (hv : Vs P n l S (opAt ops i) v) (m : Nat) (h : RX P ops Q fu ((i, S) :: Ss) (L.setIfInBounds i true) n ((d, v) :: l') w) (hr : rdy ops L i = true := by kernel_rfl) (hz : Nat.blt i ops.size = true := by kernel_rfl) (hd : (opAt ops i).dst = some d := by exact rfl) (hg : (opAt ops i).guard = none := by exact rfl) (hn : Nm (dropM m l) l' := by (repeat (first | exact Nm.nil | apply Nm.cons))) (hk : (keysB d l' && Nat.blt d n.n) = true := by exact rfl) : RX P ops Q (fu + 1) Ss L n l w :=
  rxS S i (opAt_some hz) hr hd (fun _ _ => unguarded hg) hS hv (kept_of hn hk).1 (kept_of hn hk).2 h
theorem re (i c : Nat) (hH : HH w0 R Hs w) (hi : Hs[c]? = some E) (hs : Sm P n l (opAt ops i) E Rd post) (hRd : Rd w) (m : Nat) (hp : PendOk ops i Ss Ss') (h : ∀ v E' w', post v E' → HH w0 R (Hs.set c E') w' → (∀ s ∈ Ss', s.2 w') ∧ RX P ops Q fu Ss' (L.setIfInBounds i true) n ((d, v) :: l') w') (hz : Nat.blt i ops.size = true := by kernel_rfl) (hd : (opAt ops i).dst = some d := by exact rfl) (hg : (opAt ops i).guard = none := by exact rfl) (hn : Nm (dropM m l) l' := by (repeat (first | exact Nm.nil | apply Nm.cons))) (hk : (keysB d l' && Nat.blt d n.n) = true := by exact rfl) : MO P ops Q fu Ss L n l w i :=
  moE c (opAt_some hz) hH hi hs hRd hd (fun _ _ => unguarded hg) (kept_of hn hk).1 (kept_of hn hk).2 hp h
theorem re0 (i c : Nat) (hH : HH w0 R Hs w) (hi : Hs[c]? = some E) (hs : Sm P n l (opAt ops i) E Rd post) (hRd : Rd w) (hp : PendOk ops i Ss Ss') (h : ∀ v E' w', post v E' → HH w0 R (Hs.set c E') w' → (∀ s ∈ Ss', s.2 w') ∧ RX P ops Q fu Ss' (L.setIfInBounds i true) n l w') (hz : Nat.blt i ops.size = true := by kernel_rfl) (hd : (opAt ops i).dst = none := by exact rfl) (hg : (opAt ops i).guard = none := by exact rfl) : MO P ops Q fu Ss L n l w i :=
  moE0 c (opAt_some hz) hH hi hs hRd hd (fun _ _ => unguarded hg) hp h
theorem rm (i : Nat) (hH : HH w0 R Hs w) (hs : Sm P n l (opAt ops i) [] Rd post) (hRd : Rd w) (m : Nat) (hp : PendOk ops i Ss Ss') (h : ∀ v E' w', post v E' → HH w0 R (Hs ++ [E']) w' → (∀ s ∈ Ss', s.2 w') ∧ RX P ops Q fu Ss' (L.setIfInBounds i true) n ((d, v) :: l') w') (hz : Nat.blt i ops.size = true := by kernel_rfl) (hd : (opAt ops i).dst = some d := by exact rfl) (hg : (opAt ops i).guard = none := by exact rfl) (hn : Nm (dropM m l) l' := by (repeat (first | exact Nm.nil | apply Nm.cons))) (hk : (keysB d l' && Nat.blt d n.n) = true := by exact rfl) : MO P ops Q fu Ss L n l w i :=
  moM (opAt_some hz) hH hs hRd hd (fun _ _ => unguarded hg) (kept_of hn hk).1 (kept_of hn hk).2 hp h
/-- A call that turns nothing, and is all that may come up. -/
theorem rpc (i : Nat) (F : P.funcs[f]? = some fn) (hq : Pure P f vs.toArray Rd v) (hR : Rd w) (hH : HH w0 R Hs w) (m : Nat) (hp : PendOk ops i Ss Ss') (h : ∀ w', HH w0 R Hs w' → (∀ s ∈ Ss', s.2 w') ∧ RX P ops Q fu Ss' (L.setIfInBounds i true) n ((d, v) :: l') w') (hz : Nat.blt i ops.size = true := by kernel_rfl) (ho : (opAt ops i).op = .call { callee := .value (.func f), args := xs.toArray, argTypes := ts } := by exact rfl) (hx : vos l xs = some vs := by exact rfl) (h1 : (fn.name == "runtime.NumGoroutine") = false := by exact rfl) (h2 : fn.body.isNone = false := by exact rfl) (hd : (opAt ops i).dst = some d := by exact rfl) (hg : (opAt ops i).guard = none := by exact rfl) (hn : Nm (dropM m l) l' := by (repeat (first | exact Nm.nil | apply Nm.cons))) (hk : (keysB d l' && Nat.blt d n.n) = true := by exact rfl) : MO P ops Q fu Ss L n l w i :=
  rm i hH (Sm.call F hq.does ho hx h1 h2) hR m hp (fun _ _ w' hp hH => by
    obtain ⟨rfl, rfl⟩ := hp
    exact h w' hH.unpad) hz hd hg hn hk
theorem pgo {i p : Nat} (r : List Nat) (h : PendOk ops i Ss Ss') (hp : pathW .any ops (i :: (r ++ [p])) = true := by kernel_rfl) : PendOk ops i ((p, S) :: Ss) Ss' := PendOk.go r hp h
theorem pnil : ∀ s ∈ ([] : Pend), s.2 w := fun _ h => by cases h
theorem pcons {i : Nat} (h : S w) (t : ∀ s ∈ Ss, s.2 w) : ∀ s ∈ (i, S) :: Ss, s.2 w := fun s hs => by
  rcases List.mem_cons.1 hs with rfl | hs
  · exact h
  · exact t s hs
theorem rx1k (i : Nat) (h : MO P ops Q fu Ss L n l w i) (hr : Region.ready .any ops L = [i] := by kernel_rfl) : RX P ops Q (fu + 1) Ss L n l w := rx1 i hr h
end
/-! ### Values -/
section
variable {P : Program} {o : Oper} {n : Sz} {l : Slots} {v : Value} {x y xl xh : Operand} {ty t t2 : TypeId} {ts : Array TypeId} {A : Option Addr} {nn c : Nat} {k : IntKind} {m j : Int} {b g off : Nat} {α : Type} {C : Cod α}
def mvOf : Op → Option Operand
  | .move x => some x
  | .assign x => some x
  | _ => none
theorem Vl.mv (ho : mvOf o.op = some x := by exact rfl) (hx : vo l x = some v := by exact rfl) : Vl P n l o v := fun a w hF => by
  cases hq : o.op <;> rw [hq] at ho <;> first | (cases ho; done) | skip
  · obtain rfl := Option.some.inj ho
    exact opMove hq (hF.vo hx)
  · obtain rfl := Option.some.inj ho
    exact opAssign hq (hF.vo hx)
def isSl (P : Program) (ty : TypeId) : Bool := match P.underlying ty with
  | some (.slice _) => true
  | _ => false
theorem isSl.spec (h : isSl P ty = true) : ∃ e, P.underlying ty = some (.slice e) := by
  unfold isSl at h
  split at h
  · exact ⟨_, ‹_›⟩
  · cases h
theorem Vl.len (ho : o.op = .call { callee := .builtin .len, args := #[x], argTypes := #[ty] } := by exact rfl) (hx : vo l x = some (.slice A nn c) := by exact rfl) (hu : isSl P ty = true := by kernel_rfl) : Vl P n l o (.int .i64 (nn : Int)) := fun _ _ hF => by
  obtain ⟨e, he⟩ := isSl.spec hu
  exact opLen ho he (hF.vo hx)
section
variable (p : Prop) [Decidable p]
theorem Vl.lt (ho : o.op = .binOp .lss t x y t2 := by exact rfl) (hx : vo l x = some (.int k m) := by exact rfl) (hy : vo l y = some (.int k j) := by exact rfl) (hp : m < j ↔ p := by omega) : Vl P n l o (.bool (decide p)) := fun _ _ hF => opLss ho (hF.vo hx) (hF.vo hy) (dc hp)
theorem Vl.le (ho : o.op = .binOp .leq t x y t2 := by exact rfl) (hx : vo l x = some (.int k m) := by exact rfl) (hy : vo l y = some (.int k j) := by exact rfl) (hp : m ≤ j ↔ p := by omega) : Vl P n l o (.bool (decide p)) := fun _ _ hF => opLeq ho (hF.vo hx) (hF.vo hy) (dc hp)
theorem Vl.gt (ho : o.op = .binOp .gtr t x y t2 := by exact rfl) (hx : vo l x = some (.int k m) := by exact rfl) (hy : vo l y = some (.int k j) := by exact rfl) (hp : m > j ↔ p := by omega) : Vl P n l o (.bool (decide p)) := fun _ _ hF => opGtr ho (hF.vo hx) (hF.vo hy) (dc hp)
theorem Vl.ge (ho : o.op = .binOp .geq t x y t2 := by exact rfl) (hx : vo l x = some (.int k m) := by exact rfl) (hy : vo l y = some (.int k j) := by exact rfl) (hp : m ≥ j ↔ p := by omega) : Vl P n l o (.bool (decide p)) := fun _ _ hF => opGeq ho (hF.vo hx) (hF.vo hy) (dc hp)
theorem Vl.eq (ho : o.op = .binOp .eql t x y t2 := by exact rfl) (hx : vo l x = some (.int k m) := by exact rfl) (hy : vo l y = some (.int k j) := by exact rfl) (hp : m = j ↔ p := by omega) : Vl P n l o (.bool (decide p)) := fun _ _ hF => opEqI ho (hF.vo hx) (hF.vo hy) (dc hp)
theorem Vl.ne (ho : o.op = .binOp .neq t x y t2 := by exact rfl) (hx : vo l x = some (.int k m) := by exact rfl) (hy : vo l y = some (.int k j) := by exact rfl) (hp : m ≠ j ↔ p := by omega) : Vl P n l o (.bool (decide p)) := fun _ _ hF => opNeI ho (hF.vo hx) (hF.vo hy) (dc hp)
end
/-- A sum, a difference, a product of ints. -/
theorem Vl.add (z : Int) (ho : o.op = .binOp .add t x y t2 := by exact rfl) (hx : vo l x = some (.int k m) := by exact rfl) (hy : vo l y = some (.int k j) := by exact rfl) (hz : k.wrap (m + j) = z := by exact wI (by omega) (by omega) (by omega)) : Vl P n l o (.int k z) := fun _ _ hF => opAdd ho (hF.vo hx) (hF.vo hy) hz
theorem Vl.sub (z : Int) (ho : o.op = .binOp .sub t x y t2 := by exact rfl) (hx : vo l x = some (.int k m) := by exact rfl) (hy : vo l y = some (.int k j) := by exact rfl) (hz : k.wrap (m - j) = z := by exact wI (by omega) (by omega) (by omega)) : Vl P n l o (.int k z) := fun _ _ hF => opSub ho (hF.vo hx) (hF.vo hy) hz
theorem Vl.mul (z : Int) (ho : o.op = .binOp .mul t x y t2 := by exact rfl) (hx : vo l x = some (.int k m) := by exact rfl) (hy : vo l y = some (.int k j) := by exact rfl) (hz : k.wrap (m * j) = z := by exact wI (by omega) (by omega) (by omega)) : Vl P n l o (.int k z) := fun _ _ hF => opMul ho (hF.vo hx) (hF.vo hy) hz
theorem Vl.nc (ho : o.op = .nilCheck x := by exact rfl) (hx : vo l x = some (.pointer (some ⟨b, off, none⟩)) := by exact rfl) : Vl P n l o (.pointer (some ⟨b, off, none⟩)) := fun _ _ hF => opNilCheck ho (hF.vo hx)
theorem Vl.fld (off' : Nat) {s ff : Nat} (ho : o.op = .fieldAddr s x ff := by exact rfl) (hx : vo l x = some (.pointer (some ⟨b, off, none⟩)) := by exact rfl) (hf : fieldOff P s ff = some off' := by kernel_rfl) : Vl P n l o (.pointer (some ⟨b, off + off', none⟩)) := fun _ _ hF => opField ho (hF.vo hx) hf
theorem Vl.ext {i : Nat} {us : Array Value} (ho : o.op = .extract x i := by exact rfl) (hx : vo l x = some (.tuple us) := by exact rfl) (hi : us[i]? = some v := by exact rfl) : Vl P n l o v := fun _ _ hF => opExtract ho (hF.vo hx) hi
def elemSz (P : Program) (ty : TypeId) (sz : Nat) : Bool := match P.underlying ty with
  | some (.slice e) => (P.info? e).map (·.size) == some sz
  | _ => false
theorem elemSz.spec {sz : Nat} (h : elemSz P ty sz = true) : ∃ e, P.underlying ty = some (.slice e) ∧ (P.info? e).map (·.size) = some sz := by
  unfold elemSz at h
  split at h
  · exact ⟨_, ‹_›, by simpa using h⟩
  · cases h
def arrSz (P : Program) (ty : TypeId) (sz nn : Nat) : Bool := match P.underlying ty with
  | some (.array m e) => Nat.beq m nn && (P.info? e).map (·.size) == some sz
  | _ => false
theorem arrSz.spec {sz : Nat} (h : arrSz P ty sz nn = true) : ∃ e, P.underlying ty = some (.array nn e) ∧ (P.info? e).map (·.size) = some sz := by
  unfold arrSz at h
  split at h
  · obtain ⟨h1, h2⟩ := Bool.and_eq_true_iff.1 h
    obtain rfl := Nat.eq_of_beq_eq_true h1
    exact ⟨_, ‹_›, by simpa using h2⟩
  · cases h
/-- An element's place: of a slice, of an array. -/
theorem Vl.ix (sz i : Nat) (ho : o.op = .indexAddr ty x y := by exact rfl) (hx : vo l x = some (.slice (some ⟨b, off, none⟩) nn c) := by exact rfl) (hy : vo l y = some (.int k j) := by exact rfl) (hi : i < nn := by omega) (hj : j = (i : Int) := by exact rfl) (hu : elemSz P ty sz = true := by kernel_rfl) : Vl P n l o (.pointer (some ⟨b, off + i * sz, none⟩)) := fun _ _ hF => by
  obtain ⟨e, h1, h2⟩ := elemSz.spec hu
  exact opIndex ho h1 h2 (hF.vo hx) (hF.vo hy) hj hi
theorem Vl.ia (sz nn i : Nat) (ho : o.op = .indexAddr ty x y := by exact rfl) (hx : vo l x = some (.pointer (some ⟨b, off, none⟩)) := by exact rfl) (hy : vo l y = some (.int k j) := by exact rfl) (hi : i < nn := by omega) (hj : j = (i : Int) := by exact rfl) (hu : arrSz P ty sz nn = true := by kernel_rfl) : Vl P n l o (.pointer (some ⟨b, off + i * sz, none⟩)) := fun _ _ hF => by
  obtain ⟨e, h1, h2⟩ := arrSz.spec hu
  exact opIndexA ho h1 h2 (hF.vo hx) (hF.vo hy) hj hi
/-- A number as one of another kind: an int; an unsigned one that has room; a byte. -/
def isInt (P : Program) (ty : TypeId) (k : IntKind) : Bool := match P.underlying ty with
  | some (.int k') => k' == k
  | _ => false
theorem isInt.spec (h : isInt P ty k = true) : P.underlying ty = some (.int k) := by
  unfold isInt at h
  split at h
  · rw [‹P.underlying ty = _›]
    congr 2
    simpa using h
  · cases h
def isTy (P : Program) (ty : TypeId) : Bool := (P.underlying ty).isSome
theorem Vl.ci {src : TypeId} (ho : o.op = .convert src ty x := by exact rfl) (hx : vo l x = some (.int k m) := by exact rfl) (hd : isInt P ty .i64 = true := by kernel_rfl) (hs : isTy P src = true := by kernel_rfl) (hl : -9223372036854775808 ≤ m := by omega) (hh : m ≤ 9223372036854775807 := by omega) : Vl P n l o (.int .i64 m) := fun _ _ hF =>
  opConvI ho hs (isInt.spec hd) (hF.vo hx) (wI rfl hl hh)
theorem Vl.cu (k' : IntKind) {src : TypeId} {q : Nat} (ho : o.op = .convert src ty x := by exact rfl) (hx : vo l x = some (.int k (q : Int)) := by exact rfl) (hd : isInt P ty k' = true := by kernel_rfl) (hs : isTy P src = true := by kernel_rfl) (h0 : k'.signed = false := by exact rfl) (hh : q < 2 ^ k'.bits := by (show _ < _; simp only [IntKind.bits]; omega)) : Vl P n l o (.int k' (q : Int)) := fun _ _ hF =>
  opConvU h0 ho hs (isInt.spec hd) (hF.vo hx) (Nat.mod_eq_of_lt hh)
theorem Vl.cb {src : TypeId} {q : Nat} (ho : o.op = .convert src ty x := by exact rfl) (hx : vo l x = some (.int k (q : Int)) := by exact rfl) (hd : isInt P ty .u8 = true := by kernel_rfl) (hs : isTy P src = true := by kernel_rfl) : Vl P n l o (.int .u8 ((UInt8.ofNat q).toNat : Int)) := fun _ _ hF =>
  opConvU rfl ho hs (isInt.spec hd) (hF.vo hx) (UInt8.toNat_ofNat' (n := q)).symm
end
/-! ### What is read, and laid -/
section
variable {P : Program} {o : Oper} {n : Sz} {l : Slots} {v : Value} {x y : Operand} {ty t : TypeId} {b g off : Nat} {α : Type} {C : Cod α} {w w0 : World} {R : List Nat} {Hs : List Hl} {cs cs' : Array Value} {S : World → Prop}
/-- What a block holds. -/
def BlkIs (g : Nat) (ob : Obj) (w : World) : Prop := w.heap[g]? = some ob
theorem HH.q (hH : HH w0 R Hs w) (c : Nat) {ob : Obj} (hi : Hs[c]? = some [(g, ob)]) : BlkIs g ob w := hH.blk c hi
theorem HH.ob {ob : Obj} (hH : HH w0 R Hs w) (h : w0.heap[g]? = some ob) (hR : g ∉ R := by simp) : BlkIs g ob w := hH.oldBlk h hR
theorem Vs.ld (C : Cod α) (y : α) (hm : ∀ w, S w → Holds C w b off y) (ho : o.op = .load ty x := by exact rfl) (hx : vo l x = some (.pointer (some ⟨b, off, none⟩)) := by exact rfl) (hty : tyOk P ty C = true := by kernel_rfl) (hv : v = C.val y := by exact rfl) : Vs P n l S o v := fun _ _ hF hS => opLoadT ho (hF.vo hx) hty (hm _ hS) hv.symm
theorem Vs.lc (ho : o.op = .load ty x := by exact rfl) (hx : vo l x = some (.pointer (some ⟨g, off, none⟩)) := by exact rfl) (hc : cs[off]? = some v := by exact rfl) (hty : ((P.underlying ty).map (·.isRow) == some false) = true := by kernel_rfl) : Vs P n l (BlkIs g (.cells cs t (0, 0))) o v := fun _ _ hF hS => opLoadK hS ho (hF.vo hx) (by simpa using hty) hc
theorem Sm.st (C : Cod α) (z : α) (hn : off + C.sz ≤ cs.size) (hcs : putL cs off (C.enc z).toList = cs') (ho : o.op = .store ty x y := by exact rfl) (hx : vo l x = some (.pointer (some ⟨g, off, none⟩)) := by exact rfl) (hy : vo l y = some v := by exact rfl) (hv : v = C.val z := by exact rfl) (hty : tyOk P ty C = true := by kernel_rfl) : Sm P n l o [bl g t cs] (fun _ => True) (fun _ E' => E' = [bl g t cs']) := fun _ hF => smStoreT ho (hF.vo hx) (hF.vo hy) hv.symm hty hn hcs
/-- A block's datum laid whole. -/
theorem Sm.sw (C : Cod α) (u z : α) (ho : o.op = .store ty x y := by exact rfl) (hx : vo l x = some (.pointer (some ⟨g, 0, none⟩)) := by exact rfl) (hy : vo l y = some v := by exact rfl) (hv : v = C.val z := by exact rfl) (hty : tyOk P ty C = true := by kernel_rfl) : Sm P n l o [bl g t (C.enc u)] (fun _ => True) (fun _ E' => E' = [bl g t (C.enc z)]) := fun _ hF => smStoreT ho (hF.vo hx) (hF.vo hy) hv.symm hty (by rw [Cod.size]; omega) (put_whole C u z)
theorem Sm.sc (ho : o.op = .store ty x y := by exact rfl) (hx : vo l x = some (.pointer (some ⟨g, off, none⟩)) := by exact rfl) (hy : vo l y = some v := by exact rfl) (hs : ((P.info? ty).map (·.size) == some 1) = true := by kernel_rfl) (hn : Nat.blt off cs.size = true := by exact rfl) (h1 : v.oneCell' = true := by exact rfl) (hcs : cs.setIfInBounds off v = cs' := by exact rfl) : Sm P n l o [bl g t cs] (fun _ => True) (fun _ E' => E' = [bl g t cs']) := fun _ hF => smStore ho (hF.vo hx) (hF.vo hy) (by simpa using hs) (ltb hn) h1 hcs
theorem Sm.al (C : Cod α) (z : α) (ho : o.op = .alloc ty := by exact rfl) (hz : (P.info? ty).bind (·.zero) = some (C.val z) := by kernel_rfl) : Sm P n l o [] (fun _ => True) (fun v E' => ∃ g, v = ptrV g ∧ E' = [bl g ty (C.enc z)]) := fun _ _ => smAlloc ho hz rfl
theorem Sm.bx (C : Cod α) (z : α) (ho : o.op = .box ty x := by exact rfl) (hx : vo l x = some v := by exact rfl) (hv : v = C.val z := by exact rfl) : Sm P n l o [] (fun _ => True) (fun v E' => ∃ g, v = ptrV g ∧ E' = [bl g ty (C.enc z)]) := fun _ hF => smBox ho (hF.vo hx) (by rw [hv]; rfl)
end
/-! ### Control -/
section
variable {P : Program} {ops : Array Oper} {Q : Exit → Act → World → Prop} {w : World} {n : Sz} {l : Slots} {x y : Code} {id : Nat} {ls : List Oper}
/-- A region ends, and what stands behind it goes on. -/
theorem zn (h : CX P Q y n l w) : PX P ops (Exit.then (y.wp P Q) Q) [] n l w := pxEnd (qxThen h)
/-- A region, and what stands behind it. -/
theorem zr (h : PX P ls.toArray (Exit.then (y.wp P Q) Q) ls n l w) : CX P Q (.seq (.region id ls.toArray false) y) n l w := cxSeq (cxReg h)
theorem zx (h : RX P ls.toArray (Exit.then (y.wp P Q) Q) ls.length [] (Array.replicate ls.length false) n l w.drew) (hm : P.follows .mixedOrders = true := by exact mixedOrders) (hok : okAll .any ls.toArray = true := by kernel_rfl) : CX P Q (.seq (.region id ls.toArray true) y) n l w := cxSeq (cxRegX hm hok h)
theorem rn {Ss : Pend} {L : Array Bool} {m : Nat} (h : CX P Q y n l w) (hr : Region.ready .any ops L = [] := by kernel_rfl) : RX P ops (Exit.then (y.wp P Q) Q) m Ss L n l w := rxEnd hr (qxThen h)
theorem zP {c : Operand} {p : Prop} [Decidable p] (ht : p → CX P Q x n l w) (hf : ¬ p → CX P Q y n l w) (hi : vo l c = some (.bool (decide p)) := by exact rfl) : CX P Q (.cond c x y) n l w := fun a hF => by
  have hv := hF.vo hi
  by_cases h : p
  · exact wp_cond_true (by rw [hv, decide_eq_true h]) (ht h a hF)
  · exact wp_cond_false (by rw [hv, decide_eq_false h]) (hf h a hF)
theorem zT {c : Operand} (h : CX P Q x n l w) (hi : vo l c = some (.bool true) := by exact rfl) : CX P Q (.cond c x y) n l w := fun a hF => wp_cond_true (hF.vo hi) (h a hF)
theorem zF {c : Operand} (h : CX P Q y n l w) (hi : vo l c = some (.bool false) := by exact rfl) : CX P Q (.cond c x y) n l w := fun a hF => wp_cond_false (hF.vo hi) (h a hF)
def qL1 {α0 : Type} (n : Sz) (fr : α0 → Slots) (I : α0 → World → Prop) (μ : α0 → Nat) (a0 : α0) : Act → World → Prop := qLoop n (fun x : α0 => fr x) (fun x => I x) (fun x => μ x) a0
theorem zL1 {α0 : Type} (fr : α0 → Slots) (I : α0 → World → Prop) (μ : α0 → Nat) (a0 : α0) (h0 : I a0 w) (round : ∀ a0 w, I a0 w → CX P (Exit.then (qL1 n fr I μ a0) Q) y n (fr a0) w) (hfr : Al l (fr a0) := by (repeat (first | exact Al.nil | refine Al.cons rfl ?_))) : CX P Q (.loop y) n l w :=
  cxLoop (σ := α0) (fun x => fr x) (fun x => I x) (fun x => μ x) a0 h0 hfr.all fun x w h => round x w h
theorem zR1 {α0 : Type} {fr : α0 → Slots} {I : α0 → World → Prop} {μ : α0 → Nat} {b0 : α0} (a0 : α0) (hI : I a0 w) (hμ : μ a0 < μ b0) (hfr : Al l (fr a0) := by (repeat (first | exact Al.nil | refine Al.cons rfl ?_))) : QX (Exit.then (qL1 n fr I μ b0) Q) .normal n l w :=
  qxRound (σ := α0) (fr := fun x => fr x) (I := fun x => I x) (μ := fun x => μ x) a0 hI hμ hfr.all
def qL2 {α0 α1 : Type} (n : Sz) (fr : α0 → α1 → Slots) (I : α0 → α1 → World → Prop) (μ : α0 → α1 → Nat) (a0 : α0) (a1 : α1) : Act → World → Prop := qLoop n (fun x : α0 × α1 => fr x.1 x.2) (fun x => I x.1 x.2) (fun x => μ x.1 x.2) (a0, a1)
theorem zL2 {α0 α1 : Type} (fr : α0 → α1 → Slots) (I : α0 → α1 → World → Prop) (μ : α0 → α1 → Nat) (a0 : α0) (a1 : α1) (h0 : I a0 a1 w) (round : ∀ a0 a1 w, I a0 a1 w → CX P (Exit.then (qL2 n fr I μ a0 a1) Q) y n (fr a0 a1) w) (hfr : Al l (fr a0 a1) := by (repeat (first | exact Al.nil | refine Al.cons rfl ?_))) : CX P Q (.loop y) n l w :=
  cxLoop (σ := α0 × α1) (fun x => fr x.1 x.2) (fun x => I x.1 x.2) (fun x => μ x.1 x.2) (a0, a1) h0 hfr.all fun x w h => round x.1 x.2 w h
theorem zR2 {α0 α1 : Type} {fr : α0 → α1 → Slots} {I : α0 → α1 → World → Prop} {μ : α0 → α1 → Nat} {b0 : α0} {b1 : α1} (a0 : α0) (a1 : α1) (hI : I a0 a1 w) (hμ : μ a0 a1 < μ b0 b1) (hfr : Al l (fr a0 a1) := by (repeat (first | exact Al.nil | refine Al.cons rfl ?_))) : QX (Exit.then (qL2 n fr I μ b0 b1) Q) .normal n l w :=
  qxRound (σ := α0 × α1) (fr := fun x => fr x.1 x.2) (I := fun x => I x.1 x.2) (μ := fun x => μ x.1 x.2) (a0, a1) hI hμ hfr.all
def qL3 {α0 α1 α2 : Type} (n : Sz) (fr : α0 → α1 → α2 → Slots) (I : α0 → α1 → α2 → World → Prop) (μ : α0 → α1 → α2 → Nat) (a0 : α0) (a1 : α1) (a2 : α2) : Act → World → Prop := qLoop n (fun x : α0 × α1 × α2 => fr x.1 x.2.1 x.2.2) (fun x => I x.1 x.2.1 x.2.2) (fun x => μ x.1 x.2.1 x.2.2) (a0, a1, a2)
theorem zL3 {α0 α1 α2 : Type} (fr : α0 → α1 → α2 → Slots) (I : α0 → α1 → α2 → World → Prop) (μ : α0 → α1 → α2 → Nat) (a0 : α0) (a1 : α1) (a2 : α2) (h0 : I a0 a1 a2 w) (round : ∀ a0 a1 a2 w, I a0 a1 a2 w → CX P (Exit.then (qL3 n fr I μ a0 a1 a2) Q) y n (fr a0 a1 a2) w) (hfr : Al l (fr a0 a1 a2) := by (repeat (first | exact Al.nil | refine Al.cons rfl ?_))) : CX P Q (.loop y) n l w :=
  cxLoop (σ := α0 × α1 × α2) (fun x => fr x.1 x.2.1 x.2.2) (fun x => I x.1 x.2.1 x.2.2) (fun x => μ x.1 x.2.1 x.2.2) (a0, a1, a2) h0 hfr.all fun x w h => round x.1 x.2.1 x.2.2 w h
theorem zR3 {α0 α1 α2 : Type} {fr : α0 → α1 → α2 → Slots} {I : α0 → α1 → α2 → World → Prop} {μ : α0 → α1 → α2 → Nat} {b0 : α0} {b1 : α1} {b2 : α2} (a0 : α0) (a1 : α1) (a2 : α2) (hI : I a0 a1 a2 w) (hμ : μ a0 a1 a2 < μ b0 b1 b2) (hfr : Al l (fr a0 a1 a2) := by (repeat (first | exact Al.nil | refine Al.cons rfl ?_))) : QX (Exit.then (qL3 n fr I μ b0 b1 b2) Q) .normal n l w :=
  qxRound (σ := α0 × α1 × α2) (fr := fun x => fr x.1 x.2.1 x.2.2) (I := fun x => I x.1 x.2.1 x.2.2) (μ := fun x => μ x.1 x.2.1 x.2.2) (a0, a1, a2) hI hμ hfr.all
def qL4 {α0 α1 α2 α3 : Type} (n : Sz) (fr : α0 → α1 → α2 → α3 → Slots) (I : α0 → α1 → α2 → α3 → World → Prop) (μ : α0 → α1 → α2 → α3 → Nat) (a0 : α0) (a1 : α1) (a2 : α2) (a3 : α3) : Act → World → Prop := qLoop n (fun x : α0 × α1 × α2 × α3 => fr x.1 x.2.1 x.2.2.1 x.2.2.2) (fun x => I x.1 x.2.1 x.2.2.1 x.2.2.2) (fun x => μ x.1 x.2.1 x.2.2.1 x.2.2.2) (a0, a1, a2, a3)
theorem zL4 {α0 α1 α2 α3 : Type} (fr : α0 → α1 → α2 → α3 → Slots) (I : α0 → α1 → α2 → α3 → World → Prop) (μ : α0 → α1 → α2 → α3 → Nat) (a0 : α0) (a1 : α1) (a2 : α2) (a3 : α3) (h0 : I a0 a1 a2 a3 w) (round : ∀ a0 a1 a2 a3 w, I a0 a1 a2 a3 w → CX P (Exit.then (qL4 n fr I μ a0 a1 a2 a3) Q) y n (fr a0 a1 a2 a3) w) (hfr : Al l (fr a0 a1 a2 a3) := by (repeat (first | exact Al.nil | refine Al.cons rfl ?_))) : CX P Q (.loop y) n l w :=
  cxLoop (σ := α0 × α1 × α2 × α3) (fun x => fr x.1 x.2.1 x.2.2.1 x.2.2.2) (fun x => I x.1 x.2.1 x.2.2.1 x.2.2.2) (fun x => μ x.1 x.2.1 x.2.2.1 x.2.2.2) (a0, a1, a2, a3) h0 hfr.all fun x w h => round x.1 x.2.1 x.2.2.1 x.2.2.2 w h
theorem zR4 {α0 α1 α2 α3 : Type} {fr : α0 → α1 → α2 → α3 → Slots} {I : α0 → α1 → α2 → α3 → World → Prop} {μ : α0 → α1 → α2 → α3 → Nat} {b0 : α0} {b1 : α1} {b2 : α2} {b3 : α3} (a0 : α0) (a1 : α1) (a2 : α2) (a3 : α3) (hI : I a0 a1 a2 a3 w) (hμ : μ a0 a1 a2 a3 < μ b0 b1 b2 b3) (hfr : Al l (fr a0 a1 a2 a3) := by (repeat (first | exact Al.nil | refine Al.cons rfl ?_))) : QX (Exit.then (qL4 n fr I μ b0 b1 b2 b3) Q) .normal n l w :=
  qxRound (σ := α0 × α1 × α2 × α3) (fr := fun x => fr x.1 x.2.1 x.2.2.1 x.2.2.2) (I := fun x => I x.1 x.2.1 x.2.2.1 x.2.2.2) (μ := fun x => μ x.1 x.2.1 x.2.2.1 x.2.2.2) (a0, a1, a2, a3) hI hμ hfr.all
def qL5 {α0 α1 α2 α3 α4 : Type} (n : Sz) (fr : α0 → α1 → α2 → α3 → α4 → Slots) (I : α0 → α1 → α2 → α3 → α4 → World → Prop) (μ : α0 → α1 → α2 → α3 → α4 → Nat) (a0 : α0) (a1 : α1) (a2 : α2) (a3 : α3) (a4 : α4) : Act → World → Prop := qLoop n (fun x : α0 × α1 × α2 × α3 × α4 => fr x.1 x.2.1 x.2.2.1 x.2.2.2.1 x.2.2.2.2) (fun x => I x.1 x.2.1 x.2.2.1 x.2.2.2.1 x.2.2.2.2) (fun x => μ x.1 x.2.1 x.2.2.1 x.2.2.2.1 x.2.2.2.2) (a0, a1, a2, a3, a4)
theorem zL5 {α0 α1 α2 α3 α4 : Type} (fr : α0 → α1 → α2 → α3 → α4 → Slots) (I : α0 → α1 → α2 → α3 → α4 → World → Prop) (μ : α0 → α1 → α2 → α3 → α4 → Nat) (a0 : α0) (a1 : α1) (a2 : α2) (a3 : α3) (a4 : α4) (h0 : I a0 a1 a2 a3 a4 w) (round : ∀ a0 a1 a2 a3 a4 w, I a0 a1 a2 a3 a4 w → CX P (Exit.then (qL5 n fr I μ a0 a1 a2 a3 a4) Q) y n (fr a0 a1 a2 a3 a4) w) (hfr : Al l (fr a0 a1 a2 a3 a4) := by (repeat (first | exact Al.nil | refine Al.cons rfl ?_))) : CX P Q (.loop y) n l w :=
  cxLoop (σ := α0 × α1 × α2 × α3 × α4) (fun x => fr x.1 x.2.1 x.2.2.1 x.2.2.2.1 x.2.2.2.2) (fun x => I x.1 x.2.1 x.2.2.1 x.2.2.2.1 x.2.2.2.2) (fun x => μ x.1 x.2.1 x.2.2.1 x.2.2.2.1 x.2.2.2.2) (a0, a1, a2, a3, a4) h0 hfr.all fun x w h => round x.1 x.2.1 x.2.2.1 x.2.2.2.1 x.2.2.2.2 w h
theorem zR5 {α0 α1 α2 α3 α4 : Type} {fr : α0 → α1 → α2 → α3 → α4 → Slots} {I : α0 → α1 → α2 → α3 → α4 → World → Prop} {μ : α0 → α1 → α2 → α3 → α4 → Nat} {b0 : α0} {b1 : α1} {b2 : α2} {b3 : α3} {b4 : α4} (a0 : α0) (a1 : α1) (a2 : α2) (a3 : α3) (a4 : α4) (hI : I a0 a1 a2 a3 a4 w) (hμ : μ a0 a1 a2 a3 a4 < μ b0 b1 b2 b3 b4) (hfr : Al l (fr a0 a1 a2 a3 a4) := by (repeat (first | exact Al.nil | refine Al.cons rfl ?_))) : QX (Exit.then (qL5 n fr I μ b0 b1 b2 b3 b4) Q) .normal n l w :=
  qxRound (σ := α0 × α1 × α2 × α3 × α4) (fr := fun x => fr x.1 x.2.1 x.2.2.1 x.2.2.2.1 x.2.2.2.2) (I := fun x => I x.1 x.2.1 x.2.2.1 x.2.2.2.1 x.2.2.2.2) (μ := fun x => μ x.1 x.2.1 x.2.2.1 x.2.2.2.1 x.2.2.2.2) (a0, a1, a2, a3, a4) hI hμ hfr.all
def qL6 {α0 α1 α2 α3 α4 α5 : Type} (n : Sz) (fr : α0 → α1 → α2 → α3 → α4 → α5 → Slots) (I : α0 → α1 → α2 → α3 → α4 → α5 → World → Prop) (μ : α0 → α1 → α2 → α3 → α4 → α5 → Nat) (a0 : α0) (a1 : α1) (a2 : α2) (a3 : α3) (a4 : α4) (a5 : α5) : Act → World → Prop := qLoop n (fun x : α0 × α1 × α2 × α3 × α4 × α5 => fr x.1 x.2.1 x.2.2.1 x.2.2.2.1 x.2.2.2.2.1 x.2.2.2.2.2) (fun x => I x.1 x.2.1 x.2.2.1 x.2.2.2.1 x.2.2.2.2.1 x.2.2.2.2.2) (fun x => μ x.1 x.2.1 x.2.2.1 x.2.2.2.1 x.2.2.2.2.1 x.2.2.2.2.2) (a0, a1, a2, a3, a4, a5)
theorem zL6 {α0 α1 α2 α3 α4 α5 : Type} (fr : α0 → α1 → α2 → α3 → α4 → α5 → Slots) (I : α0 → α1 → α2 → α3 → α4 → α5 → World → Prop) (μ : α0 → α1 → α2 → α3 → α4 → α5 → Nat) (a0 : α0) (a1 : α1) (a2 : α2) (a3 : α3) (a4 : α4) (a5 : α5) (h0 : I a0 a1 a2 a3 a4 a5 w) (round : ∀ a0 a1 a2 a3 a4 a5 w, I a0 a1 a2 a3 a4 a5 w → CX P (Exit.then (qL6 n fr I μ a0 a1 a2 a3 a4 a5) Q) y n (fr a0 a1 a2 a3 a4 a5) w) (hfr : Al l (fr a0 a1 a2 a3 a4 a5) := by (repeat (first | exact Al.nil | refine Al.cons rfl ?_))) : CX P Q (.loop y) n l w :=
  cxLoop (σ := α0 × α1 × α2 × α3 × α4 × α5) (fun x => fr x.1 x.2.1 x.2.2.1 x.2.2.2.1 x.2.2.2.2.1 x.2.2.2.2.2) (fun x => I x.1 x.2.1 x.2.2.1 x.2.2.2.1 x.2.2.2.2.1 x.2.2.2.2.2) (fun x => μ x.1 x.2.1 x.2.2.1 x.2.2.2.1 x.2.2.2.2.1 x.2.2.2.2.2) (a0, a1, a2, a3, a4, a5) h0 hfr.all fun x w h => round x.1 x.2.1 x.2.2.1 x.2.2.2.1 x.2.2.2.2.1 x.2.2.2.2.2 w h
theorem zR6 {α0 α1 α2 α3 α4 α5 : Type} {fr : α0 → α1 → α2 → α3 → α4 → α5 → Slots} {I : α0 → α1 → α2 → α3 → α4 → α5 → World → Prop} {μ : α0 → α1 → α2 → α3 → α4 → α5 → Nat} {b0 : α0} {b1 : α1} {b2 : α2} {b3 : α3} {b4 : α4} {b5 : α5} (a0 : α0) (a1 : α1) (a2 : α2) (a3 : α3) (a4 : α4) (a5 : α5) (hI : I a0 a1 a2 a3 a4 a5 w) (hμ : μ a0 a1 a2 a3 a4 a5 < μ b0 b1 b2 b3 b4 b5) (hfr : Al l (fr a0 a1 a2 a3 a4 a5) := by (repeat (first | exact Al.nil | refine Al.cons rfl ?_))) : QX (Exit.then (qL6 n fr I μ b0 b1 b2 b3 b4 b5) Q) .normal n l w :=
  qxRound (σ := α0 × α1 × α2 × α3 × α4 × α5) (fr := fun x => fr x.1 x.2.1 x.2.2.1 x.2.2.2.1 x.2.2.2.2.1 x.2.2.2.2.2) (I := fun x => I x.1 x.2.1 x.2.2.1 x.2.2.2.1 x.2.2.2.2.1 x.2.2.2.2.2) (μ := fun x => μ x.1 x.2.1 x.2.2.1 x.2.2.2.1 x.2.2.2.2.1 x.2.2.2.2.2) (a0, a1, a2, a3, a4, a5) hI hμ hfr.all
def qL7 {α0 α1 α2 α3 α4 α5 α6 : Type} (n : Sz) (fr : α0 → α1 → α2 → α3 → α4 → α5 → α6 → Slots) (I : α0 → α1 → α2 → α3 → α4 → α5 → α6 → World → Prop) (μ : α0 → α1 → α2 → α3 → α4 → α5 → α6 → Nat) (a0 : α0) (a1 : α1) (a2 : α2) (a3 : α3) (a4 : α4) (a5 : α5) (a6 : α6) : Act → World → Prop := qLoop n (fun x : α0 × α1 × α2 × α3 × α4 × α5 × α6 => fr x.1 x.2.1 x.2.2.1 x.2.2.2.1 x.2.2.2.2.1 x.2.2.2.2.2.1 x.2.2.2.2.2.2) (fun x => I x.1 x.2.1 x.2.2.1 x.2.2.2.1 x.2.2.2.2.1 x.2.2.2.2.2.1 x.2.2.2.2.2.2) (fun x => μ x.1 x.2.1 x.2.2.1 x.2.2.2.1 x.2.2.2.2.1 x.2.2.2.2.2.1 x.2.2.2.2.2.2) (a0, a1, a2, a3, a4, a5, a6)
theorem zL7 {α0 α1 α2 α3 α4 α5 α6 : Type} (fr : α0 → α1 → α2 → α3 → α4 → α5 → α6 → Slots) (I : α0 → α1 → α2 → α3 → α4 → α5 → α6 → World → Prop) (μ : α0 → α1 → α2 → α3 → α4 → α5 → α6 → Nat) (a0 : α0) (a1 : α1) (a2 : α2) (a3 : α3) (a4 : α4) (a5 : α5) (a6 : α6) (h0 : I a0 a1 a2 a3 a4 a5 a6 w) (round : ∀ a0 a1 a2 a3 a4 a5 a6 w, I a0 a1 a2 a3 a4 a5 a6 w → CX P (Exit.then (qL7 n fr I μ a0 a1 a2 a3 a4 a5 a6) Q) y n (fr a0 a1 a2 a3 a4 a5 a6) w) (hfr : Al l (fr a0 a1 a2 a3 a4 a5 a6) := by (repeat (first | exact Al.nil | refine Al.cons rfl ?_))) : CX P Q (.loop y) n l w :=
  cxLoop (σ := α0 × α1 × α2 × α3 × α4 × α5 × α6) (fun x => fr x.1 x.2.1 x.2.2.1 x.2.2.2.1 x.2.2.2.2.1 x.2.2.2.2.2.1 x.2.2.2.2.2.2) (fun x => I x.1 x.2.1 x.2.2.1 x.2.2.2.1 x.2.2.2.2.1 x.2.2.2.2.2.1 x.2.2.2.2.2.2) (fun x => μ x.1 x.2.1 x.2.2.1 x.2.2.2.1 x.2.2.2.2.1 x.2.2.2.2.2.1 x.2.2.2.2.2.2) (a0, a1, a2, a3, a4, a5, a6) h0 hfr.all fun x w h => round x.1 x.2.1 x.2.2.1 x.2.2.2.1 x.2.2.2.2.1 x.2.2.2.2.2.1 x.2.2.2.2.2.2 w h
theorem zR7 {α0 α1 α2 α3 α4 α5 α6 : Type} {fr : α0 → α1 → α2 → α3 → α4 → α5 → α6 → Slots} {I : α0 → α1 → α2 → α3 → α4 → α5 → α6 → World → Prop} {μ : α0 → α1 → α2 → α3 → α4 → α5 → α6 → Nat} {b0 : α0} {b1 : α1} {b2 : α2} {b3 : α3} {b4 : α4} {b5 : α5} {b6 : α6} (a0 : α0) (a1 : α1) (a2 : α2) (a3 : α3) (a4 : α4) (a5 : α5) (a6 : α6) (hI : I a0 a1 a2 a3 a4 a5 a6 w) (hμ : μ a0 a1 a2 a3 a4 a5 a6 < μ b0 b1 b2 b3 b4 b5 b6) (hfr : Al l (fr a0 a1 a2 a3 a4 a5 a6) := by (repeat (first | exact Al.nil | refine Al.cons rfl ?_))) : QX (Exit.then (qL7 n fr I μ b0 b1 b2 b3 b4 b5 b6) Q) .normal n l w :=
  qxRound (σ := α0 × α1 × α2 × α3 × α4 × α5 × α6) (fr := fun x => fr x.1 x.2.1 x.2.2.1 x.2.2.2.1 x.2.2.2.2.1 x.2.2.2.2.2.1 x.2.2.2.2.2.2) (I := fun x => I x.1 x.2.1 x.2.2.1 x.2.2.2.1 x.2.2.2.2.1 x.2.2.2.2.2.1 x.2.2.2.2.2.2) (μ := fun x => μ x.1 x.2.1 x.2.2.1 x.2.2.2.1 x.2.2.2.2.1 x.2.2.2.2.2.1 x.2.2.2.2.2.2) (a0, a1, a2, a3, a4, a5, a6) hI hμ hfr.all
def qL9 {α0 α1 α2 α3 α4 α5 α6 α7 α8 : Type} (n : Sz) (fr : α0 → α1 → α2 → α3 → α4 → α5 → α6 → α7 → α8 → Slots) (I : α0 → α1 → α2 → α3 → α4 → α5 → α6 → α7 → α8 → World → Prop) (μ : α0 → α1 → α2 → α3 → α4 → α5 → α6 → α7 → α8 → Nat) (a0 : α0) (a1 : α1) (a2 : α2) (a3 : α3) (a4 : α4) (a5 : α5) (a6 : α6) (a7 : α7) (a8 : α8) : Act → World → Prop := qLoop n (fun x : α0 × α1 × α2 × α3 × α4 × α5 × α6 × α7 × α8 => fr x.1 x.2.1 x.2.2.1 x.2.2.2.1 x.2.2.2.2.1 x.2.2.2.2.2.1 x.2.2.2.2.2.2.1 x.2.2.2.2.2.2.2.1 x.2.2.2.2.2.2.2.2) (fun x => I x.1 x.2.1 x.2.2.1 x.2.2.2.1 x.2.2.2.2.1 x.2.2.2.2.2.1 x.2.2.2.2.2.2.1 x.2.2.2.2.2.2.2.1 x.2.2.2.2.2.2.2.2) (fun x => μ x.1 x.2.1 x.2.2.1 x.2.2.2.1 x.2.2.2.2.1 x.2.2.2.2.2.1 x.2.2.2.2.2.2.1 x.2.2.2.2.2.2.2.1 x.2.2.2.2.2.2.2.2) (a0, a1, a2, a3, a4, a5, a6, a7, a8)
theorem zL9 {α0 α1 α2 α3 α4 α5 α6 α7 α8 : Type} (fr : α0 → α1 → α2 → α3 → α4 → α5 → α6 → α7 → α8 → Slots) (I : α0 → α1 → α2 → α3 → α4 → α5 → α6 → α7 → α8 → World → Prop) (μ : α0 → α1 → α2 → α3 → α4 → α5 → α6 → α7 → α8 → Nat) (a0 : α0) (a1 : α1) (a2 : α2) (a3 : α3) (a4 : α4) (a5 : α5) (a6 : α6) (a7 : α7) (a8 : α8) (h0 : I a0 a1 a2 a3 a4 a5 a6 a7 a8 w) (round : ∀ a0 a1 a2 a3 a4 a5 a6 a7 a8 w, I a0 a1 a2 a3 a4 a5 a6 a7 a8 w → CX P (Exit.then (qL9 n fr I μ a0 a1 a2 a3 a4 a5 a6 a7 a8) Q) y n (fr a0 a1 a2 a3 a4 a5 a6 a7 a8) w) (hfr : Al l (fr a0 a1 a2 a3 a4 a5 a6 a7 a8) := by (repeat (first | exact Al.nil | refine Al.cons rfl ?_))) : CX P Q (.loop y) n l w :=
  cxLoop (σ := α0 × α1 × α2 × α3 × α4 × α5 × α6 × α7 × α8) (fun x => fr x.1 x.2.1 x.2.2.1 x.2.2.2.1 x.2.2.2.2.1 x.2.2.2.2.2.1 x.2.2.2.2.2.2.1 x.2.2.2.2.2.2.2.1 x.2.2.2.2.2.2.2.2) (fun x => I x.1 x.2.1 x.2.2.1 x.2.2.2.1 x.2.2.2.2.1 x.2.2.2.2.2.1 x.2.2.2.2.2.2.1 x.2.2.2.2.2.2.2.1 x.2.2.2.2.2.2.2.2) (fun x => μ x.1 x.2.1 x.2.2.1 x.2.2.2.1 x.2.2.2.2.1 x.2.2.2.2.2.1 x.2.2.2.2.2.2.1 x.2.2.2.2.2.2.2.1 x.2.2.2.2.2.2.2.2) (a0, a1, a2, a3, a4, a5, a6, a7, a8) h0 hfr.all fun x w h => round x.1 x.2.1 x.2.2.1 x.2.2.2.1 x.2.2.2.2.1 x.2.2.2.2.2.1 x.2.2.2.2.2.2.1 x.2.2.2.2.2.2.2.1 x.2.2.2.2.2.2.2.2 w h
theorem zR9 {α0 α1 α2 α3 α4 α5 α6 α7 α8 : Type} {fr : α0 → α1 → α2 → α3 → α4 → α5 → α6 → α7 → α8 → Slots} {I : α0 → α1 → α2 → α3 → α4 → α5 → α6 → α7 → α8 → World → Prop} {μ : α0 → α1 → α2 → α3 → α4 → α5 → α6 → α7 → α8 → Nat} {b0 : α0} {b1 : α1} {b2 : α2} {b3 : α3} {b4 : α4} {b5 : α5} {b6 : α6} {b7 : α7} {b8 : α8} (a0 : α0) (a1 : α1) (a2 : α2) (a3 : α3) (a4 : α4) (a5 : α5) (a6 : α6) (a7 : α7) (a8 : α8) (hI : I a0 a1 a2 a3 a4 a5 a6 a7 a8 w) (hμ : μ a0 a1 a2 a3 a4 a5 a6 a7 a8 < μ b0 b1 b2 b3 b4 b5 b6 b7 b8) (hfr : Al l (fr a0 a1 a2 a3 a4 a5 a6 a7 a8) := by (repeat (first | exact Al.nil | refine Al.cons rfl ?_))) : QX (Exit.then (qL9 n fr I μ b0 b1 b2 b3 b4 b5 b6 b7 b8) Q) .normal n l w :=
  qxRound (σ := α0 × α1 × α2 × α3 × α4 × α5 × α6 × α7 × α8) (fr := fun x => fr x.1 x.2.1 x.2.2.1 x.2.2.2.1 x.2.2.2.2.1 x.2.2.2.2.2.1 x.2.2.2.2.2.2.1 x.2.2.2.2.2.2.2.1 x.2.2.2.2.2.2.2.2) (I := fun x => I x.1 x.2.1 x.2.2.1 x.2.2.2.1 x.2.2.2.2.1 x.2.2.2.2.2.1 x.2.2.2.2.2.2.1 x.2.2.2.2.2.2.2.1 x.2.2.2.2.2.2.2.2) (μ := fun x => μ x.1 x.2.1 x.2.2.1 x.2.2.2.1 x.2.2.2.2.1 x.2.2.2.2.2.1 x.2.2.2.2.2.2.1 x.2.2.2.2.2.2.2.1 x.2.2.2.2.2.2.2.2) (a0, a1, a2, a3, a4, a5, a6, a7, a8) hI hμ hfr.all
end
end Go.Proofs.YtfloiekaiiapnaaGreatDoor

namespace Go.Proofs.YtfloiekaiiapnaaGreatDoor

def sr32 (x : UInt32) (n : Nat) : UInt32 := UInt32.ofNat (x.toNat / 2 ^ n)
def sl32 (x : UInt32) (n : Nat) : UInt32 := UInt32.ofNat (x.toNat * 2 ^ n)
def or32 (x y : UInt32) : UInt32 := x ||| y
def and32 (x y : UInt32) : UInt32 := x &&& y
def xo32 (x y : UInt32) : UInt32 := x ^^^ y
def not32 (x : UInt32) : UInt32 := ~~~x
def pl32 (x y : UInt32) : UInt32 := x + y
def rr32 (x : UInt32) (n : Nat) : UInt32 := or32 (sr32 x n) (sl32 x (32 - n))
def big0_32 (x : UInt32) : UInt32 := xo32 (xo32 (rr32 x 2) (rr32 x 13)) (rr32 x 22)
def big1_32 (x : UInt32) : UInt32 := xo32 (xo32 (rr32 x 6) (rr32 x 11)) (rr32 x 25)
def sml0_32 (x : UInt32) : UInt32 := xo32 (xo32 (rr32 x 7) (rr32 x 18)) (sr32 x 3)
def sml1_32 (x : UInt32) : UInt32 := xo32 (xo32 (rr32 x 17) (rr32 x 19)) (sr32 x 10)
def ch32 (e f g : UInt32) : UInt32 := xo32 (and32 e f) (and32 (not32 e) g)
def maj32 (a b c : UInt32) : UInt32 := xo32 (xo32 (and32 a b) (and32 a c)) (and32 b c)
theorem sr32_toNat (x : UInt32) (n : Nat) : (sr32 x n).toNat = x.toNat / 2 ^ n := by
  unfold sr32
  rw [UInt32.toNat_ofNat']
  have h := x.toNat_lt
  have h2 : x.toNat / 2 ^ n ≤ x.toNat := Nat.div_le_self _ _
  exact Nat.mod_eq_of_lt (by omega)
theorem sl32_toNat (x : UInt32) (n : Nat) : (sl32 x n).toNat = x.toNat * 2 ^ n % 4294967296 := UInt32.toNat_ofNat'
/-- Word t of a block. -/
def wrd32 (b : Nat → UInt8) (t : Nat) : UInt32 := UInt32.ofNat ((b (4 * t)).toNat * 16777216 + (b (4 * t + 1)).toNat * 65536 + (b (4 * t + 2)).toNat * 256 + (b (4 * t + 3)).toNat)
/-- The words of all rounds. -/
def W32 (b : Nat → UInt8) (t : Nat) : UInt32 :=
  if _h : t < 16 then wrd32 b t else pl32 (pl32 (pl32 (sml1_32 (W32 b (t - 2))) (W32 b (t - 7))) (sml0_32 (W32 b (t - 15)))) (W32 b (t - 16))
termination_by t
decreasing_by all_goals omega
theorem W32_low (b : Nat → UInt8) (t : Nat) (h : t < 16) : W32 b t = wrd32 b t := by rw [W32, dif_pos h]
theorem W32_up (b : Nat → UInt8) (t : Nat) (h : 16 ≤ t) : W32 b t = pl32 (pl32 (pl32 (sml1_32 (W32 b (t - 2))) (W32 b (t - 7))) (sml0_32 (W32 b (t - 15)))) (W32 b (t - 16)) := by
  rw [W32, dif_neg (by omega)]
def kl32 : List UInt32 := [1116352408, 1899447441, 3049323471, 3921009573, 961987163, 1508970993, 2453635748, 2870763221, 3624381080, 310598401, 607225278, 1426881987, 1925078388, 2162078206, 2614888103, 3248222580, 3835390401, 4022224774, 264347078, 604807628, 770255983, 1249150122, 1555081692, 1996064986, 2554220882, 2821834349, 2952996808, 3210313671, 3336571891, 3584528711, 113926993, 338241895, 666307205, 773529912, 1294757372, 1396182291, 1695183700, 1986661051, 2177026350, 2456956037, 2730485921, 2820302411, 3259730800, 3345764771, 3516065817, 3600352804, 4094571909, 275423344, 430227734, 506948616, 659060556, 883997877, 958139571, 1322822218, 1537002063, 1747873779, 1955562222, 2024104815, 2227730452, 2361852424, 2428436474, 2756734187, 3204031479, 3329325298]
def hl32 : List UInt32 := [1779033703, 3144134277, 1013904242, 2773480762, 1359893119, 2600822924, 528734635, 1541459225]
def K32 (i : Nat) : UInt32 := kl32.getD i 0
def H32 (i : Nat) : UInt32 := hl32.getD i 0
def one32 (w : UInt32) (t : Nat) (s : Nat → UInt32) : UInt32 := pl32 (pl32 (pl32 (pl32 (s 7) (big1_32 (s 4))) (ch32 (s 4) (s 5) (s 6))) (K32 t)) w
def two32 (s : Nat → UInt32) : UInt32 := pl32 (big0_32 (s 0)) (maj32 (s 0) (s 1) (s 2))
/-- A round. -/
def step32 (w : UInt32) (t : Nat) (s : Nat → UInt32) : Nat → UInt32
  | 0 => pl32 (one32 w t s) (two32 s)
  | 1 => s 0
  | 2 => s 1
  | 3 => s 2
  | 4 => pl32 (s 3) (one32 w t s)
  | 5 => s 4
  | 6 => s 5
  | _ => s 6
def rnd32 (b : Nat → UInt8) (s : Nat → UInt32) : Nat → Nat → UInt32
  | 0 => s
  | t + 1 => step32 (W32 b t) t (rnd32 b s t)
/-- The state behind a block. -/
def comp32 (b : Nat → UInt8) (s : Nat → UInt32) : Nat → UInt32 := fun i => pl32 (s i) (rnd32 b s 64 i)
/-- The state behind k blocks. -/
def hs32 (m : Nat → UInt8) : Nat → Nat → UInt32
  | 0 => H32
  | k + 1 => comp32 (fun j => m (64 * k + j)) (hs32 m k)
def nb32 (n : Nat) : Nat := (n + 8) / 64 + 1
/-- The message in whole blocks. -/
def pad32 (n : Nat) (f : Nat → UInt8) : Nat → UInt8 := fun j =>
  if j < n then f j else if j = n then 128 else if j < 64 * nb32 n - 8 then 0 else UInt8.ofNat (8 * n / 256 ^ (64 * nb32 n - 1 - j))
def out32 (s : Nat → UInt32) : Nat → UInt8 := fun i => UInt8.ofNat ((s (i / 4)).toNat / 2 ^ (24 - i % 4 * 8))
def sum32 (n : Nat) (f : Nat → UInt8) : Nat → UInt8 := out32 (hs32 (pad32 n f) (nb32 n))
theorem comp32_congr {b b' : Nat → UInt8} {s s' : Nat → UInt32} (hb : ∀ j, j < 64 → b j = b' j) (hs : ∀ i, i < 8 → s i = s' i) : ∀ i, i < 8 → comp32 b s i = comp32 b' s' i := by
  have hw : ∀ t, t < 16 → wrd32 b t = wrd32 b' t := fun t ht => by
    unfold wrd32
    rw [hb (4 * t) (by omega), hb (4 * t + 1) (by omega), hb (4 * t + 2) (by omega), hb (4 * t + 3) (by omega)]
  have hW : ∀ n t, t < n → W32 b t = W32 b' t := by
    intro n
    induction n with
    | zero => intro t ht; omega
    | succ n ih =>
      intro t ht
      by_cases h : t < 16
      · rw [W32_low _ _ h, W32_low _ _ h, hw t h]
      · rw [W32_up _ _ (by omega), W32_up b' _ (by omega), ih (t - 2) (by omega), ih (t - 7) (by omega), ih (t - 15) (by omega), ih (t - 16) (by omega)]
  have hr : ∀ t i, i < 8 → rnd32 b s t i = rnd32 b' s' t i := by
    intro t
    induction t with
    | zero => exact hs
    | succ t ih =>
      intro i hi
      show step32 (W32 b t) t (rnd32 b s t) i = step32 (W32 b' t) t (rnd32 b' s' t) i
      rw [hW (t + 1) t (by omega)]
      have e0 := ih 0 (by omega); have e1 := ih 1 (by omega); have e2 := ih 2 (by omega); have e3 := ih 3 (by omega); have e4 := ih 4 (by omega); have e5 := ih 5 (by omega); have e6 := ih 6 (by omega); have e7 := ih 7 (by omega)
      obtain rfl | rfl | rfl | rfl | rfl | rfl | rfl | rfl : i = 0 ∨ i = 1 ∨ i = 2 ∨ i = 3 ∨ i = 4 ∨ i = 5 ∨ i = 6 ∨ i = 7 := by omega
      all_goals (simp only [step32, one32, two32, e0, e1, e2, e3, e4, e5, e6, e7])
  intro i hi
  unfold comp32
  rw [hs i hi, hr 64 i hi]
theorem hs32_congr {m m' : Nat → UInt8} (k : Nat) (h : ∀ j, j < 64 * k → m j = m' j) : ∀ i, i < 8 → hs32 m k i = hs32 m' k i := by
  induction k with
  | zero => intro i _; rfl
  | succ k ih => exact comp32_congr (fun j hj => h _ (by omega)) (ih fun j hj => h j (by omega))
theorem out32_congr {s s' : Nat → UInt32} (h : ∀ i, i < 8 → s i = s' i) : ∀ i, i < 32 → out32 s i = out32 s' i := fun i hi => by
  unfold out32
  rw [h (i / 4) (by omega)]
end Go.Proofs.YtfloiekaiiapnaaGreatDoor

namespace Go.Proofs.YtfloiekaiiapnaaGreatDoor
open Go Go.RowKit

/-! ### Arrays -/
/-- A scalar: one cell a datum. -/
structure Scal (α : Type) where
  val : α → Value
  one : ∀ a, (val a).oneCell' = true
def Scal.cod {α : Type} (S : Scal α) : Cod α := ⟨S.val, 1, false, fun a => by rw [one_cells (S.one a)]; rfl, fun a => by rw [one_cells (S.one a)]; exact one1 (S.one a), (fun h => by cases h), fun _ a => S.one a⟩
def Scal.row {α : Type} (S : Scal α) (n : Nat) (f : Nat → α) : Array Value := Array.ofFn fun i : Fin n => S.val (f i)
section
variable {α : Type} {S : Scal α} {n i : Nat} {f g : Nat → α}
theorem srow_size (S : Scal α) (n : Nat) (f : Nat → α) : (S.row n f).size = n := by simp [Scal.row]
theorem srow_get (S : Scal α) (f : Nat → α) (h : i < n) : (S.row n f)[i]? = some (S.val (f i)) := by simp [Scal.row, h]
theorem srow_one (S : Scal α) (n : Nat) (f : Nat → α) : (S.row n f).all (·.oneCell') = true := by
  rw [Array.all_eq_true_iff_forall_mem]
  intro v hv
  simp only [Scal.row, Array.mem_ofFn] at hv
  obtain ⟨i, rfl⟩ := hv
  exact S.one _
end
def Scal.vec {α : Type} (S : Scal α) (n : Nat) : Cod (Nat → α) := ⟨fun f => .agg (S.row n f), n, true, fun f => srow_size S n f, fun f => srow_one S n f, fun _ _ => rfl, (fun h => by cases h)⟩
/-- One of an array's data another one. -/
def stF {α : Type} (f : Nat → α) (i : Nat) (x : α) : Nat → α := fun k => if k = i then x else f k
/-- Data laid from place o on. -/
def ovF {α : Type} [Inhabited α] (f : Nat → α) (o : Nat) (l : List α) : Nat → α := fun k => if o ≤ k ∧ k < o + l.length then l.getD (k - o) default else f k
/-- The first m of g, the rest of f. -/
def upF {α : Type} (m : Nat) (g f : Nat → α) : Nat → α := fun k => if k < m then g k else f k
section
variable {α : Type} {S : Scal α} {n i b off m : Nat} {f g : Nat → α} {w : World} {x : α}
theorem upF_step (m : Nat) (g f : Nat → α) (hx : x = g m) : stF (upF m g f) m x = upF (m + 1) g f := by
  subst hx
  funext k
  unfold stF upF
  by_cases h : k = m
  · subst h; rw [if_pos rfl, if_pos (by omega)]
  · by_cases h2 : k < m
    · rw [if_neg h, if_pos h2, if_pos (by omega)]
    · rw [if_neg h, if_neg h2, if_neg (by omega)]
theorem upF_zero (g f : Nat → α) : upF 0 g f = f := by funext k; simp [upF]
theorem upF_at (g f : Nat → α) : upF m g f m = f m := by simp [upF]
theorem upF_lt (g f : Nat → α) (h : i < m) : upF m g f i = g i := by simp [upF, h]
theorem srow_congr (h : ∀ i, i < n → f i = g i) : S.row n f = S.row n g := by
  unfold Scal.row
  congr 1
  funext i
  rw [h i.1 i.2]
theorem vec_congr (h : ∀ i, i < n → f i = g i) : (S.vec n).enc f = (S.vec n).enc g := srow_congr h
theorem vec_get (h : i < n) : ((S.vec n).enc f)[i]? = some (S.val (f i)) := srow_get S f h
theorem vec_set (f : Nat → α) (x : α) (hi : i < n) : putL ((S.vec n).enc f) (i * 1) (S.cod.enc x).toList = (S.vec n).enc (stF f i x) := by
  apply Array.ext_getElem?
  intro k
  have hc : (S.cod.enc x).toList = [S.val x] := by
    show ((S.val x).cells).toList = _
    rw [one_cells (S.one x)]
  rw [hc, putL_get, (S.vec n).size]
  show (if i * 1 ≤ k ∧ k < i * 1 + 1 ∧ k < n then _ else _) = _
  by_cases hk : k < n
  · rw [vec_get hk, vec_get hk]
    by_cases h1 : k = i
    · subst h1
      rw [if_pos (by omega)]
      unfold stF
      rw [if_pos rfl, show k - k * 1 = 0 by omega]; rfl
    · rw [if_neg (by omega)]
      unfold stF
      rw [if_neg h1]
  · rw [if_neg (by omega), Array.getElem?_eq_none (by rw [Cod.size]; show n ≤ k; omega), Array.getElem?_eq_none (by rw [Cod.size]; show n ≤ k; omega)]
theorem Holds.eltV (h : Holds (S.vec n) w b off f) (hi : i < n) : Holds S.cod w b (off + i * 1) (f i) := fun j u hu => by
  have hj : j < 1 := by
    have := (Array.getElem?_eq_some_iff.1 hu).1
    rwa [Cod.size] at this
  obtain rfl : j = 0 := by omega
  have hu' : (S.val (f i)).cells[0]? = some u := hu
  rw [one_cells (S.one _)] at hu'
  obtain rfl := Option.some.inj hu'
  have := h i _ (vec_get hi)
  rw [Nat.mul_one, Nat.add_zero]
  exact this
theorem vec_ov [Inhabited α] (f : Nat → α) (o : Nat) (l : List α) : putL ((S.vec n).enc f) o (flat S.cod l) = (S.vec n).enc (ovF f o l) := by
  apply Array.ext_getElem?
  intro k
  have hf : (flat S.cod l).length = l.length := by rw [flat_len]; exact Nat.mul_one _
  rw [putL_get, (S.vec n).size, hf]
  show (if o ≤ k ∧ k < o + l.length ∧ k < n then _ else _) = _
  by_cases hk : k < n
  · rw [vec_get hk, vec_get hk]
    by_cases h1 : o ≤ k ∧ k < o + l.length
    · rw [if_pos ⟨h1.1, h1.2, hk⟩]
      have hi : k - o < l.length := by omega
      have h0 : (S.cod.enc l[k - o])[0]? = some (S.val l[k - o]) := by
        show ((S.val l[k - o]).cells)[0]? = _
        rw [one_cells (S.one _)]; rfl
      have := flat_get (C := S.cod) l (k - o) 0 l[k - o] _ (List.getElem?_eq_getElem hi) h0
      rw [show (k - o) * S.cod.sz + 0 = k - o from Nat.mul_one _] at this
      rw [this]
      unfold ovF
      rw [if_pos h1, List.getD_eq_getElem?_getD, List.getElem?_eq_getElem hi]; rfl
    · rw [if_neg (by omega)]
      unfold ovF
      rw [if_neg h1]
  · rw [if_neg (by omega), Array.getElem?_eq_none (by rw [Cod.size]; show n ≤ k; omega), Array.getElem?_eq_none (by rw [Cod.size]; show n ≤ k; omega)]
end
/-! ### A part of a struct laid anew -/
section
variable {α β : Type} {A : Cod α} {B : Cod β} {x x' : α} {y y' : β} {off : Nat} {vs : List Value}
theorem put_fst (h : putL (A.enc x) off vs = A.enc x') (hf : off + vs.length ≤ A.sz) : putL ((cPair A B).enc (x, y)) off vs = (cPair A B).enc (x', y) := by
  apply Array.ext_getElem?
  intro k
  rw [enc_pair, enc_pair, putL_get, Array.size_append, A.size, B.size]
  have h1 := congrArg (·[k]?) h
  simp only [putL_get, A.size] at h1
  by_cases hk : k < A.sz
  · rw [Array.getElem?_append_left (by rw [A.size]; exact hk), Array.getElem?_append_left (by rw [A.size]; exact hk), ← h1]
    by_cases h2 : off ≤ k ∧ k < off + vs.length
    · rw [if_pos ⟨h2.1, h2.2, by omega⟩, if_pos ⟨h2.1, h2.2, hk⟩]
    · rw [if_neg (by omega), if_neg (by omega)]
  · rw [if_neg (by omega), Array.getElem?_append_right (by rw [A.size]; omega), Array.getElem?_append_right (by rw [A.size]; omega), A.size, A.size]
theorem put_snd {o : Nat} (h : putL (B.enc y) off vs = B.enc y') (ho : o = A.sz + off) : putL ((cPair A B).enc (x, y)) o vs = (cPair A B).enc (x, y') := by
  subst ho
  apply Array.ext_getElem?
  intro k
  rw [enc_pair, enc_pair, putL_get, Array.size_append, A.size, B.size]
  have h1 := congrArg (·[k - A.sz]?) h
  simp only [putL_get, B.size] at h1
  by_cases hk : k < A.sz
  · rw [if_neg (by omega), Array.getElem?_append_left (by rw [A.size]; exact hk), Array.getElem?_append_left (by rw [A.size]; exact hk)]
  · rw [Array.getElem?_append_right (by rw [A.size]; omega), Array.getElem?_append_right (by rw [A.size]; omega), A.size, ← h1]
    by_cases h2 : A.sz + off ≤ k ∧ k < A.sz + off + vs.length ∧ k < A.sz + B.sz
    · rw [if_pos h2, if_pos (by omega)]
      congr 1; omega
    · rw [if_neg h2, if_neg (by omega)]
theorem put_snA {a o : Nat} (h : putL (B.enc y) off vs = B.enc y') (ho : o = a + off) (ha : A.sz = a := by exact rfl) : putL ((cPair A B).enc (x, y)) o vs = (cPair A B).enc (x, y') := put_snd h (ha ▸ ho)
end
/-! ### Words of 32 bits -/
def sWd : Scal UInt32 := ⟨fun x => .int .u32 (x.toNat : Int), fun _ => rfl⟩
abbrev cWd : Cod UInt32 := sWd.cod
abbrev cWs (n : Nat) : Cod (Nat → UInt32) := sWd.vec n
section
variable {P : Program} {a : Act} {o : Oper} {w : World} {x y : Operand} {t t2 ty : TypeId} {u v z : UInt32}
theorem opAddW (ho : o.op = .binOp .add t x y t2) (hx : a.eval x = .int .u32 (u.toNat : Int)) (hy : a.eval y = .int .u32 (v.toNat : Int)) (hz : pl32 u v = z) : (execOp a.eval o).run P w = .ok (.value (.int .u32 (z.toNat : Int))) w :=
  opAddU rfl ho hx hy (by subst hz; exact (UInt32.toNat_add u v).symm)
theorem opXorW (ho : o.op = .binOp .xor t x y t2) (hx : a.eval x = .int .u32 (u.toNat : Int)) (hy : a.eval y = .int .u32 (v.toNat : Int)) (hz : xo32 u v = z) : (execOp a.eval o).run P w = .ok (.value (.int .u32 (z.toNat : Int))) w :=
  opXorU rfl ho hx hy u.toNat_lt v.toNat_lt (by subst hz; exact (UInt32.toNat_xor u v).symm)
theorem opAndW (ho : o.op = .binOp .and t x y t2) (hx : a.eval x = .int .u32 (u.toNat : Int)) (hy : a.eval y = .int .u32 (v.toNat : Int)) (hz : and32 u v = z) : (execOp a.eval o).run P w = .ok (.value (.int .u32 (z.toNat : Int))) w :=
  opAndU rfl ho hx hy u.toNat_lt v.toNat_lt (by subst hz; exact (UInt32.toNat_and u v).symm)
theorem opOrW (ho : o.op = .binOp .or t x y t2) (hx : a.eval x = .int .u32 (u.toNat : Int)) (hy : a.eval y = .int .u32 (v.toNat : Int)) (hz : or32 u v = z) : (execOp a.eval o).run P w = .ok (.value (.int .u32 (z.toNat : Int))) w :=
  opOrU rfl ho hx hy u.toNat_lt v.toNat_lt (by subst hz; exact (UInt32.toNat_or u v).symm)
theorem opShlW {yk : IntKind} {n : Nat} (ho : o.op = .binOp .shl t x y t2) (hx : a.eval x = .int .u32 (u.toNat : Int)) (hy : a.eval y = .int yk (n : Int)) (hn : n ≤ 32) (hz : sl32 u n = z) : (execOp a.eval o).run P w = .ok (.value (.int .u32 (z.toNat : Int))) w :=
  opShlU rfl ho hx hy hn (by subst hz; exact (sl32_toNat u n).symm)
theorem opShrW {yk : IntKind} {n : Nat} (ho : o.op = .binOp .shr t x y t2) (hx : a.eval x = .int .u32 (u.toNat : Int)) (hy : a.eval y = .int yk (n : Int)) (hn : n ≤ 32) (hz : sr32 u n = z) : (execOp a.eval o).run P w = .ok (.value (.int .u32 (z.toNat : Int))) w :=
  opShrU ho hx hy hn (by subst hz; exact (sr32_toNat u n).symm)
theorem compl_nat (u : UInt32) : IntKind.u32.max.toNat ^^^ u.toNat = (not32 u).toNat := by
  show 4294967295 ^^^ u.toNat = (~~~u).toNat
  rw [UInt32.toNat_not]
  have h : u.toNat < 2 ^ 32 := u.toNat_lt
  have e : (4294967295 : Nat) = 2 ^ 32 - 1 := rfl
  apply Nat.eq_of_testBit_eq
  intro i
  rw [show UInt32.size - 1 - u.toNat = 2 ^ 32 - (u.toNat + 1) by show 4294967296 - 1 - u.toNat = 4294967296 - (u.toNat + 1); omega]
  rw [Nat.testBit_xor, e, Nat.testBit_two_pow_sub_one, Nat.testBit_two_pow_sub_succ h]
  by_cases hi : i < 32
  · simp [hi]
  · have := Nat.testBit_lt_two_pow (Nat.lt_of_lt_of_le h (Nat.pow_le_pow_right (by decide) (show 32 ≤ i by omega)))
    simp [hi, this]
theorem opNotW (ho : o.op = .unOp .xor t x) (hx : a.eval x = .int .u32 (u.toNat : Int)) (hz : not32 u = z) : (execOp a.eval o).run P w = .ok (.value (.int .u32 (z.toNat : Int))) w := by
  subst hz
  have e : IntKind.u32.wrap ((BitVec.ofInt 32 (4294967295 : Int) ^^^ BitVec.ofInt 32 (u.toNat : Int)).toNat : Int) = ((not32 u).toNat : Int) := by
    rw [BitVec.toNat_xor, show (4294967295 : Int) = ((4294967295 : Nat) : Int) from rfl, ofInt_nat _ _ (by decide), ofInt_nat _ _ u.toNat_lt, wrapU rfl]
    congr 1
    have := compl_nat u
    rw [show 4294967295 ^^^ u.toNat = (not32 u).toNat from this]
    exact Nat.mod_eq_of_lt (not32 u).toNat_lt
  unfold execOp
  simp only [ho, hx, Sem.run_bind, Sem.run_pure]
  show ((Op.unary .xor (.int .u32 (u.toNat : Int))).run P w).andThen _ = _
  have h : (Op.unary .xor (.int .u32 (u.toNat : Int))).run P w = .ok (.int .u32 ((not32 u).toNat : Int)) w := by
    show ((pure (.int .u32 (IntKind.u32.wrap ((BitVec.ofInt 32 (4294967295 : Int) ^^^ BitVec.ofInt 32 (u.toNat : Int)).toNat : Int))) : Sem Value)).run P w = _
    rw [e]; rfl
  rw [h]; rfl
theorem opNegI {k : IntKind} {m z : Int} (ho : o.op = .unOp .neg t x) (hx : a.eval x = .int k m) (hz : k.wrap (0 - m) = z) : (execOp a.eval o).run P w = .ok (.value (.int k z)) w := by
  subst hz
  unfold execOp
  simp only [ho, hx, Sem.run_bind, Sem.run_pure]
  have h : (Op.unary .neg (.int k m)).run P w = .ok (.int k (k.wrap (0 - m))) w := rfl
  rw [h]; rfl
/-- An unsigned number that is a word. -/
theorem opConvW {src dst : TypeId} {k : IntKind} {m : Nat} (ho : o.op = .convert src dst x) (hsrc : (P.underlying src).isSome = true) (hd : P.underlying dst = some (.int .u32)) (hx : a.eval x = .int k (m : Int)) (hz : UInt32.ofNat m = z) : (execOp a.eval o).run P w = .ok (.value (.int .u32 (z.toNat : Int))) w :=
  opConvU rfl ho hsrc hd hx (by subst hz; exact UInt32.toNat_ofNat'.symm)
end
/-! ### An element of an array that is a value; a part of an array as a slice -/
section
variable {P : Program} {a : Act} {o : Oper} {w : World} {x y : Operand} {t ty e : TypeId} {n i : Nat}
theorem opIdxA {α : Type} {S : Scal α} {f : Nat → α} {k : IntKind} {j : Int} (ho : o.op = .index ty x y) (hu : P.underlying ty = some (.array n e)) (hs : tyOk P e S.cod = true) (hx : a.eval x = (S.vec n).val f) (hy : a.eval y = .int k j) (hj : j = (i : Int)) (hi : i < n) :
    (execOp a.eval o).run P w = .ok (.value (S.val (f i))) w := by
  subst hj
  obtain ⟨h1, h2⟩ := tyOk.spec hs
  have he := elem_ofA hu
  have hn := len_ofA hu
  obtain ⟨d, hd, hdr⟩ := Option.map_eq_some_iff.1 h1
  obtain ⟨q, hq, hqs⟩ := Option.map_eq_some_iff.1 h2
  have hr : (S.row n f)[i]? = some (S.val (f i)) := srow_get S f hi
  have hdr' : d.isRow = false := hdr
  have hqs' : q.size = 1 := hqs
  have hp : (part e (S.row n f) (i * 1)).run P w = .ok (S.val (f i)) w := by
    rw [Nat.mul_one]
    simp [part, isAgg, run_underlying hd, hr]
    cases d <;> first | rfl | cases hdr'
  have hv : (S.vec n).val f = .agg (S.row n f) := rfl
  rw [hv] at hx
  unfold execOp
  simp only [ho, hx, hy, Sem.run_bind, Sem.run_pure]
  have hr2 : (Instr.index ty (.agg (S.row n f)) (.int k (i : Int))).run P w = .ok (S.val (f i)) w := by
    simp [Instr.index, asIntOf, run_underlying hu, sizeOf, typeInfo, hq, hqs', hi]
    simpa using hp
  rw [hr2]; rfl
theorem opSliceAL {b off m l sz : Nat} {kl : IntKind} {jl : Int} {xl : Operand} (ho : o.op = .slice ty x (some xl) none none) (hu : P.underlying ty = some (.array m e)) (hs : (P.info? e).map (·.size) = some sz) (hx : a.eval x = .pointer (some ⟨b, off, none⟩)) (hl : a.eval xl = .int kl jl) (hjl : jl = (l : Int)) (h1 : l < m) :
    (execOp a.eval o).run P w = .ok (.value (.slice (some ⟨b, off + l * sz, none⟩) (m - l) (m - l))) w := by
  subst hjl
  have he := elem_ofA hu
  have hn := len_ofA hu
  have hu' : P.underlying ty = some (.array (P.arrayLen ty) (P.elem ty)) := by rw [he, hn]; exact hu
  have hadd : (⟨b, off, none⟩ : Addr).add (l * sz) = ⟨b, off + l * sz, none⟩ := Addr.add_mid ..
  unfold execOp
  simp only [ho, Option.map_some, Option.map_none, hx, hl, Sem.run_bind, Sem.run_pure, run_sliceAt_array_l w ty ⟨b, off, none⟩ hu' kl (l : Int) (by omega) (by rw [hn]; omega), he, hn, run_sizeOf hs, Result.andThen_ok, slicedAt, Int.toNat_natCast, hadd]
  rw [if_neg (by omega)]
end
theorem wrap_neg64 {n : Nat} (h0 : 0 < n) (h : n ≤ 9223372036854775808) : IntKind.u64.wrap (-(n : Int)) = ((18446744073709551616 - n : Nat) : Int) := by
  have e : -(n : Int) = ((18446744073709551616 - n : Nat) : Int) - 18446744073709551616 := by omega
  have h2 := wrapU (k := .u64) rfl (18446744073709551616 - n)
  rw [Nat.mod_eq_of_lt (by show 18446744073709551616 - n < 18446744073709551616; omega)] at h2
  rw [← h2, e]
  unfold IntKind.wrap
  show (((18446744073709551616 - n : Nat) : Int) - 18446744073709551616) % 18446744073709551616 = (((18446744073709551616 - n : Nat)) : Int) % 18446744073709551616
  rw [Int.sub_emod_right]
theorem rr32_or (x : UInt32) (n : Nat) : or32 (sl32 x (32 - n)) (sr32 x n) = rr32 x n := by
  unfold rr32 or32
  exact UInt32.or_comm _ _
/-! ### Arrays of bytes -/
def sBy : Scal UInt8 := ⟨by8, fun _ => rfl⟩
theorem arr_ov {n : Nat} (f : Nat → UInt8) (o : Nat) (l : List UInt8) : putL ((cArr n).enc f) o (flat cByte l) = (cArr n).enc (ovF f o l) := vec_ov (S := sBy) (n := n) f o l
theorem arr_set0 {n i : Nat} (f : Nat → UInt8) (b : UInt8) (hi : i < n) : putL ((cArr n).enc f) (0 + i * 1) (cByte.enc b).toList = (cArr n).enc (stF f i b) := by
  rw [Nat.zero_add]; exact vec_set (S := sBy) (n := n) f b hi
theorem vec_set0 {α : Type} {S : Scal α} {n i : Nat} (f : Nat → α) (x : α) (hi : i < n) : putL ((S.vec n).enc f) (0 + i * 1) (S.cod.enc x).toList = (S.vec n).enc (stF f i x) := by
  rw [Nat.zero_add]; exact vec_set f x hi
theorem arr_congr {n : Nat} {f g : Nat → UInt8} (h : ∀ i, i < n → f i = g i) : (cArr n).enc f = (cArr n).enc g := row_congr h
theorem room_1 {α β : Type} {S : Scal α} {n i : Nat} {C : Cod β} {x : β} (hn : C.sz = n) (hi : i < n) : 0 + i * 1 + S.cod.sz ≤ (C.enc x).size := by
  rw [C.size, hn]; show 0 + i * 1 + 1 ≤ n; omega
theorem lst_set {n i : Nat} (f : Nat → UInt8) (x : UInt8) : (lst n f).set i x = lst n (stF f i x) := by
  apply List.ext_getElem?
  intro k
  rw [List.getElem?_set]
  by_cases hk : k < n
  · rw [lst_get hk, lst_get hk, lst_len]
    unfold stF
    by_cases h : i = k
    · subst h; rw [if_pos rfl, if_pos hk, if_pos rfl]
    · rw [if_neg h, if_neg (fun e => h e.symm)]
  · rw [List.getElem?_eq_none (by rw [lst_len]; omega), List.getElem?_eq_none (by rw [lst_len]; omega), lst_len]
    split
    · rename_i h; subst h; rw [if_neg hk]
    · rfl
theorem lst_congr {n : Nat} {f g : Nat → UInt8} (h : ∀ i, i < n → f i = g i) : lst n f = lst n g := List.map_congr_left fun i hi => h i (List.mem_range.1 hi)
/-- A part of a slice lies in the same block. -/
theorem Off.cut {α : Type} {C : Cod α} {w : World} {A : Option Addr} {n c k : Nat} {l : List α} {R : List Nat} (h : Off A n R) (hV : Vu C w A n c l) (m : Nat) (hm : 0 < m → 0 < n) : Off (cutA A c k C.sz) m R := fun b off hA hp => by
  obtain ⟨pb, po, rfl, _⟩ := hV.at' (hm hp)
  have key : pb ∉ R := h pb po rfl (hm hp)
  unfold cutA at hA
  split at hA
  · injection hA with e; injection e with e1; subst e1; exact key
  · rw [Option.map_some, Addr.add_mid] at hA
    injection hA with e; injection e with e1; subst e1; exact key
end Go.Proofs.YtfloiekaiiapnaaGreatDoor

namespace Go.Proofs.YtfloiekaiiapnaaGreatDoor
open Go Go.RowKit

/-- The number of the first k bytes of word j. -/
def pn32 (b : Nat → UInt8) (j : Nat) : Nat → Nat
  | 0 => 0
  | k + 1 => pn32 b j k * 256 + (b (4 * j + k)).toNat
theorem pn32_lt (b : Nat → UInt8) (j k : Nat) : pn32 b j k < 256 ^ k := by
  induction k with
  | zero => simp [pn32]
  | succ k ih =>
    have h := (b (4 * j + k)).toNat_lt
    show pn32 b j k * 256 + (b (4 * j + k)).toNat < 256 ^ (k + 1)
    rw [Nat.pow_succ]
    omega
/-- How many bytes of word j are among the first m. -/
def cn32 (m j : Nat) : Nat := min 4 (m - 4 * j)
def pr32 (b : Nat → UInt8) (m : Nat) : Nat → UInt32 := fun j => UInt32.ofNat (pn32 b j (cn32 m j))
theorem or_add8 (P x : Nat) (hx : x < 2 ^ 8) : P * 2 ^ 8 ||| x = P * 256 + x := by
  have h6 := Nat.shiftLeft_add_eq_or_of_lt (a := P) hx
  rw [Nat.shiftLeft_eq] at h6
  exact h6.symm
set_option maxRecDepth 100000 in
theorem pr32_step (b : Nat → UInt8) (m i : Nat) (hi : i = m / 4) : or32 (sl32 (pr32 b m i) 8) (UInt32.ofNat (b m).toNat) = pr32 b (m + 1) i := by
  have h1 : cn32 m i = m % 4 := by unfold cn32; omega
  have h2 : cn32 (m + 1) i = m % 4 + 1 := by unfold cn32; omega
  have h3 := pn32_lt b i (m % 4)
  have h4 : 256 ^ (m % 4) ≤ 256 ^ 3 := Nat.pow_le_pow_right (by omega) (by omega)
  have h5 := (b m).toNat_lt
  apply UInt32.toNat_inj.1
  unfold or32
  rw [UInt32.toNat_or, sl32_toNat]
  unfold pr32
  rw [h1, h2]
  show _ = (UInt32.ofNat (pn32 b i (m % 4) * 256 + (b (4 * i + m % 4)).toNat)).toNat
  rw [show 4 * i + m % 4 = m by omega]
  simp only [UInt32.toNat_ofNat']
  generalize pn32 b i (m % 4) = P at *
  have hP : P < 16777216 := Nat.lt_of_lt_of_le h3 h4
  rw [show P % 2 ^ 32 * 2 ^ 8 % 4294967296 = P * 2 ^ 8 by omega, Nat.mod_eq_of_lt (show (b m).toNat < 2 ^ 32 by omega), or_add8 _ _ h5, Nat.mod_eq_of_lt (show P * 256 + (b m).toNat < 2 ^ 32 by omega)]
theorem pr32_set (b : Nat → UInt8) (m i : Nat) (x : UInt32) (hi : i = m / 4) (hx : x = pr32 b (m + 1) i) : stF (pr32 b m) i x = pr32 b (m + 1) := by
  subst hx
  funext j
  unfold stF
  by_cases h : j = i
  · rw [if_pos h, h]
  · rw [if_neg h]
    unfold pr32
    rw [show cn32 m j = cn32 (m + 1) j by unfold cn32; omega]
theorem pr32_zero (b : Nat → UInt8) : pr32 b 0 = fun _ => 0 := by
  funext j
  unfold pr32
  rw [show cn32 0 j = 0 by unfold cn32; omega]
  rfl
set_option maxRecDepth 100000 in
theorem pr32_all (b : Nat → UInt8) (j : Nat) (hj : j < 16) : pr32 b 64 j = W32 b j := by
  rw [W32_low _ _ hj]
  unfold pr32 wrd32
  rw [show cn32 64 j = 4 by unfold cn32; omega]
  congr 1
  show ((((0) * 256 + (b (4 * j + 0)).toNat) * 256 + (b (4 * j + 1)).toNat) * 256 + (b (4 * j + 2)).toNat) * 256 + (b (4 * j + 3)).toNat = _
  rw [show 4 * j + 0 = 4 * j from rfl]
  omega

theorem up_first (b : Nat → UInt8) : upF 16 (W32 b) (pr32 b 64) = pr32 b 64 := by
  funext j
  unfold upF
  by_cases h : j < 16
  · rw [if_pos h, pr32_all b j h]
  · rw [if_neg h]
theorem up_word {f : Nat → UInt32} {b : Nat → UInt8} {t : Nat} (h : 16 ≤ t) : pl32 (pl32 (pl32 (sml1_32 (upF t (W32 b) f (t - 2))) (upF t (W32 b) f (t - 7))) (sml0_32 (upF t (W32 b) f (t - 15)))) (upF t (W32 b) f (t - 16)) = W32 b t := by
  rw [upF_lt _ _ (by omega), upF_lt _ _ (by omega), upF_lt _ _ (by omega), upF_lt _ _ (by omega), ← W32_up b t h]
/-- What of the padding of n bytes, L long, is laid when m bytes of the number are. -/
def pm32 (L n m : Nat) : Nat → UInt8 := fun j => if L - m ≤ j then UInt8.ofNat (8 * n / 256 ^ (L - 1 - j)) else if j = 0 then 128 else 0
theorem pm32_step (L n m : Nat) (h : m < L) : (fun j => if j = L - 1 - m then UInt8.ofNat (8 * n / 256 ^ m) else pm32 L n m j) = fun j => if j < L then pm32 L n (m + 1) j else pm32 L n m j := by
  funext j
  unfold pm32
  by_cases e : j = L - 1 - m
  · rw [if_pos e, if_pos (by omega), if_pos (by omega), show L - 1 - j = m by omega]
  · rw [if_neg e]
    by_cases hj : j < L
    · rw [if_pos hj]
      by_cases h2 : L - m ≤ j
      · rw [if_pos h2, if_pos (by omega)]
      · rw [if_neg h2, if_neg (by omega : ¬ L - (m + 1) ≤ j)]
    · rw [if_neg hj]
theorem pm32_pad (n : Nat) (f : Nat → UInt8) (j : Nat) : pm32 (64 * nb32 n - n) n 8 j = pad32 n f (n + j) := by
  have h : 64 * nb32 n = n + 8 - (n + 8) % 64 + 64 := by unfold nb32; omega
  have h2 := Nat.mod_lt (n + 8) (show 0 < 64 by omega)
  unfold pm32 pad32
  rw [if_neg (by omega : ¬ n + j < n)]
  by_cases h0 : j = 0
  · rw [if_neg (by omega), if_pos h0, if_pos (by omega)]
  · rw [if_neg (by omega : ¬ n + j = n)]
    by_cases h8 : 64 * nb32 n - n - 8 ≤ j
    · rw [if_pos h8, if_neg (by omega), show 64 * nb32 n - n - 1 - j = 64 * nb32 n - 1 - (n + j) by omega]
    · rw [if_neg h8, if_neg h0, if_pos (by omega)]
theorem pm32_next (L n m : Nat) (h : m < L) (x : UInt8) (hx : x = UInt8.ofNat (8 * n / 256 ^ m)) : ∀ i, i < L → stF (pm32 L n m) (L - 1 - m) x i = pm32 L n (m + 1) i := by
  subst hx
  intro i hi
  have := congrFun (pm32_step L n m h) i
  simp only [hi, if_true] at this
  exact this
theorem out32_at (s : Nat → UInt32) (m : Nat) : UInt8.ofNat (sr32 (s (m / 4)) (24 - m % 4 * 8)).toNat = out32 s m := by rw [sr32_toNat]; rfl
/-! ### A running hash -/
/-- The state s and the bytes r are what k bytes of F leave. -/
def HaS (s : Nat → UInt32) (r : Nat → UInt8) (k : Nat) (F : Nat → UInt8) : Prop := (∀ i, i < 8 → s i = hs32 F (k / 64) i) ∧ ∀ j, j < k % 64 → r j = F (64 * (k / 64) + j)
section
variable {s : Nat → UInt32} {r F F' : Nat → UInt8} {k kk : Nat} {m : List UInt8}
theorem HaS.congr (h : HaS s r k F) (hF : ∀ j, j < k → F j = F' j) : HaS s r k F' :=
  ⟨fun i hi => (h.1 i hi).trans (hs32_congr (k / 64) (fun j hj => hF j (by omega)) i hi), fun j hj => (h.2 j hj).trans (hF _ (by omega))⟩
theorem ov_at (h : HaS s r k F) (hF : ∀ j x, m[j]? = some x → F (k + j) = x) (hm : kk ≤ m.length) : ∀ j, j < k % 64 + kk → ovF r (k % 64 * 1) (m.take kk) j = F (64 * (k / 64) + j) := fun j hj => by
  have hl : (m.take kk).length = kk := by rw [List.length_take]; omega
  unfold ovF
  rw [hl, Nat.mul_one]
  by_cases hlt : j < k % 64
  · rw [if_neg (by omega), h.2 j hlt]
  · rw [if_pos (by omega)]
    have hi : j - k % 64 < m.length := by omega
    have e := hF (j - k % 64) m[j - k % 64] (List.getElem?_eq_getElem hi)
    rw [show k + (j - k % 64) = 64 * (k / 64) + j by omega] at e
    rw [e, List.getD_eq_getElem?_getD, List.getElem?_take, if_pos (by omega), List.getElem?_eq_getElem hi]
    rfl
theorem HaS.part (h : HaS s r k F) (hF : ∀ j x, m[j]? = some x → F (k + j) = x) (hm : kk ≤ m.length) (hk : k % 64 + kk < 64) : HaS s (ovF r (k % 64 * 1) (m.take kk)) (k + kk) F := by
  have e : (k + kk) / 64 = k / 64 := by omega
  unfold HaS
  rw [e]
  exact ⟨h.1, fun j hj => ov_at h hF hm j (by omega)⟩
theorem HaS.full (h : HaS s r k F) (hF : ∀ j x, m[j]? = some x → F (k + j) = x) (hm : kk ≤ m.length) (hk : k % 64 + kk = 64) : HaS (comp32 (ovF r (k % 64 * 1) (m.take kk)) s) (ovF r (k % 64 * 1) (m.take kk)) (k + kk) F := by
  have e : (k + kk) / 64 = k / 64 + 1 := by omega
  unfold HaS
  rw [e]
  exact ⟨comp32_congr (fun j hj => ov_at h hF hm j (by omega)) h.1, fun j hj => by omega⟩
end
/-- What is laid behind n bytes. -/
def pdL (n : Nat) : List UInt8 := lst (64 * nb32 n - n) (pm32 (64 * nb32 n - n) n 8)
theorem pdL_len (n : Nat) : (pdL n).length = 64 * nb32 n - n := lst_len _ _
theorem nb32_ge (n : Nat) : n + 8 < 64 * nb32 n ∧ 64 * nb32 n ≤ n + 72 := by unfold nb32; omega
theorem pdL_at {n : Nat} (f : Nat → UInt8) : ∀ j x, (pdL n)[j]? = some x → pad32 n f (n + j) = x := fun j x hx => by
  have hj : j < 64 * nb32 n - n := by
    have := (List.getElem?_eq_some_iff.1 hx).1
    rwa [pdL_len] at this
  unfold pdL at hx
  rw [lst_get hj, pm32_pad n f j] at hx
  exact Option.some.inj hx
theorem pad32_low (n : Nat) (f : Nat → UInt8) (j : Nat) (h : j < n) : f j = pad32 n f j := by unfold pad32; rw [if_pos h]
theorem pm_begin {L n : Nat} (_h : 0 < L) : (List.replicate L (0 : UInt8)).set 0 128 = lst L (pm32 L n 0) := by
  have e : List.replicate L (0 : UInt8) = lst L (fun _ => 0) := by
    apply List.ext_getElem?
    intro i
    by_cases h : i < L
    · rw [lst_get h, List.getElem?_replicate, if_pos h]
    · rw [List.getElem?_eq_none (by rw [List.length_replicate]; omega), List.getElem?_eq_none (by rw [lst_len]; omega)]
  rw [e, lst_set]
  refine lst_congr fun i hi => ?_
  unfold stF pm32
  rw [if_neg (show ¬ L - 0 ≤ i by omega)]
theorem pm_step {L n m : Nat} (h : m < L) : (lst L (pm32 L n m)).set (L - 1 - m) (UInt8.ofNat (n * 8 / 2 ^ (8 * m))) = lst L (pm32 L n (m + 1)) := by
  rw [lst_set]
  refine lst_congr (pm32_next L n m h _ ?_)
  rw [Nat.mul_comm n 8, show (256 : Nat) ^ m = 2 ^ (8 * m) by rw [Nat.pow_mul]]
/-- The SHA-256 of a list. -/
def sha (l : List UInt8) : Nat → UInt8 := sum32 l.length fun j => l.getD j 0
theorem ha_end {s : Nat → UInt32} {r f : Nat → UInt8} {n : Nat} (h : HaS s r (64 * nb32 n) (pad32 n f)) : ∀ i, i < 32 → out32 s i = sum32 n f i :=
  out32_congr fun i hi => by
    have := h.1 i hi
    rwa [Nat.mul_div_cancel_left _ (by omega : 0 < 64)] at this
/-- Blocks of other types are others. -/
theorem ne_ty {w : World} {g g' : Nat} {cs cs' : Array Value} {t t' : TypeId} {z z' : Nat × Nat} (h : w.heap[g]? = some (.cells cs t z)) (h' : w.heap[g']? = some (.cells cs' t' z')) (ht : (t == t') = false) : g ∉ [g'] := fun hm => by
  obtain rfl := List.mem_singleton.1 hm
  rw [h] at h'
  injection h' with e
  injection e with _ e2
  subst e2
  simp at ht
theorem ret_arr {n : Nat} {f g : Nat → UInt8} (h : ∀ i, i < n → f i = g i) : Ending.returned (Value.agg ((cArr n).enc f)) = Ending.returned ((cArr n).val g) := by rw [arr_congr h]; rfl
abbrev cHa : Cod ((Nat → UInt32) × (Nat → UInt8) × Nat) := cPair (cWs 8) (cPair (cArr 64) (cNat .u64))
/-! ### The document's -/
/-- Block i of a message. -/
def blkF (F : Nat → UInt8) (i : Nat) : Nat → UInt8 := fun j => F (64 * i + j)
def mzL (l : List UInt8) (z : Nat) : List UInt8 := l ++ (128 :: List.replicate z 0)
theorem mzL_len (l : List UInt8) (z : Nat) : (mzL l z).length = l.length + 1 + z := by simp [mzL]; omega
theorem mzL_step (l : List UInt8) (z : Nat) : mzL l z ++ [0] = mzL l (z + 1) := by
  unfold mzL
  rw [List.append_assoc, List.cons_append, List.replicate_succ']
/-- The first k bytes of 8 of a number. -/
def be8 (n k : Nat) : List UInt8 := lst k fun i => UInt8.ofNat (n / 2 ^ (8 * (7 - i)))
theorem be8_len (n k : Nat) : (be8 n k).length = k := lst_len _ _
theorem lst_succ (n : Nat) (f : Nat → UInt8) : lst (n + 1) f = lst n f ++ [f n] := by simp [lst, List.range_succ]
/-- The message in whole blocks. -/
def pdM (l : List UInt8) : List UInt8 := lst (64 * nb32 l.length) (pad32 l.length fun j => l.getD j 0)
theorem pdM_len (l : List UInt8) : (pdM l).length = 64 * nb32 l.length := lst_len _ _
theorem pdM_all {l : List UInt8} {z : Nat} (h : l.length + 1 + z + 8 = 64 * nb32 l.length) : mzL l z ++ be8 (l.length * 8) 8 = pdM l := by
  apply List.ext_getElem?
  intro k
  have h1 := mzL_len l z
  have h2 := be8_len (l.length * 8) 8
  by_cases hk : k < 64 * nb32 l.length
  · unfold pdM
    rw [lst_get hk]
    unfold pad32
    by_cases a1 : k < l.length
    · rw [if_pos a1, List.getElem?_append_left (by omega)]
      unfold mzL
      show (l ++ _)[k]? = some (l.getD k 0)
      rw [List.getElem?_append_left a1, List.getD_eq_getElem?_getD, List.getElem?_eq_getElem a1]; rfl
    · rw [if_neg a1]
      by_cases a2 : k < l.length + 1 + z
      · rw [List.getElem?_append_left (by omega)]
        unfold mzL
        rw [List.getElem?_append_right (by omega)]
        by_cases a3 : k = l.length
        · rw [if_pos a3, a3, Nat.sub_self]; rfl
        · rw [if_neg a3, if_pos (by omega), show k - l.length = (k - l.length - 1) + 1 by omega, List.getElem?_cons_succ, List.getElem?_replicate, if_pos (by omega)]
      · rw [if_neg (by omega), if_neg (by omega), List.getElem?_append_right (by omega), h1]
        unfold be8
        rw [lst_get (by omega)]
        congr 2
        rw [Nat.mul_comm 8 l.length, show (256 : Nat) = 2 ^ 8 from rfl, ← Nat.pow_mul]
        congr 2
        omega
  · rw [List.getElem?_eq_none (by rw [List.length_append]; omega), List.getElem?_eq_none (by rw [pdM_len]; omega)]
theorem or_addk {P Q k : Nat} (h : Q < 2 ^ k) : P * 2 ^ k ||| Q = P * 2 ^ k + Q := by
  have h6 := Nat.shiftLeft_add_eq_or_of_lt (a := P) h
  rw [Nat.shiftLeft_eq] at h6
  exact h6.symm
theorem wd_val {m : Nat} (h : m < 4294967296) : Value.int .u32 (m : Int) = sWd.val (UInt32.ofNat m) := by
  show _ = Value.int .u32 ((UInt32.ofNat m).toNat : Int)
  rw [UInt32.toNat_ofNat', Nat.mod_eq_of_lt h]
theorem up_low {b : Nat → UInt8} {q : Nat} (h : q < 16) : UInt32.ofNat ((b (4 * q)).toNat * 16777216 + (b (4 * q + 1)).toNat * 65536 + (b (4 * q + 2)).toNat * 256 + (b (4 * q + 3)).toNat) = W32 b q := by
  rw [W32_low _ _ h]; rfl
theorem out32_at2 (s : Nat → UInt32) (m : Nat) : UInt8.ofNat (sr32 (s (m / 4)) (24 - 8 * (m % 4))).toNat = out32 s m := by
  rw [sr32_toNat]
  unfold out32
  rw [Nat.mul_comm 8]
end Go.Proofs.YtfloiekaiiapnaaGreatDoor

namespace Go.Proofs.YtfloiekaiiapnaaGreatDoor
open Go Go.RowKit

section
variable {P : Program} {o : Oper} {n : Sz} {l : Slots} {x y : Operand} {t t2 ty src : TypeId} {u v z : UInt32} {k : IntKind}
theorem Vl.aw (z : UInt32) (ho : o.op = .binOp .add t x y t2 := by exact rfl) (hx : vo l x = some (.int .u32 (u.toNat : Int)) := by exact rfl) (hy : vo l y = some (.int .u32 (v.toNat : Int)) := by exact rfl) (hz : pl32 u v = z := by exact rfl) : Vl P n l o (.int .u32 (z.toNat : Int)) := fun _ _ hF => opAddW ho (hF.vo hx) (hF.vo hy) hz
theorem Vl.xw (z : UInt32) (ho : o.op = .binOp .xor t x y t2 := by exact rfl) (hx : vo l x = some (.int .u32 (u.toNat : Int)) := by exact rfl) (hy : vo l y = some (.int .u32 (v.toNat : Int)) := by exact rfl) (hz : xo32 u v = z := by exact rfl) : Vl P n l o (.int .u32 (z.toNat : Int)) := fun _ _ hF => opXorW ho (hF.vo hx) (hF.vo hy) hz
theorem Vl.ow (z : UInt32) (ho : o.op = .binOp .or t x y t2 := by exact rfl) (hx : vo l x = some (.int .u32 (u.toNat : Int)) := by exact rfl) (hy : vo l y = some (.int .u32 (v.toNat : Int)) := by exact rfl) (hz : or32 u v = z := by exact rfl) : Vl P n l o (.int .u32 (z.toNat : Int)) := fun _ _ hF => opOrW ho (hF.vo hx) (hF.vo hy) hz
theorem Vl.nw (z : UInt32) (ho : o.op = .binOp .and t x y t2 := by exact rfl) (hx : vo l x = some (.int .u32 (u.toNat : Int)) := by exact rfl) (hy : vo l y = some (.int .u32 (v.toNat : Int)) := by exact rfl) (hz : and32 u v = z := by exact rfl) : Vl P n l o (.int .u32 (z.toNat : Int)) := fun _ _ hF => opAndW ho (hF.vo hx) (hF.vo hy) hz
theorem Vl.cw (ho : o.op = .unOp .xor t x := by exact rfl) (hx : vo l x = some (.int .u32 (u.toNat : Int)) := by exact rfl) : Vl P n l o (.int .u32 ((not32 u).toNat : Int)) := fun _ _ hF => opNotW ho (hF.vo hx) rfl
theorem Vl.lw (q : Nat) (ho : o.op = .binOp .shl t x y t2 := by exact rfl) (hx : vo l x = some (.int .u32 (u.toNat : Int)) := by exact rfl) (hy : vo l y = some (.int k (q : Int)) := by exact rfl) (hq : q ≤ 32 := by omega) : Vl P n l o (.int .u32 ((sl32 u q).toNat : Int)) := fun _ _ hF => opShlW ho (hF.vo hx) (hF.vo hy) hq rfl
theorem Vl.rw (q : Nat) (ho : o.op = .binOp .shr t x y t2 := by exact rfl) (hx : vo l x = some (.int .u32 (u.toNat : Int)) := by exact rfl) (hy : vo l y = some (.int k (q : Int)) := by exact rfl) (hq : q ≤ 32 := by omega) : Vl P n l o (.int .u32 ((sr32 u q).toNat : Int)) := fun _ _ hF => opShrW ho (hF.vo hx) (hF.vo hy) hq rfl
end
end Go.Proofs.YtfloiekaiiapnaaGreatDoor

namespace Go.Proofs.YtfloiekaiiapnaaGreatDoor
open Go Go.RowKit Go.ChangeShapes Go.WideShapes Go.ChangeAt
set_option maxRecDepth 100000

theorem mixedOrders : Tryz.prog.follows .mixedOrders = true := by kernel_rfl
theorem undB : Tryz.prog.underlying 23 = some (.slice 5) := by kernel_rfl
theorem own : ownKnob Tryz.prog.godebug = none := by kernel_rfl
theorem laidOut : laidOutB Tryz.prog = true := by kernel_rfl
theorem undBool : Tryz.prog.underlying 4 = some .bool := by kernel_rfl
end Go.Proofs.YtfloiekaiiapnaaGreatDoor

namespace Go.Proofs.YtfloiekaiiapnaaGreatDoor
open Go Go.RowKit
set_option maxRecDepth 100000

set_option maxHeartbeats 8000000 in
theorem rotl_c (x : UInt32) (n : Nat) (h0 : 0 < n) (h32 : n < 32) : Pure Tryz.prog 107 #[(.int .u32 (((x.toNat) : Nat) : Int)), (.int .i64 (-(n : Int)))] (fun _ => True) (.int .u32 ((((rr32 x n).toNat) : Nat) : Int)) := by
  refine pure_of (fn := Tryz.f107) Tryz.func107 rfl Tryz.ntmps107 (Nat.le_of_ble_eq_true rfl) rfl ?_
  intro w0 hH hR
  refine zr ?_
  refine zv .mv 0 ?_
  refine zn ?_
  refine zr ?_
  refine zv .mv 5 ?_
  refine zv (v := (.int .u64 (((18446744073709551616 - n) : Nat) : Int))) (fun _ _ hF => opConvI (k' := .u64) rfl (by kernel_rfl) (by kernel_rfl) (hF.ev 0 rfl) (wrap_neg64 h0 (by omega))) 1 ?_
  refine zv (v := (.int .u64 (((32 - n) : Nat) : Int))) (fun _ _ hF => opAndU (m := 18446744073709551616 - n) (j := 31) (z := (32 - n)) rfl rfl (hF.ev 0 rfl) rfl (by show _ < 18446744073709551616; omega) (by decide) (by rw [show (31 : Nat) = 2 ^ 5 - 1 from rfl, and_mask]; omega)) 1 ?_
  refine zv .mv 1 ?_
  refine zn ?_
  refine zr ?_
  refine zv .mv 0 ?_
  refine zv .mv 0 ?_
  refine zv (.lw (32 - n)) 3 ?_
  refine zv .mv 4 ?_
  refine zv .mv 4 ?_
  refine zv (v := (.int .u64 (((n) : Nat) : Int))) (fun _ _ hF => opSubU (m := 32) (j := 32 - n) (z := n) rfl rfl rfl (hF.ev 0 rfl) (by show 32 - n ≤ 18446744073709551616; omega) (by show (32 + (18446744073709551616 - (32 - n))) % 18446744073709551616 = _; omega)) 1 ?_
  refine zv (.rw n) 3 ?_
  refine zv (.ow (rr32 x n) (hz := rr32_or x n)) 3 ?_
  refine zv .mv 1 ?_
  refine zn ?_
  refine cxRet ?_
  refine qxRet1 0 rfl rfl ?_
  exact ⟨rfl, HH.toBelow hH⟩

set_option maxHeartbeats 8000000 in
theorem rotr_c (x : UInt32) (n : Nat) (h0 : 0 < n) (h32 : n < 32) : Pure Tryz.prog 101 #[(.int .u32 (((x.toNat) : Nat) : Int)), (.int .i64 (((n) : Nat) : Int))] (fun _ => True) (.int .u32 ((((rr32 x n).toNat) : Nat) : Int)) := by
  refine pure_of (fn := Tryz.f101) Tryz.func101 rfl Tryz.ntmps101 (Nat.le_of_ble_eq_true rfl) rfl ?_
  intro w0 hH hR
  refine zr ?_
  refine zv .mv 0 ?_
  refine zn ?_
  refine zr ?_
  refine zv .mv 3 ?_
  refine zv .mv 2 ?_
  refine zv (v := (.int .i64 (-(((n) : Nat) : Int)))) (fun _ _ hF => opNegI rfl (hF.ev 0 rfl) (wI (by omega) (by omega) (by omega))) 1 ?_
  refine zc Tryz.func107 (rotl_c x n h0 h32) trivial hH 3 ?_
  clear hH
  intro w hH
  refine zv .mv 1 ?_
  refine zn ?_
  refine cxRet ?_
  refine qxRet1 0 rfl rfl ?_
  exact ⟨rfl, HH.toBelow hH⟩

set_option maxHeartbeats 8000000 in
theorem big0_32_c (x : UInt32) : Pure Tryz.prog 90 #[(.int .u32 (((x.toNat) : Nat) : Int))] (fun _ => True) (.int .u32 ((((big0_32 x).toNat) : Nat) : Int)) := by
  refine pure_of (fn := Tryz.f90) Tryz.func90 rfl Tryz.ntmps90 (Nat.le_of_ble_eq_true rfl) rfl ?_
  intro w0 hH hR
  refine zr ?_
  refine zv .mv 0 ?_
  refine zn ?_
  refine zr ?_
  refine zv .mv 1 ?_
  refine zc Tryz.func101 (rotr_c x 2 (ltb rfl) (ltb rfl)) trivial hH 1 ?_
  clear hH
  intro w hH
  refine zv .mv 0 ?_
  refine zc Tryz.func101 (rotr_c x 13 (ltb rfl) (ltb rfl)) trivial hH 1 ?_
  clear hH
  intro w hH
  refine zv (.xw (xo32 (rr32 x 2) (rr32 x 13))) 3 ?_
  refine zv .mv 2 ?_
  refine zc Tryz.func101 (rotr_c x 22 (ltb rfl) (ltb rfl)) trivial hH 1 ?_
  clear hH
  intro w hH
  refine zv (.xw (xo32 (xo32 (rr32 x 2) (rr32 x 13)) (rr32 x 22))) 3 ?_
  refine zv .mv 1 ?_
  refine zn ?_
  refine cxRet ?_
  refine qxRet1 0 rfl rfl ?_
  exact ⟨rfl, HH.toBelow hH⟩

set_option maxHeartbeats 8000000 in
theorem big1_32_c (x : UInt32) : Pure Tryz.prog 89 #[(.int .u32 (((x.toNat) : Nat) : Int))] (fun _ => True) (.int .u32 ((((big1_32 x).toNat) : Nat) : Int)) := by
  refine pure_of (fn := Tryz.f89) Tryz.func89 rfl Tryz.ntmps89 (Nat.le_of_ble_eq_true rfl) rfl ?_
  intro w0 hH hR
  refine zr ?_
  refine zv .mv 0 ?_
  refine zn ?_
  refine zr ?_
  refine zv .mv 1 ?_
  refine zc Tryz.func101 (rotr_c x 6 (ltb rfl) (ltb rfl)) trivial hH 1 ?_
  clear hH
  intro w hH
  refine zv .mv 0 ?_
  refine zc Tryz.func101 (rotr_c x 11 (ltb rfl) (ltb rfl)) trivial hH 1 ?_
  clear hH
  intro w hH
  refine zv (.xw (xo32 (rr32 x 6) (rr32 x 11))) 3 ?_
  refine zv .mv 2 ?_
  refine zc Tryz.func101 (rotr_c x 25 (ltb rfl) (ltb rfl)) trivial hH 1 ?_
  clear hH
  intro w hH
  refine zv (.xw (xo32 (xo32 (rr32 x 6) (rr32 x 11)) (rr32 x 25))) 3 ?_
  refine zv .mv 1 ?_
  refine zn ?_
  refine cxRet ?_
  refine qxRet1 0 rfl rfl ?_
  exact ⟨rfl, HH.toBelow hH⟩

set_option maxHeartbeats 8000000 in
theorem sml0_32_c (x : UInt32) : Pure Tryz.prog 100 #[(.int .u32 (((x.toNat) : Nat) : Int))] (fun _ => True) (.int .u32 ((((sml0_32 x).toNat) : Nat) : Int)) := by
  refine pure_of (fn := Tryz.f100) Tryz.func100 rfl Tryz.ntmps100 (Nat.le_of_ble_eq_true rfl) rfl ?_
  intro w0 hH hR
  refine zr ?_
  refine zv .mv 0 ?_
  refine zn ?_
  refine zr ?_
  refine zv .mv 1 ?_
  refine zc Tryz.func101 (rotr_c x 7 (ltb rfl) (ltb rfl)) trivial hH 1 ?_
  clear hH
  intro w hH
  refine zv .mv 0 ?_
  refine zc Tryz.func101 (rotr_c x 18 (ltb rfl) (ltb rfl)) trivial hH 1 ?_
  clear hH
  intro w hH
  refine zv (.xw (xo32 (rr32 x 7) (rr32 x 18))) 3 ?_
  refine zv .mv 2 ?_
  refine zv (.rw 3) 1 ?_
  refine zv (.xw (xo32 (xo32 (rr32 x 7) (rr32 x 18)) (sr32 x 3))) 3 ?_
  refine zv .mv 1 ?_
  refine zn ?_
  refine cxRet ?_
  refine qxRet1 0 rfl rfl ?_
  exact ⟨rfl, HH.toBelow hH⟩

set_option maxHeartbeats 8000000 in
theorem sml1_32_c (x : UInt32) : Pure Tryz.prog 99 #[(.int .u32 (((x.toNat) : Nat) : Int))] (fun _ => True) (.int .u32 ((((sml1_32 x).toNat) : Nat) : Int)) := by
  refine pure_of (fn := Tryz.f99) Tryz.func99 rfl Tryz.ntmps99 (Nat.le_of_ble_eq_true rfl) rfl ?_
  intro w0 hH hR
  refine zr ?_
  refine zv .mv 0 ?_
  refine zn ?_
  refine zr ?_
  refine zv .mv 1 ?_
  refine zc Tryz.func101 (rotr_c x 17 (ltb rfl) (ltb rfl)) trivial hH 1 ?_
  clear hH
  intro w hH
  refine zv .mv 0 ?_
  refine zc Tryz.func101 (rotr_c x 19 (ltb rfl) (ltb rfl)) trivial hH 1 ?_
  clear hH
  intro w hH
  refine zv (.xw (xo32 (rr32 x 17) (rr32 x 19))) 3 ?_
  refine zv .mv 2 ?_
  refine zv (.rw 10) 1 ?_
  refine zv (.xw (xo32 (xo32 (rr32 x 17) (rr32 x 19)) (sr32 x 10))) 3 ?_
  refine zv .mv 1 ?_
  refine zn ?_
  refine cxRet ?_
  refine qxRet1 0 rfl rfl ?_
  exact ⟨rfl, HH.toBelow hH⟩

set_option maxHeartbeats 8000000 in
theorem words_c (b : Nat → UInt8) : Pure Tryz.prog 88 #[((cArr 64).val b)] (fun _ => True) ((cWs 64).val (W32 b)) := by
  refine pure_of (fn := Tryz.f88) Tryz.func88 rfl Tryz.ntmps88 (Nat.le_of_ble_eq_true rfl) rfl ?_
  intro w0 hH hR
  refine zr ?_
  refine zm hH (.bx (cArr 64) b) trivial 1 ?_
  clear hH
  rintro _ _ w ⟨g1, rfl, rfl⟩ hH
  refine zm hH (.al (cWs 64) (fun _ => 0)) trivial 0 ?_
  clear hH
  rintro _ _ w ⟨g2, rfl, rfl⟩ hH
  refine zn ?_
  refine zr ?_
  refine zm hH (.al (cWs 64) (fun _ => 0)) trivial 0 ?_
  clear hH
  rintro _ _ w ⟨g3, rfl, rfl⟩ hH
  refine zn ?_
  refine cxSeq ?_
  have he4 : (cWs 64).enc (pr32 b 0) = (cWs 64).enc (fun _ => 0) := vec_congr (fun i _ => by rw [pr32_zero])
  replace hH : HH w0 [] [[bl g1 104 ((cArr 64).enc b)], [bl g2 125 ((cWs 64).enc (fun _ => 0))], [bl g3 125 ((cWs 64).enc (pr32 b 0))]] w := by rw [he4]; exact hH
  refine zr ?_
  refine zs (hH.q 0 rfl) (.ld (cArr 64) b (fun _ hS => (holds_blk0 hS))) 4 ?_
  refine zv .mv 0 ?_
  refine zn ?_
  refine cxBlock ?_
  refine zL1 (fun (m : Nat) => [(8, (.int .i64 (((m) : Nat) : Int))), (7, ((cArr 64).val b)), (3, (.pointer (some ⟨g3, 0, none⟩))), (2, (.pointer (some ⟨g2, 0, none⟩)))]) (fun m w => HH w0 [] [[bl g1 104 ((cArr 64).enc b)], [bl g2 125 ((cWs 64).enc (fun _ => 0))], [bl g3 125 ((cWs 64).enc (pr32 b m))]] w ∧ (m ≤ 64)) (fun m => 64 - m) 0 ⟨hH, (Nat.zero_le _)⟩ ?_
  clear hH
  rintro m w ⟨hH, hm⟩
  refine zr ?_
  refine zv (.lt (m < 64)) 0 ?_
  refine zn ?_
  refine cxSeq ?_
  refine zP (fun hc5 => ?_) (fun hc5 => ?_)
  refine cxSkip ?_
  refine qxThen ?_
  refine cxSeq ?_
  refine cxBlock ?_
  refine zr ?_
  refine zv .mv 1 ?_
  have hi6 : m < 64 := by omega
  refine zv (v := (.int .u8 ((((b m).toNat) : Nat) : Int))) (fun _ _ hF => opIdxA (S := sBy) (e := 5) (n := 64) (i := m) (f := b) rfl (by kernel_rfl) (by kernel_rfl) (hF.ev 2 rfl) (hF.ev 1 rfl) rfl hi6) 0 ?_
  refine zv .mv 2 ?_
  refine zv .mv 2 ?_
  refine zn ?_
  refine cxReg ?_
  refine zv .mv 0 ?_
  refine zv (v := (.int .i64 (((m / 4) : Nat) : Int))) (fun _ _ hF => opQuo (z := ((m / 4 : Nat) : Int)) rfl (hF.ev 0 rfl) rfl (by omega) (wI quoN (by omega) (by omega))) 1 ?_
  refine zv .mv 4 ?_
  refine zv (v := (.int .i64 (((m / 4) : Nat) : Int))) (fun _ _ hF => opQuo (z := ((m / 4 : Nat) : Int)) rfl (hF.ev 0 rfl) rfl (by omega) (wI quoN (by omega) (by omega))) 1 ?_
  have hi7 : m / 4 < 64 := by omega
  refine zv (.ia 1 64 (m / 4) (hi := hi7)) 1 ?_
  refine zs (hH.q 2 rfl) (.ld cWd ((pr32 b m) (m / 4)) (fun _ hS => ((holds_blk0 hS).eltV hi7))) 1 ?_
  refine zv (.lw 8) 1 ?_
  refine zv .mv 4 ?_
  refine zv (v := (.int .u32 ((((UInt32.ofNat (b m).toNat).toNat) : Nat) : Int))) (fun _ _ hF => opConvW (z := UInt32.ofNat (b m).toNat) rfl rfl (by kernel_rfl) (hF.ev 0 rfl) rfl) 1 ?_
  refine zv (.ow (pr32 b (m + 1) (m / 4)) (hz := pr32_step b m (m / 4) rfl)) 3 ?_
  have hi8 : m / 4 < 64 := by omega
  refine zv (.ia 1 64 (m / 4) (hi := hi8)) 2 ?_
  refine ze0 2 hH rfl (.st cWd (pr32 b (m + 1) (m / 4)) (room_1 (S := sWd) (C := (cWs 64)) rfl hi8) (vec_set0 (pr32 b m) (pr32 b (m + 1) (m / 4)) hi8)) trivial ?_
  clear hH
  rintro _ _ w rfl hH
  refine pxEnd ?_
  refine qxInN ?_
  refine qxThen ?_
  refine cxReg ?_
  refine zv (.add ((m + 1 : Nat) : Int)) 7 ?_
  refine zv .mv 1 ?_
  refine pxEnd ?_
  have he9 : (cWs 64).enc (pr32 b (m + 1)) = (cWs 64).enc (stF (pr32 b m) (m / 4) (pr32 b (m + 1) (m / 4))) := vec_congr (fun i _ => (congrFun (pr32_set b m (m / 4) _ rfl rfl) i).symm)
  replace hH : HH w0 [] [[bl g1 104 ((cArr 64).enc b)], [bl g2 125 ((cWs 64).enc (fun _ => 0))], [bl g3 125 ((cWs 64).enc (pr32 b (m + 1)))]] w := by rw [he9]; exact hH
  exact zR1 (m + 1) ⟨hH, (by omega)⟩ (by omega)
  refine cxExit ?_
  refine qxThenE ?_
  refine qxThenE ?_
  refine qxInE ?_
  refine qxThen ?_
  refine cxSeq ?_
  obtain rfl : m = 64 := by omega
  have he10 : (cWs 64).enc (upF 16 (W32 b) (pr32 b 64)) = (cWs 64).enc (pr32 b 64) := vec_congr (fun i _ => by rw [up_first])
  replace hH : HH w0 [] [[bl g1 104 ((cArr 64).enc b)], [bl g2 125 ((cWs 64).enc (fun _ => 0))], [bl g3 125 ((cWs 64).enc (upF 16 (W32 b) (pr32 b 64)))]] w := by rw [he10]; exact hH
  refine zr ?_
  refine zv .mv 7 ?_
  refine zn ?_
  refine cxBlock ?_
  refine zL1 (fun (t : Nat) => [(6, (.int .i64 (((t) : Nat) : Int))), (3, (.pointer (some ⟨g3, 0, none⟩))), (2, (.pointer (some ⟨g2, 0, none⟩)))]) (fun t w => HH w0 [] [[bl g1 104 ((cArr 64).enc b)], [bl g2 125 ((cWs 64).enc (fun _ => 0))], [bl g3 125 ((cWs 64).enc (upF t (W32 b) (pr32 b 64)))]] w ∧ (16 ≤ t) ∧ (t ≤ 64)) (fun t => 64 - t) 16 ⟨hH, (Nat.le_refl _), (by decide)⟩ ?_
  clear hH
  rintro t w ⟨hH, h16, ht⟩
  refine cxSeq ?_
  refine zr ?_
  refine zv .mv 0 ?_
  refine zv (.lt (t < 64)) 1 ?_
  refine zn ?_
  refine zP (fun hc11 => ?_) (fun hc11 => ?_)
  refine cxSkip ?_
  refine qxThen ?_
  refine cxSeq ?_
  refine cxBlock ?_
  refine cxRegX mixedOrders (by kernel_rfl) ?_
  replace hH := hH.drew
  refine rv 0 .mv 1 ?_
  refine rv 1 .mv 0 ?_
  refine rv 2 (.sub (((t - 2) : Nat) : Int)) 1 ?_
  have hi12 : t - 2 < 64 := by omega
  refine rv 3 (.ia 1 64 (t - 2) (hi := hi12)) 1 ?_
  refine rld 4 (hH.q 2 rfl) (.ld cWd ((upF t (W32 b) (pr32 b 64)) (t - 2)) (fun _ hS => ((holds_blk0 hS).eltV hi12))) 1 ?_
  refine rv 6 .mv 0 ?_
  refine rv 7 (.sub (((t - 7) : Nat) : Int)) 1 ?_
  have hi13 : t - 7 < 64 := by omega
  refine rv 8 (.ia 1 64 (t - 7) (hi := hi13)) 1 ?_
  refine rld 9 (hH.q 2 rfl) (.ld cWd ((upF t (W32 b) (pr32 b 64)) (t - 7)) (fun _ hS => ((holds_blk0 hS).eltV hi13))) 1 ?_
  refine rv 11 .mv 0 ?_
  refine rv 12 (.sub (((t - 15) : Nat) : Int)) 1 ?_
  have hi14 : t - 15 < 64 := by omega
  refine rv 13 (.ia 1 64 (t - 15) (hi := hi14)) 1 ?_
  refine rld 14 (hH.q 2 rfl) (.ld cWd ((upF t (W32 b) (pr32 b 64)) (t - 15)) (fun _ hS => ((holds_blk0 hS).eltV hi14))) 1 ?_
  refine rv 17 .mv 0 ?_
  refine rv 18 (.sub (((t - 16) : Nat) : Int)) 1 ?_
  have hi15 : t - 16 < 64 := by omega
  refine rv 19 (.ia 1 64 (t - 16) (hi := hi15)) 1 ?_
  refine rld 20 (hH.q 2 rfl) (.ld cWd ((upF t (W32 b) (pr32 b 64)) (t - 16)) (fun _ hS => ((holds_blk0 hS).eltV hi15))) 1 ?_
  refine rx1k 5 (rpc 5 Tryz.func99 (sml1_32_c ((upF t (W32 b) (pr32 b 64)) (t - 2))) trivial hH 8 (.keep (.keep (.keep (pgo [] (.nil _ []))))) ?_)
  clear hH
  intro w hH
  refine ⟨pcons (hH.blk 2 rfl) (pcons (hH.blk 2 rfl) (pcons (hH.blk 2 rfl) pnil)), ?_⟩
  refine rv 10 (.aw (pl32 (sml1_32 ((upF t (W32 b) (pr32 b 64)) (t - 2))) ((upF t (W32 b) (pr32 b 64)) (t - 7)))) 9 ?_
  refine rx1k 15 (rpc 15 Tryz.func100 (sml0_32_c ((upF t (W32 b) (pr32 b 64)) (t - 15))) trivial hH 4 (.keep (pgo [] (.keep (.nil _ [])))) ?_)
  clear hH
  intro w hH
  refine ⟨pcons (hH.blk 2 rfl) (pcons (hH.blk 2 rfl) pnil), ?_⟩
  refine rv 16 (.aw (pl32 (pl32 (sml1_32 ((upF t (W32 b) (pr32 b 64)) (t - 2))) ((upF t (W32 b) (pr32 b 64)) (t - 7))) (sml0_32 ((upF t (W32 b) (pr32 b 64)) (t - 15))))) 3 ?_
  refine rv 21 (.aw (pl32 (pl32 (pl32 (sml1_32 ((upF t (W32 b) (pr32 b 64)) (t - 2))) ((upF t (W32 b) (pr32 b 64)) (t - 7))) (sml0_32 ((upF t (W32 b) (pr32 b 64)) (t - 15)))) ((upF t (W32 b) (pr32 b 64)) (t - 16)))) 3 ?_
  have hi16 : t < 64 := by omega
  refine rv 22 (.ia 1 64 t (hi := hi16)) 2 ?_
  refine rx1k 23 ?_
  refine re0 23 2 hH rfl (.st cWd (pl32 (pl32 (pl32 (sml1_32 ((upF t (W32 b) (pr32 b 64)) (t - 2))) ((upF t (W32 b) (pr32 b 64)) (t - 7))) (sml0_32 ((upF t (W32 b) (pr32 b 64)) (t - 15)))) ((upF t (W32 b) (pr32 b 64)) (t - 16))) (room_1 (S := sWd) (C := (cWs 64)) rfl hi16) (vec_set0 (upF t (W32 b) (pr32 b 64)) (pl32 (pl32 (pl32 (sml1_32 ((upF t (W32 b) (pr32 b 64)) (t - 2))) ((upF t (W32 b) (pr32 b 64)) (t - 7))) (sml0_32 ((upF t (W32 b) (pr32 b 64)) (t - 15)))) ((upF t (W32 b) (pr32 b 64)) (t - 16))) hi16)) trivial (pgo [] (pgo [] (.nil _ []))) ?_
  clear hH
  rintro _ _ w rfl hH
  refine ⟨pnil, ?_⟩
  refine rxEnd (by kernel_rfl) ?_
  refine qxInN ?_
  refine qxThen ?_
  refine cxReg ?_
  refine zv .mv 7 ?_
  refine zv (.add ((t + 1 : Nat) : Int)) 1 ?_
  refine zv .mv 1 ?_
  refine pxEnd ?_
  have he17 : (cWs 64).enc (upF (t + 1) (W32 b) (pr32 b 64)) = (cWs 64).enc (stF (upF t (W32 b) (pr32 b 64)) t (pl32 (pl32 (pl32 (sml1_32 ((upF t (W32 b) (pr32 b 64)) (t - 2))) ((upF t (W32 b) (pr32 b 64)) (t - 7))) (sml0_32 ((upF t (W32 b) (pr32 b 64)) (t - 15)))) ((upF t (W32 b) (pr32 b 64)) (t - 16)))) := vec_congr (fun i _ => (congrFun (upF_step t (W32 b) (pr32 b 64) (up_word h16)) i).symm)
  replace hH : HH w0 [] [[bl g1 104 ((cArr 64).enc b)], [bl g2 125 ((cWs 64).enc (fun _ => 0))], [bl g3 125 ((cWs 64).enc (upF (t + 1) (W32 b) (pr32 b 64)))]] w := by rw [he17]; exact hH
  exact zR1 (t + 1) ⟨hH, (by omega), (by omega)⟩ (by omega)
  refine cxExit ?_
  refine qxThenE ?_
  refine qxThenE ?_
  refine qxInE ?_
  refine qxThen ?_
  obtain rfl : t = 64 := by omega
  have he18 : (cWs 64).enc (W32 b) = (cWs 64).enc (upF 64 (W32 b) (pr32 b 64)) := vec_congr (fun i hi => (upF_lt _ _ hi).symm)
  replace hH : HH w0 [] [[bl g1 104 ((cArr 64).enc b)], [bl g2 125 ((cWs 64).enc (fun _ => 0))], [bl g3 125 ((cWs 64).enc (W32 b))]] w := by rw [he18]; exact hH
  refine zr ?_
  refine zs (hH.q 2 rfl) (.ld (cWs 64) (W32 b) (fun _ hS => (holds_blk0 hS))) 7 ?_
  refine ze0 1 hH rfl (.sw (cWs 64) (fun _ => 0) (W32 b)) trivial ?_
  clear hH
  rintro _ _ w rfl hH
  refine zn ?_
  refine cxRet ?_
  refine qxRetC 1 (hH.blk 1 rfl) rfl rfl (by kernel_rfl) (Cod.size _ _) (by kernel_rfl) ?_
  exact ⟨rfl, HH.toBelow hH⟩

set_option maxHeartbeats 8000000 in
theorem bytes_c (s : Nat → UInt32) : Pure Tryz.prog 77 #[((cWs 8).val s)] (fun _ => True) ((cArr 32).val (out32 s)) := by
  refine pure_of (fn := Tryz.f77) Tryz.func77 rfl Tryz.ntmps77 (Nat.le_of_ble_eq_true rfl) rfl ?_
  intro w0 hH hR
  refine zr ?_
  refine zm hH (.bx (cWs 8) s) trivial 1 ?_
  clear hH
  rintro _ _ w ⟨g1, rfl, rfl⟩ hH
  refine zm hH (.al (cArr 32) (fun _ => 0)) trivial 0 ?_
  clear hH
  rintro _ _ w ⟨g2, rfl, rfl⟩ hH
  refine zn ?_
  refine zr ?_
  refine zm hH (.al (cArr 32) (fun _ => 0)) trivial 0 ?_
  clear hH
  rintro _ _ w ⟨g3, rfl, rfl⟩ hH
  refine zn ?_
  refine cxSeq ?_
  have he4 : (cArr 32).enc (upF 0 (out32 s) (fun _ => 0)) = (cArr 32).enc (fun _ => 0) := arr_congr (fun i _ => by rw [upF_zero])
  replace hH : HH w0 [] [[bl g1 115 ((cWs 8).enc s)], [bl g2 22 ((cArr 32).enc (fun _ => 0))], [bl g3 22 ((cArr 32).enc (upF 0 (out32 s) (fun _ => 0)))]] w := by rw [he4]; exact hH
  refine zr ?_
  refine zv .mv 0 ?_
  refine zn ?_
  refine cxBlock ?_
  refine zL1 (fun (m : Nat) => [(5, (.int .i64 (((m) : Nat) : Int))), (3, (.pointer (some ⟨g3, 0, none⟩))), (2, (.pointer (some ⟨g2, 0, none⟩))), (1, (.pointer (some ⟨g1, 0, none⟩)))]) (fun m w => HH w0 [] [[bl g1 115 ((cWs 8).enc s)], [bl g2 22 ((cArr 32).enc (fun _ => 0))], [bl g3 22 ((cArr 32).enc (upF m (out32 s) (fun _ => 0)))]] w ∧ (m ≤ 32)) (fun m => 32 - m) 0 ⟨hH, (Nat.zero_le _)⟩ ?_
  clear hH
  rintro m w ⟨hH, hm⟩
  refine zr ?_
  refine zv (.lt (m < 32)) 0 ?_
  refine zn ?_
  refine cxSeq ?_
  refine zP (fun hc5 => ?_) (fun hc5 => ?_)
  refine cxSkip ?_
  refine qxThen ?_
  refine cxSeq ?_
  refine cxBlock ?_
  refine zr ?_
  refine zv .mv 1 ?_
  refine zv .mv 1 ?_
  refine zn ?_
  refine cxReg ?_
  refine zv .mv 0 ?_
  refine zv .mv 0 ?_
  refine zv (v := (.int .i64 (((m / 4) : Nat) : Int))) (fun _ _ hF => opQuo (z := ((m / 4 : Nat) : Int)) rfl (hF.ev 0 rfl) rfl (by omega) (wI quoN (by omega) (by omega))) 1 ?_
  have hi6 : m / 4 < 8 := by omega
  refine zv (.ia 1 8 (m / 4) (hi := hi6)) 1 ?_
  refine zs (hH.q 0 rfl) (.ld cWd (s (m / 4)) (fun _ hS => ((holds_blk0 hS).eltV hi6))) 1 ?_
  refine zv .mv 4 ?_
  refine zv (v := (.int .i64 (((m % 4) : Nat) : Int))) (fun _ _ hF => opRem (z := ((m % 4 : Nat) : Int)) rfl (hF.ev 0 rfl) rfl (by omega) remN) 1 ?_
  refine zv (.mul (((m % 4) * 8 : Nat) : Int)) 1 ?_
  refine zv (.sub (((24 - m % 4 * 8) : Nat) : Int)) 1 ?_
  refine zv (.rw (24 - m % 4 * 8)) 3 ?_
  refine zv .cb 1 ?_
  have hi7 : m < 32 := by omega
  refine zv (.ia 1 32 m (hi := hi7)) 2 ?_
  refine ze0 2 hH rfl (.st cByte (UInt8.ofNat ((sr32 (s (m / 4)) (24 - m % 4 * 8)).toNat)) (room_1 (S := sBy) (C := (cArr 32)) rfl hi7) (arr_set0 (upF m (out32 s) (fun _ => 0)) (UInt8.ofNat ((sr32 (s (m / 4)) (24 - m % 4 * 8)).toNat)) hi7)) trivial ?_
  clear hH
  rintro _ _ w rfl hH
  refine pxEnd ?_
  refine qxInN ?_
  refine qxThen ?_
  refine cxReg ?_
  refine zv (.add ((m + 1 : Nat) : Int)) 7 ?_
  refine zv .mv 1 ?_
  refine pxEnd ?_
  have he8 : (cArr 32).enc (upF (m + 1) (out32 s) (fun _ => 0)) = (cArr 32).enc (stF (upF m (out32 s) (fun _ => 0)) m (UInt8.ofNat ((sr32 (s (m / 4)) (24 - m % 4 * 8)).toNat))) := arr_congr (fun i _ => (congrFun (upF_step m (out32 s) (fun _ => 0) (out32_at s m)) i).symm)
  replace hH : HH w0 [] [[bl g1 115 ((cWs 8).enc s)], [bl g2 22 ((cArr 32).enc (fun _ => 0))], [bl g3 22 ((cArr 32).enc (upF (m + 1) (out32 s) (fun _ => 0)))]] w := by rw [he8]; exact hH
  exact zR1 (m + 1) ⟨hH, (by omega)⟩ (by omega)
  refine cxExit ?_
  refine qxThenE ?_
  refine qxThenE ?_
  refine qxInE ?_
  refine qxThen ?_
  obtain rfl : m = 32 := by omega
  have he9 : (cArr 32).enc (out32 s) = (cArr 32).enc (upF 32 (out32 s) (fun _ => 0)) := arr_congr (fun i hi => (upF_lt _ _ hi).symm)
  replace hH : HH w0 [] [[bl g1 115 ((cWs 8).enc s)], [bl g2 22 ((cArr 32).enc (fun _ => 0))], [bl g3 22 ((cArr 32).enc (out32 s))]] w := by rw [he9]; exact hH
  refine zr ?_
  refine zs (hH.q 2 rfl) (.ld (cArr 32) (out32 s) (fun _ hS => (holds_blk0 hS))) 23 ?_
  refine ze0 1 hH rfl (.sw (cArr 32) (fun _ => 0) (out32 s)) trivial ?_
  clear hH
  rintro _ _ w rfl hH
  refine zn ?_
  refine cxRet ?_
  refine qxRetC 1 (hH.blk 1 rfl) rfl rfl (by kernel_rfl) (Cod.size _ _) (by kernel_rfl) ?_
  exact ⟨rfl, HH.toBelow hH⟩
end Go.Proofs.YtfloiekaiiapnaaGreatDoor

namespace Go.Proofs.YtfloiekaiiapnaaGreatDoor
open Go Go.RowKit
set_option maxRecDepth 100000

set_option maxHeartbeats 8000000 in
theorem take_c (s : Nat → UInt32) (b : Nat → UInt8) : Pure Tryz.prog 75 #[((cWs 8).val s), ((cArr 64).val b)] (fun w => w.heap[1]? = some (.cells ((cWs 64).enc K32) 125 (0, 0))) ((cWs 8).val (comp32 b s)) := by
  refine pure_of (fn := Tryz.f75) Tryz.func75 rfl Tryz.ntmps75 (Nat.le_of_ble_eq_true rfl) rfl ?_
  intro w0 hH hR
  refine zr ?_
  refine zm hH (.bx (cWs 8) s) trivial 1 ?_
  clear hH
  rintro _ _ w ⟨g1, rfl, rfl⟩ hH
  refine zm hH (.bx (cArr 64) b) trivial 2 ?_
  clear hH
  rintro _ _ w ⟨g2, rfl, rfl⟩ hH
  refine zm hH (.al (cWs 8) (fun _ => 0)) trivial 0 ?_
  clear hH
  rintro _ _ w ⟨g3, rfl, rfl⟩ hH
  refine zn ?_
  refine zr ?_
  refine zs (hH.q 1 rfl) (.ld (cArr 64) b (fun _ hS => (holds_blk0 hS))) 2 ?_
  refine zc Tryz.func88 (words_c b) trivial hH 1 ?_
  clear hH
  intro w hH
  refine zm hH (.al (cWs 64) (fun _ => 0)) trivial 0 ?_
  clear hH
  rintro _ _ w ⟨g4, rfl, rfl⟩ hH
  refine ze0 3 hH rfl (.sw (cWs 64) (fun _ => 0) (W32 b)) trivial ?_
  clear hH
  rintro _ _ w rfl hH
  refine zn ?_
  refine zx ?_
  replace hH := hH.drew
  have hi5 : 0 < 8 := by omega
  refine rv 0 (.ia 1 8 0 (hi := hi5)) 2 ?_
  refine rld 1 (hH.q 0 rfl) (.ld cWd (s 0) (fun _ hS => ((holds_blk0 hS).eltV hi5))) 1 ?_
  have hi6 : 1 < 8 := by omega
  refine rv 2 (.ia 1 8 1 (hi := hi6)) 0 ?_
  refine rld 3 (hH.q 0 rfl) (.ld cWd (s 1) (fun _ hS => ((holds_blk0 hS).eltV hi6))) 1 ?_
  have hi7 : 2 < 8 := by omega
  refine rv 4 (.ia 1 8 2 (hi := hi7)) 0 ?_
  refine rld 5 (hH.q 0 rfl) (.ld cWd (s 2) (fun _ hS => ((holds_blk0 hS).eltV hi7))) 1 ?_
  have hi8 : 3 < 8 := by omega
  refine rv 6 (.ia 1 8 3 (hi := hi8)) 0 ?_
  refine rld 7 (hH.q 0 rfl) (.ld cWd (s 3) (fun _ hS => ((holds_blk0 hS).eltV hi8))) 1 ?_
  have hi9 : 4 < 8 := by omega
  refine rv 8 (.ia 1 8 4 (hi := hi9)) 0 ?_
  refine rld 9 (hH.q 0 rfl) (.ld cWd (s 4) (fun _ hS => ((holds_blk0 hS).eltV hi9))) 1 ?_
  have hi10 : 5 < 8 := by omega
  refine rv 10 (.ia 1 8 5 (hi := hi10)) 0 ?_
  refine rld 11 (hH.q 0 rfl) (.ld cWd (s 5) (fun _ hS => ((holds_blk0 hS).eltV hi10))) 1 ?_
  have hi11 : 6 < 8 := by omega
  refine rv 12 (.ia 1 8 6 (hi := hi11)) 0 ?_
  refine rld 13 (hH.q 0 rfl) (.ld cWd (s 6) (fun _ hS => ((holds_blk0 hS).eltV hi11))) 1 ?_
  have hi12 : 7 < 8 := by omega
  refine rv 14 (.ia 1 8 7 (hi := hi12)) 0 ?_
  refine rld 15 (hH.q 0 rfl) (.ld cWd (s 7) (fun _ hS => ((holds_blk0 hS).eltV hi12))) 1 ?_
  refine rv 16 .mv 128 ?_
  refine rv 17 .mv 128 ?_
  refine rv 18 .mv 128 ?_
  refine rv 19 .mv 128 ?_
  refine rv 20 .mv 128 ?_
  refine rv 21 .mv 128 ?_
  refine rv 22 .mv 128 ?_
  refine rv 23 .mv 128 ?_
  refine rn ?_
  refine cxSeq ?_
  refine zr ?_
  refine zv .mv 0 ?_
  refine zn ?_
  refine cxBlock ?_
  refine zL1 (fun (m : Nat) => [(37, (.int .i64 (((m) : Nat) : Int))), (13, (.int .u32 ((((rnd32 b s m 7).toNat) : Nat) : Int))), (12, (.int .u32 ((((rnd32 b s m 6).toNat) : Nat) : Int))), (11, (.int .u32 ((((rnd32 b s m 5).toNat) : Nat) : Int))), (10, (.int .u32 ((((rnd32 b s m 4).toNat) : Nat) : Int))), (9, (.int .u32 ((((rnd32 b s m 3).toNat) : Nat) : Int))), (8, (.int .u32 ((((rnd32 b s m 2).toNat) : Nat) : Int))), (7, (.int .u32 ((((rnd32 b s m 1).toNat) : Nat) : Int))), (6, (.int .u32 ((((rnd32 b s m 0).toNat) : Nat) : Int))), (5, (.pointer (some ⟨g4, 0, none⟩))), (4, (.pointer (some ⟨g3, 0, none⟩))), (2, (.pointer (some ⟨g1, 0, none⟩)))]) (fun m w => HH w0 [] [[bl g1 115 ((cWs 8).enc s)], [bl g2 104 ((cArr 64).enc b)], [bl g3 115 ((cWs 8).enc (fun _ => 0))], [bl g4 125 ((cWs 64).enc (W32 b))]] w ∧ (m ≤ 64)) (fun m => 64 - m) 0 ⟨hH, (Nat.zero_le _)⟩ ?_
  clear hH
  rintro m w ⟨hH, hm⟩
  refine zr ?_
  refine zv (.lt (m < 64)) 0 ?_
  refine zn ?_
  refine cxSeq ?_
  refine zP (fun hc13 => ?_) (fun hc13 => ?_)
  refine cxSkip ?_
  refine qxThen ?_
  refine cxSeq ?_
  refine cxBlock ?_
  refine zr ?_
  refine zv .mv 1 ?_
  refine zv .mv 1 ?_
  refine zn ?_
  refine zx ?_
  replace hH := hH.drew
  refine rv 0 .mv 4 ?_
  refine rv 1 .mv 0 ?_
  refine rv 4 .mv 0 ?_
  refine rv 5 .mv 0 ?_
  refine rv 6 (.nw (and32 (rnd32 b s m 4) (rnd32 b s m 5))) 3 ?_
  refine rv 7 .mv 0 ?_
  refine rv 8 .cw 1 ?_
  refine rv 9 .mv 0 ?_
  refine rv 10 (.nw (and32 (not32 (rnd32 b s m 4)) (rnd32 b s m 6))) 3 ?_
  refine rv 11 (.xw (xo32 (and32 (rnd32 b s m 4) (rnd32 b s m 5)) (and32 (not32 (rnd32 b s m 4)) (rnd32 b s m 6)))) 3 ?_
  refine rv 13 .mv 0 ?_
  have hi14 : m < 64 := by omega
  refine rv 14 (.ia 1 64 m (hi := hi14)) 1 ?_
  refine rld 15 (hH.ob hR) (.ld cWd (K32 m) (fun _ hS => ((holds_blk0 hS).eltV hi14))) 1 ?_
  refine rv 17 .mv 16 ?_
  have hi15 : m < 64 := by omega
  refine rv 18 (.ia 1 64 m (hi := hi15)) 1 ?_
  refine rld 19 (hH.q 3 rfl) (.ld cWd ((W32 b) m) (fun _ hS => ((holds_blk0 hS).eltV hi15))) 1 ?_
  refine rx1k 2 (rpc 2 Tryz.func89 (big1_32_c (rnd32 b s m 4)) trivial hH 8 (.keep (.keep (.nil _ []))) ?_)
  clear hH
  intro w hH
  refine ⟨pcons (hH.blk 3 rfl) (pcons (hH.oldBlk hR (by simp)) pnil), ?_⟩
  refine rv 3 (.aw (pl32 (rnd32 b s m 7) (big1_32 (rnd32 b s m 4)))) 17 ?_
  refine rv 12 (.aw (pl32 (pl32 (rnd32 b s m 7) (big1_32 (rnd32 b s m 4))) (xo32 (and32 (rnd32 b s m 4) (rnd32 b s m 5)) (and32 (not32 (rnd32 b s m 4)) (rnd32 b s m 6))))) 9 ?_
  refine rv 16 (.aw (pl32 (pl32 (pl32 (rnd32 b s m 7) (big1_32 (rnd32 b s m 4))) (xo32 (and32 (rnd32 b s m 4) (rnd32 b s m 5)) (and32 (not32 (rnd32 b s m 4)) (rnd32 b s m 6)))) (K32 m))) 5 ?_
  refine rv 20 (.aw (pl32 (pl32 (pl32 (pl32 (rnd32 b s m 7) (big1_32 (rnd32 b s m 4))) (xo32 (and32 (rnd32 b s m 4) (rnd32 b s m 5)) (and32 (not32 (rnd32 b s m 4)) (rnd32 b s m 6)))) (K32 m)) ((W32 b) m))) 3 ?_
  refine rv 21 .mv 1 ?_
  refine rn ?_
  refine zr ?_
  refine zv .mv 0 ?_
  refine zc Tryz.func90 (big0_32_c (rnd32 b s m 0)) trivial hH 1 ?_
  clear hH
  intro w hH
  refine zv .mv 0 ?_
  refine zv .mv 0 ?_
  refine zv (.nw (and32 (rnd32 b s m 0) (rnd32 b s m 1))) 3 ?_
  refine zv .mv 0 ?_
  refine zv .mv 0 ?_
  refine zv (.nw (and32 (rnd32 b s m 0) (rnd32 b s m 2))) 3 ?_
  refine zv (.xw (xo32 (and32 (rnd32 b s m 0) (rnd32 b s m 1)) (and32 (rnd32 b s m 0) (rnd32 b s m 2)))) 3 ?_
  refine zv .mv 0 ?_
  refine zv .mv 0 ?_
  refine zv (.nw (and32 (rnd32 b s m 1) (rnd32 b s m 2))) 3 ?_
  refine zv (.xw (xo32 (xo32 (and32 (rnd32 b s m 0) (rnd32 b s m 1)) (and32 (rnd32 b s m 0) (rnd32 b s m 2))) (and32 (rnd32 b s m 1) (rnd32 b s m 2)))) 3 ?_
  refine zv (.aw (pl32 (big0_32 (rnd32 b s m 0)) (xo32 (xo32 (and32 (rnd32 b s m 0) (rnd32 b s m 1)) (and32 (rnd32 b s m 0) (rnd32 b s m 2))) (and32 (rnd32 b s m 1) (rnd32 b s m 2))))) 3 ?_
  refine zv .mv 1 ?_
  refine zn ?_
  refine cxReg ?_
  refine zv .mv 0 ?_
  refine zv .mv 2 ?_
  refine zv (.aw (pl32 (pl32 (pl32 (pl32 (pl32 (rnd32 b s m 7) (big1_32 (rnd32 b s m 4))) (xo32 (and32 (rnd32 b s m 4) (rnd32 b s m 5)) (and32 (not32 (rnd32 b s m 4)) (rnd32 b s m 6)))) (K32 m)) ((W32 b) m)) (pl32 (big0_32 (rnd32 b s m 0)) (xo32 (xo32 (and32 (rnd32 b s m 0) (rnd32 b s m 1)) (and32 (rnd32 b s m 0) (rnd32 b s m 2))) (and32 (rnd32 b s m 1) (rnd32 b s m 2)))))) 3 ?_
  refine zv .mv 512 ?_
  refine zv .mv 512 ?_
  refine zv .mv 512 ?_
  refine zv .mv 512 ?_
  refine zv .mv 32 ?_
  refine zv (.aw (pl32 (rnd32 b s m 3) (pl32 (pl32 (pl32 (pl32 (rnd32 b s m 7) (big1_32 (rnd32 b s m 4))) (xo32 (and32 (rnd32 b s m 4) (rnd32 b s m 5)) (and32 (not32 (rnd32 b s m 4)) (rnd32 b s m 6)))) (K32 m)) ((W32 b) m)))) 3 ?_
  refine zv .mv 256 ?_
  refine zv .mv 256 ?_
  refine zv .mv 256 ?_
  refine zv .mv 128 ?_
  refine zv .mv 128 ?_
  refine zv .mv 128 ?_
  refine zv .mv 128 ?_
  refine zv .mv 128 ?_
  refine zv .mv 128 ?_
  refine zv .mv 128 ?_
  refine zv .mv 128 ?_
  refine pxEnd ?_
  refine qxInN ?_
  refine qxThen ?_
  refine cxReg ?_
  refine zv (.add ((m + 1 : Nat) : Int)) 256 ?_
  refine zv .mv 1 ?_
  refine pxEnd ?_
  exact zR1 (m + 1) ⟨hH, (by omega)⟩ (by omega)
  refine cxExit ?_
  refine qxThenE ?_
  refine qxThenE ?_
  refine qxInE ?_
  refine qxThen ?_
  refine cxSeq ?_
  obtain rfl : m = 64 := by omega
  refine zr ?_
  refine zv .mv 1539 ?_
  refine zv .mv 128 ?_
  refine zv .mv 128 ?_
  refine zv .mv 128 ?_
  refine zv .mv 128 ?_
  refine zv .mv 128 ?_
  refine zv .mv 128 ?_
  refine zv .mv 128 ?_
  refine zv (v := ((cWs 8).val (rnd32 b s 64))) (fun _ _ hF => opBuildP (cells := (cWs 8).enc (rnd32 b s 64)) (vals := [(0, (.int .u32 ((((rnd32 b s 64 0).toNat) : Nat) : Int))), (1, (.int .u32 ((((rnd32 b s 64 1).toNat) : Nat) : Int))), (2, (.int .u32 ((((rnd32 b s 64 2).toNat) : Nat) : Int))), (3, (.int .u32 ((((rnd32 b s 64 3).toNat) : Nat) : Int))), (4, (.int .u32 ((((rnd32 b s 64 4).toNat) : Nat) : Int))), (5, (.int .u32 ((((rnd32 b s 64 5).toNat) : Nat) : Int))), (6, (.int .u32 ((((rnd32 b s 64 6).toNat) : Nat) : Int))), (7, (.int .u32 ((((rnd32 b s 64 7).toNat) : Nat) : Int)))]) rfl (EvP.cons (v := (.int .u32 ((((rnd32 b s 64 0).toNat) : Nat) : Int))) (hF.ev 7 rfl) (EvP.cons (v := (.int .u32 ((((rnd32 b s 64 1).toNat) : Nat) : Int))) (hF.ev 6 rfl) (EvP.cons (v := (.int .u32 ((((rnd32 b s 64 2).toNat) : Nat) : Int))) (hF.ev 5 rfl) (EvP.cons (v := (.int .u32 ((((rnd32 b s 64 3).toNat) : Nat) : Int))) (hF.ev 4 rfl) (EvP.cons (v := (.int .u32 ((((rnd32 b s 64 4).toNat) : Nat) : Int))) (hF.ev 3 rfl) (EvP.cons (v := (.int .u32 ((((rnd32 b s 64 5).toNat) : Nat) : Int))) (hF.ev 2 rfl) (EvP.cons (v := (.int .u32 ((((rnd32 b s 64 6).toNat) : Nat) : Int))) (hF.ev 1 rfl) (EvP.cons (v := (.int .u32 ((((rnd32 b s 64 7).toNat) : Nat) : Int))) (hF.ev 0 rfl) EvP.nil)))))))) (by kernel_rfl) _) 255 ?_
  have he16 : (cWs 8).enc (upF 0 (comp32 b s) s) = (cWs 8).enc s := vec_congr (fun i _ => by rw [upF_zero])
  replace hH : HH w0 [] [[bl g1 115 ((cWs 8).enc (upF 0 (comp32 b s) s))], [bl g2 104 ((cArr 64).enc b)], [bl g3 115 ((cWs 8).enc (fun _ => 0))], [bl g4 125 ((cWs 64).enc (W32 b))]] w := by rw [he16]; exact hH
  refine zv .mv 0 ?_
  refine zn ?_
  refine cxBlock ?_
  refine zL1 (fun (q : Nat) => [(97, (.int .i64 (((q) : Nat) : Int))), (96, ((cWs 8).val (rnd32 b s 64))), (4, (.pointer (some ⟨g3, 0, none⟩))), (2, (.pointer (some ⟨g1, 0, none⟩)))]) (fun q w => HH w0 [] [[bl g1 115 ((cWs 8).enc (upF q (comp32 b s) s))], [bl g2 104 ((cArr 64).enc b)], [bl g3 115 ((cWs 8).enc (fun _ => 0))], [bl g4 125 ((cWs 64).enc (W32 b))]] w ∧ (q ≤ 8)) (fun q => 8 - q) 0 ⟨hH, (Nat.zero_le _)⟩ ?_
  clear hH
  rintro q w ⟨hH, hq⟩
  refine zr ?_
  refine zv (.lt (q < 8)) 0 ?_
  refine zn ?_
  refine cxSeq ?_
  refine zP (fun hc17 => ?_) (fun hc17 => ?_)
  refine cxSkip ?_
  refine qxThen ?_
  refine cxSeq ?_
  refine cxBlock ?_
  refine zr ?_
  refine zv .mv 1 ?_
  have hi18 : q < 8 := by omega
  refine zv (v := (.int .u32 (((((rnd32 b s 64) q).toNat) : Nat) : Int))) (fun _ _ hF => opIdxA (S := sWd) (e := 114) (n := 8) (i := q) (f := (rnd32 b s 64)) rfl (by kernel_rfl) (by kernel_rfl) (hF.ev 2 rfl) (hF.ev 1 rfl) rfl hi18) 0 ?_
  refine zv .mv 2 ?_
  refine zv .mv 2 ?_
  refine zn ?_
  refine cxReg ?_
  refine zv .mv 2 ?_
  have hi19 : q < 8 := by omega
  refine zv (.ia 1 8 q (hi := hi19)) 0 ?_
  refine zs (hH.q 0 rfl) (.ld cWd ((upF q (comp32 b s) s) q) (fun _ hS => ((holds_blk0 hS).eltV hi19))) 1 ?_
  refine zv .mv 4 ?_
  refine zv (.aw (pl32 ((upF q (comp32 b s) s) q) ((rnd32 b s 64) q))) 3 ?_
  have hi20 : q < 8 := by omega
  refine zv (.ia 1 8 q (hi := hi20)) 2 ?_
  refine ze0 0 hH rfl (.st cWd (pl32 ((upF q (comp32 b s) s) q) ((rnd32 b s 64) q)) (room_1 (S := sWd) (C := (cWs 8)) rfl hi20) (vec_set0 (upF q (comp32 b s) s) (pl32 ((upF q (comp32 b s) s) q) ((rnd32 b s 64) q)) hi20)) trivial ?_
  clear hH
  rintro _ _ w rfl hH
  refine pxEnd ?_
  refine qxInN ?_
  refine qxThen ?_
  refine cxReg ?_
  refine zv (.add ((q + 1 : Nat) : Int)) 7 ?_
  refine zv .mv 1 ?_
  refine pxEnd ?_
  have he21 : (cWs 8).enc (upF (q + 1) (comp32 b s) s) = (cWs 8).enc (stF (upF q (comp32 b s) s) q (pl32 ((upF q (comp32 b s) s) q) ((rnd32 b s 64) q))) := vec_congr (fun i _ => (congrFun (upF_step q (comp32 b s) s (by rw [upF_at]; rfl)) i).symm)
  replace hH : HH w0 [] [[bl g1 115 ((cWs 8).enc (upF (q + 1) (comp32 b s) s))], [bl g2 104 ((cArr 64).enc b)], [bl g3 115 ((cWs 8).enc (fun _ => 0))], [bl g4 125 ((cWs 64).enc (W32 b))]] w := by rw [he21]; exact hH
  exact zR1 (q + 1) ⟨hH, (by omega)⟩ (by omega)
  refine cxExit ?_
  refine qxThenE ?_
  refine qxThenE ?_
  refine qxInE ?_
  refine qxThen ?_
  obtain rfl : q = 8 := by omega
  have he22 : (cWs 8).enc (comp32 b s) = (cWs 8).enc (upF 8 (comp32 b s) s) := vec_congr (fun i hi => (upF_lt _ _ hi).symm)
  replace hH : HH w0 [] [[bl g1 115 ((cWs 8).enc (comp32 b s))], [bl g2 104 ((cArr 64).enc b)], [bl g3 115 ((cWs 8).enc (fun _ => 0))], [bl g4 125 ((cWs 64).enc (W32 b))]] w := by rw [he22]; exact hH
  refine zr ?_
  refine zs (hH.q 0 rfl) (.ld (cWs 8) (comp32 b s) (fun _ hS => (holds_blk0 hS))) 23 ?_
  refine ze0 2 hH rfl (.sw (cWs 8) (fun _ => 0) (comp32 b s)) trivial ?_
  clear hH
  rintro _ _ w rfl hH
  refine zn ?_
  refine cxRet ?_
  refine qxRetC 1 (hH.blk 2 rfl) rfl rfl (by kernel_rfl) (Cod.size _ _) (by kernel_rfl) ?_
  exact ⟨rfl, HH.toBelow hH⟩
end Go.Proofs.YtfloiekaiiapnaaGreatDoor

namespace Go.Proofs.YtfloiekaiiapnaaGreatDoor
open Go Go.RowKit
set_option maxRecDepth 100000

/-- A hash that has taken l. -/
def HaAt (g : Nat) (l : List UInt8) (E : Hl) : Prop := ∃ s r, E = [bl g 117 (cHa.enc (s, r, l.length))] ∧ HaS s r l.length fun j => l.getD j 0

set_option maxHeartbeats 8000000 in
theorem padding_c (n L : Nat) (hL : L = 64 * nb32 n - n) (hn : n ≤ 1152921504606846976) : Does Tryz.prog 76 #[(.int .u64 (((n) : Nat) : Int)), (.int .i64 64), (.int .i64 8)] [] (fun _ => True) (fun v E' => OwnT cByte 5 v (pdL n) E') := by
  refine does_of (fn := Tryz.f76) Tryz.func76 rfl Tryz.ntmps76 (Nat.le_of_ble_eq_true rfl) rfl ?_
  intro w0 hH hR
  replace hH : HH w0 [] [] w0 := hH.only [false]
  have hL2 : L = 64 - (n + 8) % 64 + 8 := by rw [hL]; unfold nb32; omega
  refine zr ?_
  refine zv .mv 0 ?_
  refine zn ?_
  refine zr ?_
  refine zv .mv 1 ?_
  refine zv .mv 0 ?_
  refine zv .mv 0 ?_
  refine zv (.cu .u64 (q := 8)) 1 ?_
  refine zv (v := (.int .u64 (((n + 8) : Nat) : Int))) (fun _ _ hF => opAddU (m := n) (j := 8) (z := (n + 8)) rfl rfl (hF.ev 1 rfl) (hF.ev 0 rfl) (Nat.mod_eq_of_lt (by show _ < 18446744073709551616; omega))) 3 ?_
  refine zv .mv 8 ?_
  refine zv (.cu .u64 (q := 64)) 1 ?_
  refine zv (v := (.int .u64 ((((n + 8) % 64) : Nat) : Int))) (fun _ _ hF => opRem (z := (((n + 8) % 64 : Nat) : Int)) rfl (hF.ev 1 rfl) (hF.ev 0 rfl) (by omega) remN) 3 ?_
  refine zv .ci 1 ?_
  refine zv (.sub (((64 - (n + 8) % 64) : Nat) : Int)) 3 ?_
  refine zv .mv 1 ?_
  refine zn ?_
  refine zr ?_
  refine zv .mv 1 ?_
  refine zv .mv 4 ?_
  refine zv (.add (((L) : Nat) : Int)) 3 ?_
  refine zm hH (fun _ hF => smMake (e := 5) (n := L) (sz := 1) (by_ := 1) (z := (.int .u8 0)) (cs := madeCells (cByte.enc (0 : UInt8)) (L * 1)) rfl (by kernel_rfl) (by kernel_rfl) (hF.ev 0 rfl) (hF.ev 0 rfl) rfl rfl (by omega) (by omega) rfl) trivial 1 ?_
  clear hH
  rintro _ _ w ⟨g1, rfl, rfl⟩ hH
  refine zv .mv 1 ?_
  refine zn ?_
  refine zr ?_
  refine zv .mv 0 ?_
  have hi2 : 0 < L := by omega
  have hj5 : 0 < (List.replicate L (0 : UInt8)).length := by rw [List.length_replicate]; omega
  obtain ⟨x3, hx4⟩ := get_at (List.replicate L (0 : UInt8)) 0 hj5
  have hb6 := UInt8.toNat_lt x3
  refine zv (.ix 1 0 (hi := hi2)) 1 ?_
  obtain ⟨cur8, hcs9, hB7⟩ : ∃ cs, putL (madeCells (cByte.enc (0 : UInt8)) (L * 1)) (0 + 0 * 1) (cByte.enc 128).toList = cs ∧ Bk cByte L cs ((List.replicate L (0 : UInt8)).set 0 128) := ⟨_, rfl, put_at (Bk.make (C := cByte) (0 : UInt8) L (ltb rfl) (by unfold maxLen; omega)) 0 hj5 128⟩
  refine ze0 0 hH rfl (fun _ hF => smStoreT (C := cByte) (z := 128) rfl (hF.ev 0 rfl) rfl rfl (by kernel_rfl) (room_at (Bk.make (C := cByte) (0 : UInt8) L (ltb rfl) (by unfold maxLen; omega)) hj5) hcs9) trivial ?_
  clear hH
  rintro _ _ w rfl hH
  refine zn ?_
  refine zr ?_
  refine zv .mv 5 ?_
  refine zv (v := (.int .u64 (((n * 8) : Nat) : Int))) (fun _ _ hF => opMulU (m := n) (j := 8) (z := (n * 8)) rfl rfl (hF.ev 0 rfl) rfl (Nat.mod_eq_of_lt (by show _ < 18446744073709551616; omega))) 1 ?_
  refine zv .mv 1 ?_
  refine zn ?_
  refine cxSeq ?_
  refine zr ?_
  refine zv .mv 0 ?_
  refine zn ?_
  refine cxBlock ?_
  refine zL2 (fun (m : Nat) (_ : Array Value) => [(29, (.int .i64 (((m) : Nat) : Int))), (9, (.int .u64 (((n * 8) : Nat) : Int))), (8, (.slice (some ⟨g1, 0, none⟩) L L))]) (fun m cur' w => HH w0 [] [[bl g1 5 cur']] w ∧ (m ≤ 8) ∧ (Bk cByte L cur' (lst L (pm32 L n m)))) (fun m _ => 8 - m) 0 cur8 ⟨hH, (Nat.zero_le _), (pm_begin (show 0 < L by omega) ▸ hB7)⟩ ?_
  clear hH
  rintro m cur' w ⟨hH, hm, hB'⟩
  refine zr ?_
  refine zv (.lt (m < 8)) 0 ?_
  refine zn ?_
  refine cxSeq ?_
  refine zP (fun hc10 => ?_) (fun hc10 => ?_)
  refine cxSkip ?_
  refine qxThen ?_
  refine cxSeq ?_
  refine cxBlock ?_
  refine zr ?_
  refine zv .mv 1 ?_
  refine zv .mv 1 ?_
  refine zn ?_
  refine cxReg ?_
  refine zv .mv 0 ?_
  refine zv .mv 0 ?_
  refine zv .len 1 ?_
  refine zv (.sub (((L - 1) : Nat) : Int)) 1 ?_
  refine zv .mv 0 ?_
  refine zv (.sub (((L - 1 - m) : Nat) : Int)) 3 ?_
  refine zv .mv 0 ?_
  refine zv .mv 8 ?_
  refine zv (.mul ((8 * m : Nat) : Int)) 1 ?_
  refine zv (v := (.int .u64 ((((n * 8) / 2 ^ (8 * m)) : Nat) : Int))) (fun _ _ hF => opShrU (n := 8 * m) (z := ((n * 8) / 2 ^ (8 * m))) rfl (hF.ev 1 rfl) (hF.ev 0 rfl) (by show _ ≤ 64; omega) (rfl)) 3 ?_
  refine zv .cb 1 ?_
  have hi11 : L - 1 - m < L := by omega
  have hj14 : L - 1 - m < (lst L (pm32 L n m)).length := by rw [lst_len]; omega
  obtain ⟨x12, hx13⟩ := get_at (lst L (pm32 L n m)) (L - 1 - m) hj14
  have hb15 := UInt8.toNat_lt x12
  refine zv (.ix 1 (L - 1 - m) (hi := hi11)) 6 ?_
  obtain ⟨cur17, hcs18, hB16⟩ : ∃ cs, putL cur' (0 + (L - 1 - m) * 1) (cByte.enc (UInt8.ofNat ((n * 8) / 2 ^ (8 * m)))).toList = cs ∧ Bk cByte L cs ((lst L (pm32 L n m)).set (L - 1 - m) (UInt8.ofNat ((n * 8) / 2 ^ (8 * m)))) := ⟨_, rfl, put_at hB' (L - 1 - m) hj14 (UInt8.ofNat ((n * 8) / 2 ^ (8 * m)))⟩
  refine ze0 0 hH rfl (fun _ hF => smStoreT (C := cByte) (z := (UInt8.ofNat ((n * 8) / 2 ^ (8 * m)))) rfl (hF.ev 0 rfl) (hF.ev 1 rfl) rfl (by kernel_rfl) (room_at hB' hj14) hcs18) trivial ?_
  clear hH
  rintro _ _ w rfl hH
  refine pxEnd ?_
  refine qxInN ?_
  refine qxThen ?_
  refine cxReg ?_
  refine zv (.add ((m + 1 : Nat) : Int)) 7 ?_
  refine zv .mv 1 ?_
  refine pxEnd ?_
  exact zR2 (m + 1) cur17 ⟨hH, (by omega), (pm_step (show m < L by omega) ▸ hB16)⟩ (by omega)
  refine cxExit ?_
  refine qxThenE ?_
  refine qxThenE ?_
  refine qxInE ?_
  refine qxThen ?_
  refine zr ?_
  refine zv .mv 15 ?_
  refine zv .mv 1 ?_
  refine zn ?_
  refine cxRet ?_
  refine qxRet1 0 rfl rfl ?_
  obtain rfl : m = 8 := by omega
  have he : lst L (pm32 L n 8) = pdL n := by rw [hL]; rfl
  exact ⟨_, _, rfl, (he ▸ hB'.own 5 g1 (lst_len _ _)), hH.out1 [true] rfl⟩

set_option maxHeartbeats 8000000 in
theorem write_in (g k : Nat) (s : Nat → UInt32) (r F : Nat → UInt8) (A : Option Addr) (n c : Nat) (m : List UInt8) (hS : HaS s r k F) (hF : ∀ j x, m[j]? = some x → F (k + j) = x) (hb : k + n ≤ 1152921504606846976) : Does Tryz.prog 58 #[(.pointer (some ⟨g, 0, none⟩)), (.slice A n c)] [bl g 117 (cHa.enc (s, r, k))] (fun w => w.heap[1]? = some (.cells ((cWs 64).enc K32) 125 (0, 0)) ∧ Vu cByte w A n c m ∧ Off A n [g]) (fun v E' => v = .tuple #[] ∧ ∃ s' r', E' = [bl g 117 (cHa.enc (s', r', k + n))] ∧ HaS s' r' (k + n) F) := by
  refine does_of (fn := Tryz.f58) Tryz.func58 rfl Tryz.ntmps58 (Nat.le_of_ble_eq_true rfl) rfl ?_
  intro w0 hH hR
  replace hH : HH w0 [g] [[bl g 117 (cHa.enc (s, r, k))]] w0 := hH
  have hng := ne_ty hR.1 (hH.blk 0 rfl) rfl
  refine cxSeq ?_
  refine zr ?_
  refine zv .mv 0 ?_
  refine zv (v := (.bool false)) (fun _ _ hF => opEqNil (e := 117) rfl (by kernel_rfl) (hF.ev 0 rfl) rfl rfl) 1 ?_
  refine zn ?_
  refine zF ?_
  refine cxSkip ?_
  refine qxThen ?_
  refine cxBlock ?_
  refine zL7 (fun (A1 : Option Addr) (n1 : Nat) (c1 : Nat) (_ : List UInt8) (_ : Nat → UInt32) (_ : Nat → UInt8) (_ : Nat) => [(1, (.slice A1 n1 c1)), (0, (.pointer (some ⟨g, 0, none⟩)))]) (fun A1 n1 c1 m1 s1 r1 k1 w => HH w0 [g] [[bl g 117 (cHa.enc (s1, r1, k1))]] w ∧ (Vu cByte w0 A1 n1 c1 m1) ∧ (Off A1 n1 [g]) ∧ (HaS s1 r1 k1 F) ∧ (∀ j z, m1[j]? = some z → F (k1 + j) = z) ∧ (k1 + n1 = k + n)) (fun _ n1 _ _ _ _ _ => n1) A n c m s r k ⟨hH, hR.2.1, hR.2.2, hS, hF, rfl⟩ ?_
  clear hH
  rintro A1 n1 c1 m1 s1 r1 k1 w ⟨hH, hV, hO, hS1, hF1, hk⟩
  refine cxSeq ?_
  refine zr ?_
  refine zv .mv 0 ?_
  refine zv .len 1 ?_
  refine zv (.gt (n1 > 0)) 1 ?_
  refine zn ?_
  refine zP (fun hc1 => ?_) (fun hc1 => ?_)
  refine cxSkip ?_
  refine qxThen ?_
  refine cxBlock ?_
  have hlen1 := hV.len
  obtain ⟨kk, hkk⟩ : ∃ kk, kk = min n1 (64 - k1 % 64) := ⟨_, rfl⟩
  refine zx ?_
  replace hH := hH.drew
  refine rv 0 .mv 1 ?_
  refine rv 1 .nc 1 ?_
  refine rv 2 (.fld 8) 1 ?_
  refine rv 3 .mv 0 ?_
  refine rv 4 .nc 1 ?_
  refine rv 5 (.fld 72) 1 ?_
  refine rld 6 (hH.q 0 rfl) (.ld (cNat .u64) k1 (fun _ hS => ((holds_blk0 hS).snd).snd)) 1 ?_
  refine rv 7 (v := (.int .u64 (((k1 % 64) : Nat) : Int))) (fun _ _ hF => opRem (z := ((k1 % 64 : Nat) : Int)) rfl (hF.ev 0 rfl) rfl (by omega) remN) 1 ?_
  refine rv 8 (v := (.slice (some ⟨g, 8 + k1 % 64 * 1, none⟩) (64 - k1 % 64) (64 - k1 % 64))) (fun _ _ hF => opSliceAL (m := 64) (l := k1 % 64) (e := 5) (sz := 1) rfl (by kernel_rfl) (by kernel_rfl) (hF.ev 1 rfl) (hF.ev 0 rfl) rfl (by omega)) 3 ?_
  refine rv 9 .mv 0 ?_
  refine rx1k 10 ?_
  refine re 10 0 hH rfl (fun _ hF => smCopyK (C := cByte) (m := m1) (e := 5) kk hkk.symm rfl (by kernel_rfl) (by kernel_rfl) (ltb rfl) (hF.ev 1 rfl) (hF.ev 0 rfl) hlen1 (by rw [Cod.size]; show 8 + k1 % 64 * 1 + kk * 1 ≤ 73; omega) (put_snd (put_fst (arr_ov r1 (k1 % 64 * 1) (m1.take kk)) (by rw [flat_len, List.length_take]; show k1 % 64 * 1 + min kk m1.length * 1 ≤ 64; omega)) rfl)) (hH.vu hV (by decide) hO) 3 (pgo [8, 7] (.nil _ [])) ?_
  clear hH
  rintro _ _ w ⟨rfl, rfl⟩ hH
  refine ⟨pnil, ?_⟩
  refine rv 11 .mv 1 ?_
  refine rn ?_
  refine zr ?_
  refine zv .mv 0 ?_
  refine zv .nc 0 ?_
  refine zv (.fld 72) 1 ?_
  refine zs (hH.q 0 rfl) (.ld (cNat .u64) k1 (fun _ hS => ((holds_blk0 hS).snd).snd)) 1 ?_
  refine zv .mv 0 ?_
  refine zv (.cu .u64) 1 ?_
  refine zv (v := (.int .u64 (((k1 + kk) : Nat) : Int))) (fun _ _ hF => opAddU (m := k1) (j := kk) (z := (k1 + kk)) rfl rfl (hF.ev 1 rfl) (hF.ev 0 rfl) (Nat.mod_eq_of_lt (by show _ < 18446744073709551616; omega))) 3 ?_
  refine zv .nc 2 ?_
  refine zv (.fld 72) 1 ?_
  refine ze0 0 hH rfl (fun _ hF => smStoreT (C := (cNat .u64)) (z := k1 + kk) rfl (hF.ev 0 rfl) (hF.ev 1 rfl) rfl (by kernel_rfl) (by rw [Cod.size]; exact leb rfl) (put_snd (put_snd (put_whole (cNat .u64) _ _) rfl) rfl)) trivial ?_
  clear hH
  rintro _ _ w rfl hH
  refine zn ?_
  refine zr ?_
  refine zv .mv 11 ?_
  refine zv .mv 2 ?_
  refine zv (v := (.slice (cutA A1 c1 kk 1) (n1 - kk) (c1 - kk))) (fun _ _ hF => opCutL (k := kk) (e := 5) (sz := 1) rfl (by kernel_rfl) (by kernel_rfl) (hF.ev 1 rfl) (hF.ev 0 rfl) rfl (by omega)) 3 ?_
  refine zv .mv 1 ?_
  refine zn ?_
  refine zr ?_
  refine zv .mv 0 ?_
  refine zv .nc 1 ?_
  refine zv (.fld 72) 1 ?_
  refine zs (hH.q 0 rfl) (.ld (cNat .u64) (k1 + kk) (fun _ hS => ((holds_blk0 hS).snd).snd)) 1 ?_
  refine zv (v := (.int .u64 ((((k1 + kk) % 64) : Nat) : Int))) (fun _ _ hF => opRem (z := (((k1 + kk) % 64 : Nat) : Int)) rfl (hF.ev 0 rfl) rfl (by omega) remN) 1 ?_
  refine zv (.eq ((k1 + kk) % 64 = 0)) 1 ?_
  refine zn ?_
  refine zP (fun hc2 => ?_) (fun hc2 => ?_)
  refine cxRegX mixedOrders (by kernel_rfl) ?_
  replace hH := hH.drew
  refine rv 0 .mv 1 ?_
  refine rv 1 .mv 0 ?_
  refine rv 2 .nc 1 ?_
  refine rv 3 (.fld 0) 1 ?_
  refine rld 4 (hH.q 0 rfl) (.ld (cWs 8) s1 (fun _ hS => (holds_blk0 hS).fst)) 1 ?_
  refine rv 5 .mv 0 ?_
  refine rv 6 .nc 1 ?_
  refine rv 7 (.fld 8) 1 ?_
  refine rld 8 (hH.q 0 rfl) (.ld (cArr 64) (ovF r1 (k1 % 64 * 1) (m1.take kk)) (fun _ hS => ((holds_blk0 hS).snd).fst)) 1 ?_
  refine rx1k 9 (rpc 9 Tryz.func75 (take_c s1 (ovF r1 (k1 % 64 * 1) (m1.take kk))) (hH.oldBlk hR.1 hng) hH 3 (pgo [] (pgo [] (.nil _ []))) ?_)
  clear hH
  intro w hH
  refine ⟨pnil, ?_⟩
  refine rv 10 .nc 2 ?_
  refine rv 11 (.fld 0) 1 ?_
  refine rx1k 12 ?_
  refine re0 12 0 hH rfl (fun _ hF => smStoreT (C := (cWs 8)) (z := (comp32 (ovF r1 (k1 % 64 * 1) (m1.take kk)) s1)) rfl (hF.ev 0 rfl) (hF.ev 1 rfl) rfl (by kernel_rfl) (by rw [Cod.size]; exact leb rfl) (put_fst (put_whole (cWs 8) _ _) (by rw [Array.length_toList, Cod.size]; exact leb rfl))) trivial (.nil _ []) ?_
  clear hH
  rintro _ _ w rfl hH
  refine ⟨pnil, ?_⟩
  refine rxEnd (by kernel_rfl) ?_
  refine qxInN ?_
  exact zR7 (cutA A1 c1 kk 1) (n1 - kk) (c1 - kk) (m1.drop kk) (comp32 (ovF r1 (k1 % 64 * 1) (m1.take kk)) s1) (ovF r1 (k1 % 64 * 1) (m1.take kk)) (k1 + kk) ⟨hH, (hV.from (show kk ≤ n1 by omega)), (hO.cut hV _ (fun _ => by omega)), (hS1.full hF1 (by omega) (by omega)), (fun j x hx => by rw [Nat.add_assoc]; exact hF1 _ _ (by rw [List.getElem?_drop] at hx; exact hx)), (by omega)⟩ (show n1 - kk < n1 by omega)
  refine cxSkip ?_
  refine qxInN ?_
  exact zR7 (cutA A1 c1 kk 1) (n1 - kk) (c1 - kk) (m1.drop kk) s1 (ovF r1 (k1 % 64 * 1) (m1.take kk)) (k1 + kk) ⟨hH, (hV.from (show kk ≤ n1 by omega)), (hO.cut hV _ (fun _ => by omega)), (hS1.part hF1 (by omega) (by omega)), (fun j x hx => by rw [Nat.add_assoc]; exact hF1 _ _ (by rw [List.getElem?_drop] at hx; exact hx)), (by omega)⟩ (show n1 - kk < n1 by omega)
  refine cxExit ?_
  refine qxThenE ?_
  refine qxThenE ?_
  refine qxInE ?_
  refine qxEnd0 rfl ?_
  obtain rfl : k1 = k + n := by omega
  exact ⟨_, _, rfl, ⟨rfl, s1, r1, rfl, hS1⟩, hH.out1 [true] rfl⟩

set_option maxHeartbeats 8000000 in
theorem new_c  : Does Tryz.prog 74 #[] [] (fun w => w.heap[0]? = some (.cells ((cWs 8).enc H32) 115 (0, 0))) (fun v E' => ∃ g, v = ptrV g ∧ HaAt g [] E') := by
  refine does_of (fn := Tryz.f74) Tryz.func74 rfl Tryz.ntmps74 (Nat.le_of_ble_eq_true rfl) rfl ?_
  intro w0 hH hR
  replace hH : HH w0 [] [] w0 := hH.only [false]
  refine zr ?_
  refine zv .mv 0 ?_
  refine zn ?_
  refine zr ?_
  refine zs (hH.ob hR) (.ld (cWs 8) H32 (fun _ hS => (holds_blk0 hS))) 1 ?_
  refine zv (v := (cHa.val (H32, fun _ => 0, 0))) (fun _ _ hF => opBuildP (cells := cHa.enc (H32, fun _ => 0, 0)) (vals := [(0, ((cWs 8).val H32))]) rfl (EvP.cons (hF.ev 0 rfl) EvP.nil) (by kernel_rfl) _) 1 ?_
  refine zm hH (.bx cHa (H32, fun _ => 0, 0)) trivial 1 ?_
  clear hH
  rintro _ _ w ⟨g1, rfl, rfl⟩ hH
  refine zv .mv 1 ?_
  refine zn ?_
  refine cxRet ?_
  refine qxRet1 0 rfl rfl ?_
  exact ⟨_, _, rfl, ⟨_, rfl, H32, fun _ => 0, rfl, fun _ _ => rfl, fun _ h => absurd h (Nat.not_lt_zero _)⟩, hH.out1 [true] rfl⟩

set_option maxHeartbeats 8000000 in
theorem sum_in (g k : Nat) (s : Nat → UInt32) (r f : Nat → UInt8) (hS : HaS s r k f) (hk : k ≤ 1000000000000000000) : Pure Tryz.prog 59 #[(.pointer (some ⟨g, 0, none⟩))] (fun w => w.heap[1]? = some (.cells ((cWs 64).enc K32) 125 (0, 0)) ∧ w.heap[g]? = some (.cells (cHa.enc (s, r, k)) 117 (0, 0))) ((cArr 32).val (sum32 k f)) := by
  refine pure_of (fn := Tryz.f59) Tryz.func59 rfl Tryz.ntmps59 (Nat.le_of_ble_eq_true rfl) rfl ?_
  intro w0 hH hR
  refine zr ?_
  refine zm hH (.al (cArr 32) (fun _ => 0)) trivial 0 ?_
  clear hH
  rintro _ _ w ⟨g1, rfl, rfl⟩ hH
  refine zn ?_
  refine cxSeq ?_
  refine zr ?_
  refine zv .mv 0 ?_
  refine zv (v := (.bool false)) (fun _ _ hF => opEqNil (e := 117) rfl (by kernel_rfl) (hF.ev 0 rfl) rfl rfl) 1 ?_
  refine zn ?_
  refine zF ?_
  refine cxSkip ?_
  refine qxThen ?_
  refine zr ?_
  refine zv .mv 1 ?_
  refine zv .nc 1 ?_
  refine zs (hH.ob hR.2) (.ld cHa (s, r, k) (fun _ hS => (holds_blk0 hS))) 1 ?_
  refine zm hH (.al cHa (fun _ => 0, fun _ => 0, 0)) trivial 0 ?_
  clear hH
  rintro _ _ w ⟨g2, rfl, rfl⟩ hH
  refine ze0 1 hH rfl (.sw cHa (fun _ => 0, fun _ => 0, 0) (s, r, k)) trivial ?_
  clear hH
  rintro _ _ w rfl hH
  refine zn ?_
  refine zr ?_
  refine zv .mv 10 ?_
  refine zv .nc 1 ?_
  refine zv (.fld 72) 1 ?_
  refine zs (hH.ob hR.2) (.ld (cNat .u64) k (fun _ hS => ((holds_blk0 hS).snd).snd)) 1 ?_
  refine zm hH (.call Tryz.func76 ((padding_c k _ rfl (by omega)))) trivial 1 ?_
  clear hH
  rintro v7 E3 w hO4 hH
  obtain ⟨A5, c6, rfl⟩ := hO4.slice
  refine ze 1 hH rfl (.call Tryz.func58 (write_in g2 k s r (pad32 k f) A5 _ c6 (pdL k) (hS.congr fun j hj => pad32_low k f j hj) (pdL_at f) (by rw [pdL_len]; have := nb32_ge k; omega))) (⟨hH.oldBlk hR.1 (by simp), (hO4.vuAt (hH.has 2 rfl)), (hH.off3 1 2 rfl rfl rfl hO4)⟩) 1 ?_
  clear hH
  rintro _ _ w ⟨rfl, s29, r210, rfl, hS211⟩ hH
  refine zn ?_
  refine zr ?_
  refine zv (.fld 0) 3 ?_
  refine zs (hH.q 1 rfl) (.ld (cWs 8) s29 (fun _ hS => (holds_blk0 hS).fst)) 1 ?_
  refine zc Tryz.func77 (bytes_c s29) trivial hH 1 ?_
  clear hH
  intro w hH
  refine ze0 0 hH rfl (.sw (cArr 32) (fun _ => 0) (out32 s29)) trivial ?_
  clear hH
  rintro _ _ w rfl hH
  refine zn ?_
  refine cxRet ?_
  refine qxRetC 1 (hH.blk 0 rfl) rfl rfl (by kernel_rfl) (Cod.size _ _) (by kernel_rfl) ?_
  have hS3 := hS211
  rw [pdL_len, show k + (64 * nb32 k - k) = 64 * nb32 k by have := nb32_ge k; omega] at hS3
  exact ⟨ret_arr (ha_end hS3), HH.toBelow hH⟩

/-! ### By lists -/
theorem write_c (g : Nat) (l m : List UInt8) (E : Hl) (hE : HaAt g l E) (A : Option Addr) (n c : Nat) (hb : l.length + m.length ≤ 1000000000000000000) : Does Tryz.prog 58 #[ptrV g, .slice A n c] E (fun w => w.heap[1]? = some (.cells ((cWs 64).enc K32) 125 (0, 0)) ∧ Vu cByte w A n c m ∧ Off A n [g]) (fun v E' => v = .tuple #[] ∧ HaAt g (l ++ m) E') := by
  obtain ⟨s, r, rfl, hS⟩ := hE
  intro w hw hR
  have hn := hR.2.1.len
  subst hn
  refine (write_in g l.length s r (fun j => (l ++ m).getD j 0) A m.length c m (hS.congr fun j hj => ?_) (fun j x hx => ?_) (by omega) w hw hR).mono ?_
  · rw [List.getD_eq_getElem?_getD, List.getD_eq_getElem?_getD, List.getElem?_append_left hj]
  · rw [List.getD_eq_getElem?_getD, List.getElem?_append_right (by omega), Nat.add_sub_cancel_left, hx]; rfl
  · rintro e w' ⟨v, E', he, ⟨h1, s', r', h2, h3⟩, h4⟩
    refine ⟨v, E', he, ⟨h1, s', r', ?_, ?_⟩, h4⟩
    · rw [h2, List.length_append]
    · rw [List.length_append]; exact h3
theorem sum_c (g : Nat) (l : List UInt8) (E : Hl) (hE : HaAt g l E) (hb : l.length ≤ 1000000000000000000) : Does Tryz.prog 59 #[ptrV g] E (fun w => w.heap[1]? = some (.cells ((cWs 64).enc K32) 125 (0, 0))) (fun v E' => v = (cArr 32).val (sha l) ∧ E = E') := by
  obtain ⟨s, r, rfl, hS⟩ := hE
  intro w hw hR
  have hblk := hw.blk _ (List.mem_singleton.2 rfl)
  refine (sum_in g l.length s r (fun j => l.getD j 0) hS hb w ⟨hR, hblk⟩).mono ?_
  rintro e w' ⟨he, hB⟩
  refine ⟨_, _, he, ⟨rfl, rfl⟩, ?_⟩
  have h0 := hw.start
  exact (HH.below h0 hB).hold
end Go.Proofs.YtfloiekaiiapnaaGreatDoor

namespace Go.Proofs.YtfloiekaiiapnaaGreatDoor
open Go Go.RowKit
set_option maxRecDepth 100000

theorem HaAt.bks {g : Nat} {l : List UInt8} {E : Hl} (h : HaAt g l E) : bks E = [g] := by
  obtain ⟨s, r, rfl, _⟩ := h
  rfl

end Go.Proofs.YtfloiekaiiapnaaGreatDoor

namespace Go.Proofs.YtfloiekaiiapnaaGreatDoor
open Go Go.RowKit

def sl8 (u : UInt8) (n : Nat) : UInt8 := UInt8.ofNat (u.toNat * 2 ^ n)
def sr8 (u : UInt8) (n : Nat) : UInt8 := UInt8.ofNat (u.toNat / 2 ^ n)
theorem sl8_nat (u : UInt8) (n : Nat) : (sl8 u n).toNat = (u.toNat * 2 ^ n) % 256 := UInt8.toNat_ofNat'
theorem sr8_nat (u : UInt8) (n : Nat) : (sr8 u n).toNat = u.toNat / 2 ^ n := by
  unfold sr8
  rw [UInt8.toNat_ofNat']
  exact Nat.mod_eq_of_lt (Nat.lt_of_le_of_lt (Nat.div_le_self _ _) u.toNat_lt)
theorem ofInt8 (u : UInt8) : BitVec.ofInt 8 (u.toNat : Int) = u.toBitVec := by
  apply BitVec.eq_of_toNat_eq
  rw [ofInt_nat _ _ u.toNat_lt]; rfl
theorem wrap8u (u : UInt8) : IntKind.u8.wrap (u.toNat : Int) = (u.toNat : Int) := by
  rw [wrapU rfl, Nat.mod_eq_of_lt]; exact u.toNat_lt
theorem andNot8 (u v : UInt8) : bits .andNot .u8 (u.toNat : Int) (v.toNat : Int) = ((u &&& ~~~v).toNat : Int) := by
  show IntKind.u8.wrap ((BitVec.ofInt 8 (u.toNat : Int) &&& ~~~BitVec.ofInt 8 (v.toNat : Int)).toNat : Int) = _
  rw [ofInt8, ofInt8, ← wrap8u]
  rfl
section
variable {P : Program} {o : Oper} {n : Sz} {l : Slots} {x y : Operand} {t t2 ty src : TypeId} {u v z : UInt8} {k : IntKind}
theorem Vl.ab (z : UInt8) (ho : o.op = .binOp .and t x y t2 := by exact rfl) (hx : vo l x = some (.int .u8 (u.toNat : Int)) := by exact rfl) (hy : vo l y = some (.int .u8 (v.toNat : Int)) := by exact rfl) (hz : u &&& v = z := by exact rfl) : Vl P n l o (.int .u8 (z.toNat : Int)) := fun _ _ hF =>
  opAndU rfl ho (hF.vo hx) (hF.vo hy) u.toNat_lt v.toNat_lt (by subst hz; exact (UInt8.toNat_and u v).symm)
theorem Vl.ob (z : UInt8) (ho : o.op = .binOp .or t x y t2 := by exact rfl) (hx : vo l x = some (.int .u8 (u.toNat : Int)) := by exact rfl) (hy : vo l y = some (.int .u8 (v.toNat : Int)) := by exact rfl) (hz : u ||| v = z := by exact rfl) : Vl P n l o (.int .u8 (z.toNat : Int)) := fun _ _ hF =>
  opOrU rfl ho (hF.vo hx) (hF.vo hy) u.toNat_lt v.toNat_lt (by subst hz; exact (UInt8.toNat_or u v).symm)
theorem Vl.xb (z : UInt8) (ho : o.op = .binOp .xor t x y t2 := by exact rfl) (hx : vo l x = some (.int .u8 (u.toNat : Int)) := by exact rfl) (hy : vo l y = some (.int .u8 (v.toNat : Int)) := by exact rfl) (hz : u ^^^ v = z := by exact rfl) : Vl P n l o (.int .u8 (z.toNat : Int)) := fun _ _ hF =>
  opXorU rfl ho (hF.vo hx) (hF.vo hy) u.toNat_lt v.toNat_lt (by subst hz; exact (UInt8.toNat_xor u v).symm)
theorem Vl.pb (z : UInt8) (ho : o.op = .binOp .add t x y t2 := by exact rfl) (hx : vo l x = some (.int .u8 (u.toNat : Int)) := by exact rfl) (hy : vo l y = some (.int .u8 (v.toNat : Int)) := by exact rfl) (hz : u + v = z := by exact rfl) : Vl P n l o (.int .u8 (z.toNat : Int)) := fun _ _ hF =>
  opAddU rfl ho (hF.vo hx) (hF.vo hy) (by subst hz; exact (UInt8.toNat_add u v).symm)
theorem Vl.nb (z : UInt8) (ho : o.op = .binOp .andNot t x y t2 := by exact rfl) (hx : vo l x = some (.int .u8 (u.toNat : Int)) := by exact rfl) (hy : vo l y = some (.int .u8 (v.toNat : Int)) := by exact rfl) (hz : u &&& ~~~v = z := by exact rfl) : Vl P n l o (.int .u8 (z.toNat : Int)) := fun a w hF => by
  subst hz
  unfold execOp
  simp only [ho, hF.vo hx, hF.vo hy]
  rw [← andNot8]
  rfl
theorem Vl.lb (q : Nat) (ho : o.op = .binOp .shl t x y t2 := by exact rfl) (hx : vo l x = some (.int .u8 (u.toNat : Int)) := by exact rfl) (hy : vo l y = some (.int k (q : Int)) := by exact rfl) (hq : q ≤ 8 := by omega) : Vl P n l o (.int .u8 ((sl8 u q).toNat : Int)) := fun _ _ hF => opShlU rfl ho (hF.vo hx) (hF.vo hy) hq (sl8_nat u q).symm
theorem Vl.rb (q : Nat) (ho : o.op = .binOp .shr t x y t2 := by exact rfl) (hx : vo l x = some (.int .u8 (u.toNat : Int)) := by exact rfl) (hy : vo l y = some (.int k (q : Int)) := by exact rfl) (hq : q ≤ 8 := by omega) : Vl P n l o (.int .u8 ((sr8 u q).toNat : Int)) := fun _ _ hF => opShrU ho (hF.vo hx) (hF.vo hy) hq (sr8_nat u q).symm
end
/-! ### '==' of structs of words -/
section
variable {P : Program} {w : World} {e t : TypeId}
end
end Go.Proofs.YtfloiekaiiapnaaGreatDoor

namespace Go.Proofs.YtfloiekaiiapnaaGreatDoor
open Go Go.RowKit

/-- A key of at most 64 bytes, filled with noughts, each byte turned by y. -/
def xpad (key : List UInt8) (y : UInt8) : List UInt8 := lst 64 (fun j => key.getD j 0 ^^^ y)
theorem xpad_len (key : List UInt8) (y : UInt8) : (xpad key y).length = 64 := lst_len _ _
def k0 (key : List UInt8) : List UInt8 := if 64 < key.length then lst 32 (sha key) else key
theorem k0_short {key : List UInt8} (h : ¬ 64 < key.length) : k0 key = key := if_neg h
def hmac (key m : List UInt8) : Nat → UInt8 := sha (xpad (k0 key) 92 ++ lst 32 (sha (xpad (k0 key) 54 ++ m)))
/-- The first j bytes turned. -/
def mkx (y : UInt8) (j : Nat) (f : Nat → UInt8) : Nat → UInt8 := fun i => if i < j then f i ^^^ y else f i
theorem mkx_0 (y : UInt8) (f : Nat → UInt8) : mkx y 0 f = f := by funext i; simp [mkx]
theorem mkx_succ (y : UInt8) (i : Nat) (f : Nat → UInt8) : stF (mkx y i f) i (mkx y i f i ^^^ y) = mkx y (i + 1) f := by
  funext j
  unfold stF mkx
  by_cases h : j = i
  · subst h; simp
  · by_cases h2 : j < i
    · simp [h, h2, Nat.lt_succ_of_lt h2]
    · have h3 : ¬ j < i + 1 := by omega
      simp [h, h2, h3]
theorem mkx_pad {l : List UInt8} {n : Nat} (hn : l.length = n) (y : UInt8) : lst 64 (mkx y 64 (ovr (l.take n) fun _ => 0)) = xpad l y := by
  subst hn
  rw [List.take_length]
  have h : ∀ i, i < 64 → mkx y 64 (ovr l fun _ => 0) i = l.getD i 0 ^^^ y := fun i hi => by
    unfold mkx
    rw [if_pos hi]
    unfold ovr
    by_cases h : i < l.length
    · rw [if_pos h]
    · rw [if_neg h, List.getD_eq_getElem?_getD, List.getElem?_eq_none (by omega)]; rfl
  exact List.map_congr_left fun i hi => h i (List.mem_range.1 hi)
theorem pad_x {l : List UInt8} {n : Nat} (hn : l.length = n) (y : UInt8) : lst 64 (fun j => ovr (l.take n) (fun _ => 0) j ^^^ y) = xpad l y := by
  rw [← mkx_pad hn y]
  exact List.map_congr_left fun i hi => (if_pos (List.mem_range.1 hi)).symm
/-- HKDF's blocks, and the first i of them on end. -/
def tK (prk info : List UInt8) : Nat → List UInt8
  | 0 => []
  | i + 1 => lst 32 (hmac prk (tK prk info i ++ (info ++ [UInt8.ofNat (i + 1)])))
def tCat (prk info : List UInt8) : Nat → List UInt8
  | 0 => []
  | i + 1 => tCat prk info i ++ tK prk info (i + 1)
theorem tK_len (prk info : List UInt8) (i : Nat) : (tK prk info (i + 1)).length = 32 := lst_len _ _
theorem tK_le (prk info : List UInt8) (i : Nat) : (tK prk info i).length ≤ 32 := by
  cases i with
  | zero => exact Nat.zero_le _
  | succ i => rw [tK_len]; exact Nat.le_refl _
theorem tCat_len (prk info : List UInt8) (i : Nat) : (tCat prk info i).length = 32 * i := by
  induction i with
  | zero => rfl
  | succ i ih => show (tCat prk info i ++ tK prk info (i + 1)).length = _; rw [List.length_append, ih, tK_len]; omega
/-- The key material. -/
def okmL (salt secret info : List UInt8) (n : Nat) : List UInt8 := (tCat (lst 32 (hmac salt secret)) info 255).take n
theorem tCat_take (prk info : List UInt8) {i j n : Nat} (hij : i ≤ j) (hn : n ≤ 32 * i) : (tCat prk info j).take n = (tCat prk info i).take n := by
  induction j with
  | zero => rw [show i = 0 by omega]
  | succ j ih =>
    by_cases h : i = j + 1
    · rw [h]
    · show (tCat prk info j ++ _).take n = _
      rw [List.take_append_of_le_length (by rw [tCat_len]; omega), ih (by omega)]
theorem okm_of (salt secret info : List UInt8) {i n : Nat} (hi : i ≤ 255) (hn : n ≤ 32 * i) : okmL salt secret info n = (tCat (lst 32 (hmac salt secret)) info i).take n := tCat_take _ _ hi hn
theorem okm_len (salt secret info : List UInt8) {n : Nat} (hn : n ≤ 8160) : (okmL salt secret info n).length = n := by
  unfold okmL
  rw [List.length_take, tCat_len]; omega
theorem tCat_go (prk info : List UInt8) {i n : Nat} : (tCat prk info i).take n ++ (tK prk info (i + 1)).take (min 32 (n - ((tCat prk info i).take n).length)) = (tCat prk info (i + 1)).take n := by
  show _ = (tCat prk info i ++ tK prk info (i + 1)).take n
  rw [List.take_append, List.length_take, tCat_len]
  congr 1
  by_cases h : n ≤ 32 * i
  · rw [show min 32 (n - min n (32 * i)) = 0 by omega, show n - 32 * i = 0 by omega]
  · rw [show min n (32 * i) = 32 * i by omega]
    by_cases h2 : n - 32 * i ≤ 32
    · rw [show min 32 (n - 32 * i) = n - 32 * i by omega]
    · rw [show min 32 (n - 32 * i) = 32 by omega, List.take_of_length_le (by rw [tK_len]; exact Nat.le_refl _), List.take_of_length_le (by rw [tK_len]; omega)]
end Go.Proofs.YtfloiekaiiapnaaGreatDoor

namespace Go.Proofs.YtfloiekaiiapnaaGreatDoor
open Go

/-- What an operation chose: an address, a capacity, where a slice lies, a value, what it made. -/
structure Ch where
  g : Nat
  c : Nat
  A : Option Addr
  v : Value
  E : Hl
def ch0 : Ch := ⟨0, 0, none, undef, []⟩
abbrev Chs := Nat → Ch
def onD (ds : List Nat) (G : Chs) : Chs := fun k => cond (ds.contains k) (G k) ch0
/-- An operation: its number, its slot; whose slots it reads, whose choices it names; the heaplets that it turns, and reads; its value, what it leaves, what is known. -/
structure It where
  i : Nat
  d : Option Nat
  ns : List Nat
  ds : List Nat
  s : List Nat
  r : List Nat
  v : Chs → Ch → Value
  E : Chs → Ch → Hl
  post : Chs → Ch → Prop
def It.val (t : It) (G : Chs) : Value := t.v (onD t.ds G) (G t.i)
def It.hl (t : It) (G : Chs) : Hl := t.E (onD t.ds G) (G t.i)
def slotOf : Option Nat → Value → Slots
  | some d, v => [(d, v)]
  | none, _ => []
def slotsOf (G : Chs) : List It → Slots
  | [] => []
  | t :: r => slotOf t.d (t.val G) ++ slotsOf G r
def availG (l : Slots) (its : List It) (ns : List Nat) (G : Chs) : Slots := slotsOf G (its.filter fun s => ns.contains s.i) ++ l
def basesG : Nat → List Hl → List (Nat × Hl)
  | _, [] => []
  | k, h :: r => (k, h) :: basesG (k + 1) r
def ownG (Hs : List Hl) (its : List It) (G : Chs) : List (Nat × Hl) := basesG 1000 Hs ++ its.map fun t => (t.i, t.hl G)
def lookG (id : Nat) : List (Nat × Hl) → Hl
  | [] => []
  | x :: r => cond (Nat.beq x.1 id) x.2 (lookG id r)
def goneG (its : List It) (dn : Nat → Bool) (id : Nat) : Bool := its.any fun u => dn u.i && u.s.contains id
def liveG (its : List It) (dn : Nat → Bool) (id : Nat) : Bool := (Nat.ble 1000 id || dn id) && !goneG its dn id
def stE (al : Nat → Bool) (o : List (Nat × Hl)) : List Hl := o.map fun x => cond (al x.1) x.2 []
def postsG (G : Chs) : List It → Prop
  | [] => True
  | t :: r => t.post (onD t.ds G) (G t.i) ∧ postsG G r

/-! ### Heaplets by their owners -/
theorem look_mem {id : Nat} {h : Hl} : ∀ {O : List (Nat × Hl)}, (O.map (·.1)).Nodup → (id, h) ∈ O → lookG id O = h
  | [], _, hm => by cases hm
  | x :: r, hn, hm => by
    rw [lookG]
    rw [List.map_cons, List.nodup_cons] at hn
    rcases List.mem_cons.1 hm with rfl | hm
    · rw [Nat.beq_refl]; rfl
    · have hne : x.1 ≠ id := fun e => hn.1 (e ▸ List.mem_map_of_mem (f := (·.1)) hm)
      have : Nat.beq x.1 id = false := by
        cases hb : Nat.beq x.1 id
        · rfl
        · exact absurd (Nat.eq_of_beq_eq_true hb) hne
      rw [this]
      exact look_mem hn.2 hm
theorem extract1G {al : Nat → Bool} {id : Nat} (ha : al id = true) : ∀ {O : List (Nat × Hl)}, (O.map (·.1)).Nodup → id ∈ O.map (·.1) →
    ((stE al O).flatten).Perm (lookG id O ++ (stE (fun k => al k && !(k == id)) O).flatten)
  | [], _, hm => by cases hm
  | x :: r, hn, hm => by
    rw [List.map_cons, List.nodup_cons] at hn
    rw [lookG]
    show ((cond (al x.1) x.2 [] :: stE al r).flatten).Perm (_ ++ (cond (al x.1 && !(x.1 == id)) x.2 [] :: stE (fun k => al k && !(k == id)) r).flatten)
    rw [List.flatten_cons, List.flatten_cons]
    by_cases hx : x.1 = id
    · subst hx
      rw [Nat.beq_refl, ha]
      have e : stE (fun k => al k && !(k == x.1)) r = stE al r := List.map_congr_left fun y hy => by
        have hne : y.1 ≠ x.1 := fun e => hn.1 (e ▸ List.mem_map_of_mem (f := (·.1)) hy)
        have : (y.1 == x.1) = false := by simp [hne]
        simp only [this, Bool.not_false, Bool.and_true]
      rw [e]
      simp
    · have h1 : Nat.beq x.1 id = false := by
        cases hb : Nat.beq x.1 id
        · rfl
        · exact absurd (Nat.eq_of_beq_eq_true hb) hx
      have h2 : (x.1 == id) = false := by simp [hx]
      have hm : id ∈ r.map (·.1) := by
        rcases List.mem_cons.1 hm with h | h
        · exact absurd h.symm hx
        · exact h
      rw [h1, h2, Bool.not_false, Bool.and_true]
      refine (List.Perm.append_left _ (extract1G ha hn.2 hm)).trans ?_
      rw [← List.append_assoc, ← List.append_assoc]
      exact List.Perm.append_right _ List.perm_append_comm
theorem extractG : ∀ (q : List Nat) {al : Nat → Bool} {O : List (Nat × Hl)}, (O.map (·.1)).Nodup → q.Nodup → (∀ id ∈ q, al id = true ∧ id ∈ O.map (·.1)) →
    ((stE al O).flatten).Perm ((q.map fun id => lookG id O).flatten ++ (stE (fun k => al k && !q.contains k) O).flatten)
  | [], al, O, _, _, _ => by
    have e : (fun k => al k && !([] : List Nat).contains k) = al := by funext k; simp
    rw [e]
    exact List.Perm.refl _
  | id :: q, al, O, hn, hq, h => by
    rw [List.nodup_cons] at hq
    refine (extract1G (h id (by simp)).1 hn (h id (by simp)).2).trans ?_
    rw [List.map_cons, List.flatten_cons, List.append_assoc]
    refine List.Perm.append_left _ ?_
    have := extractG q (al := fun k => al k && !(k == id)) hn hq.2 fun k hk => ⟨by
      have hne : k ≠ id := fun e => hq.1 (e ▸ hk)
      have : (k == id) = false := by simp [hne]
      rw [(h k (by simp [hk])).1, this]; rfl, (h k (by simp [hk])).2⟩
    have e : (fun k => (al k && !(k == id)) && !q.contains k) = fun k => al k && !(id :: q).contains k := by
      funext k
      rw [List.contains_cons]
      cases al k <;> cases (k == id) <;> rfl
    rw [e] at this
    exact this

section
variable {P : Program} {ops : Array Oper} {Q : Exit → Act → World → Prop} {w w0 : World} {n : Sz} {m : Nat} {l : Slots} {L : Array Bool} {R : List Nat} {Hs : List Hl} {its : List It} {t : It}
/-- The operation keeps to its word. -/
def Sp (P : Program) (ops : Array Oper) (n : Sz) (w0 : World) (R : List Nat) (Hs : List Hl) (l : Slots) (its : List It) (t : It) : Prop :=
  ∀ G a w Xs, Fr n (availG l its t.ns G) a → HH w0 R ((t.s.map fun id => lookG id (ownG Hs its G)) ++ ((t.r.map fun id => lookG id (ownG Hs its G)) ++ Xs)) w →
    Out P (fun v w' => ∃ x, t.post (onD t.ds G) x ∧ (t.d.isSome = true → v = t.v (onD t.ds G) x) ∧ HH w0 R (t.E (onD t.ds G) x :: ((t.r.map fun id => lookG id (ownG Hs its G)) ++ Xs)) w') ((execOp a.eval (opAt ops t.i)).run P w)
def wfG (ops : Array Oper) (i k : Nat) : Bool := waitsFor .any ops 6 i k
def nodupB : List Nat → Bool
  | [] => true
  | x :: r => !r.contains x && nodupB r
def isDone (ops : Array Oper) (its : List It) (i k : Nat) : Bool := its.any (fun s => Nat.beq s.i k) && wfG ops i k
def fitsD (n : Sz) (l : Slots) : Option Nat → Bool
  | some d => Nat.blt d n.n && l.all fun x => !(Nat.beq x.1 d)
  | none => true
def itOk (ops : Array Oper) (L : Array Bool) (n : Sz) (l : Slots) (nb : Nat) (its : List It) (t : It) : Bool :=
  Nat.blt t.i ops.size && ((opAt ops t.i).dst == t.d) && (opAt ops t.i).guard.isNone && fitsD n l t.d && Nat.blt t.i L.size && !(L.getD t.i true) &&
  t.ns.all (isDone ops its t.i) && t.ds.all (isDone ops its t.i) && (t.s ++ t.r).all (fun id => (Nat.ble 1000 id && Nat.blt id (1000 + nb)) || isDone ops its t.i id) && nodupB (t.s ++ t.r) &&
  its.all (fun u => Nat.beq u.i t.i || (!(u.s.any t.s.contains) && (!(u.s.any t.r.contains) || wfG ops u.i t.i))) &&
  (opAt ops t.i).after.all fun e => !Region.binds .any e || L.getD e.on false || (its.any (fun s => Nat.beq s.i e.on) && Nat.blt e.on t.i)
def distinctB : List It → Bool
  | [] => true
  | t :: r => r.all (fun s => !(Nat.beq s.i t.i) && !(t.d.isSome && s.d == t.d)) && distinctB r
def pgOk (ops : Array Oper) (L : Array Bool) (n : Sz) (l : Slots) (nb : Nat) (its : List It) : Bool :=
  Nat.ble ops.size 1000 && distinctB its && its.all (itOk ops L n l nb its) &&
  (List.range ops.size).all fun j => L.getD j true || its.any (fun t => Nat.beq t.i j) || its.all fun t => wfG ops j t.i
theorem beqt {a b : Nat} (h : Nat.beq a b = true) : a = b := Nat.eq_of_beq_eq_true h
theorem beqf {a b : Nat} (h : a ≠ b) : Nat.beq a b = false := by
  cases hb : Nat.beq a b
  · rfl
  · exact absurd (beqt hb) h
theorem nodupB_spec : ∀ {l : List Nat}, nodupB l = true → l.Nodup
  | [], _ => List.nodup_nil
  | x :: r, h => by
    unfold nodupB at h
    obtain ⟨h1, h2⟩ := Bool.and_eq_true_iff.1 h
    rw [List.nodup_cons]
    exact ⟨fun hm => (by rw [List.contains_iff_mem.2 hm] at h1; cases h1), nodupB_spec h2⟩
theorem distinct_ne : ∀ {its : List It}, distinctB its = true → (its.map (·.i)).Nodup
  | [], _ => List.nodup_nil
  | t :: r, h => by
    unfold distinctB at h
    obtain ⟨h1, h2⟩ := Bool.and_eq_true_iff.1 h
    rw [List.map_cons, List.nodup_cons]
    refine ⟨fun hm => ?_, distinct_ne h2⟩
    obtain ⟨s, hs, e⟩ := List.mem_map.1 hm
    have := List.all_eq_true.1 h1 s hs
    obtain ⟨h3, _⟩ := Bool.and_eq_true_iff.1 this
    rw [e, Nat.beq_refl] at h3
    cases h3
theorem same_it {s t : It} : ∀ {its : List It}, distinctB its = true → s ∈ its → t ∈ its → s.i = t.i → s = t
  | [], _, h, _, _ => by cases h
  | x :: r, hd, h, h', e => by
    unfold distinctB at hd
    obtain ⟨h1, h2⟩ := Bool.and_eq_true_iff.1 hd
    have hne : ∀ y ∈ r, y.i ≠ x.i := fun y hy e => by
      have := List.all_eq_true.1 h1 y hy
      obtain ⟨h3, _⟩ := Bool.and_eq_true_iff.1 this
      rw [e, Nat.beq_refl] at h3
      cases h3
    rcases List.mem_cons.1 h with rfl | k1
    · rcases List.mem_cons.1 h' with rfl | k2
      · rfl
      · exact absurd e.symm (hne t k2)
    · rcases List.mem_cons.1 h' with rfl | k2
      · exact absurd e (hne s k1)
      · exact same_it h2 k1 k2 e
theorem slot_ne {s t : It} : ∀ {its : List It}, distinctB its = true → s ∈ its → t ∈ its → s.i ≠ t.i → ∀ d, s.d = some d → t.d = some d → False
  | [], _, h, _, _ => by cases h
  | x :: r, hd, h, h', e => fun d hs ht => by
    unfold distinctB at hd
    obtain ⟨h1, h2⟩ := Bool.and_eq_true_iff.1 hd
    have hne : ∀ y ∈ r, x.d = some d → y.d = some d → False := fun y hy hx hyd => by
      have := List.all_eq_true.1 h1 y hy
      obtain ⟨_, h3⟩ := Bool.and_eq_true_iff.1 this
      rw [hx, hyd] at h3
      simp at h3
    rcases List.mem_cons.1 h with rfl | k1
    · rcases List.mem_cons.1 h' with rfl | k2
      · exact e rfl
      · exact hne t k2 hs ht
    · rcases List.mem_cons.1 h' with rfl | k2
      · exact hne s k1 ht hs
      · exact slot_ne h2 k1 k2 e d hs ht
theorem count_up (dn : Nat → Bool) (t : It) (hn : dn t.i = false) : ∀ (its : List It), (its.map (·.i)).Nodup → t ∈ its →
    (its.filter fun s => !dn s.i).length = (its.filter fun s => !(s.i == t.i || dn s.i)).length + 1
  | [], _, h => by cases h
  | s :: r, hd, h => by
    rw [List.map_cons, List.nodup_cons] at hd
    by_cases hs : s.i = t.i
    · have e : (r.filter fun x => !(x.i == t.i || dn x.i)) = r.filter fun x => !dn x.i := List.filter_congr fun x hx => by
        have hne : x.i ≠ t.i := fun e => hd.1 (hs ▸ e ▸ List.mem_map_of_mem (f := (·.i)) hx)
        have e2 : (x.i == t.i) = false := by simp [hne]
        rw [e2, Bool.false_or]
      rw [List.filter_cons, List.filter_cons, e]
      simp [hs, hn]
    · have ht : t ∈ r := (List.mem_cons.1 h).resolve_left fun e => hs (by rw [e])
      have ih := count_up dn t hn r hd.2 ht
      have e2 : (s.i == t.i) = false := by simp [hs]
      rw [List.filter_cons, List.filter_cons, e2, Bool.false_or]
      split
      · rw [List.length_cons, List.length_cons, ih]
      · exact ih
theorem bases_keys : ∀ (k : Nat) (Hs : List Hl) (x : Nat), x ∈ (basesG k Hs).map (·.1) ↔ k ≤ x ∧ x < k + Hs.length
  | k, [], x => by simp [basesG]
  | k, h :: r, x => by
    rw [basesG, List.map_cons, List.mem_cons, bases_keys (k + 1) r x, List.length_cons]
    show x = k ∨ _ ↔ _
    omega
theorem bases_nodup : ∀ (k : Nat) (Hs : List Hl), ((basesG k Hs).map (·.1)).Nodup
  | k, [] => List.nodup_nil
  | k, h :: r => by
    rw [basesG, List.map_cons, List.nodup_cons, bases_keys]
    exact ⟨fun h => by have := h.1; show False; change k + 1 ≤ k at this; omega, bases_nodup (k + 1) r⟩
theorem bases_all {al : Nat → Bool} : ∀ (k : Nat) (Hs : List Hl), (∀ x, k ≤ x → al x = true) → stE al (basesG k Hs) = Hs
  | k, [], _ => rfl
  | k, h :: r, ha => by
    show cond (al k) h [] :: stE al (basesG (k + 1) r) = _
    rw [ha k (Nat.le_refl _), bases_all (k + 1) r fun x hx => ha x (by omega)]
    rfl
def setIts (L : Array Bool) (its : List It) : Array Bool := its.foldl (fun L t => L.setIfInBounds t.i true) L
theorem any_congr' {α : Type} {f g : α → Bool} : ∀ {l : List α}, (∀ x ∈ l, f x = g x) → l.any f = l.any g
  | [], _ => rfl
  | a :: r, h => by rw [List.any_cons, List.any_cons, h a (by simp), any_congr' fun x hx => h x (by simp [hx])]
theorem setIts_at : ∀ (its : List It) (L : Array Bool) (k : Nat), (setIts L its)[k]? = if k < L.size then some (L.getD k true || its.any fun t => t.i == k) else none
  | [], L, k => by
    show L[k]? = _
    split
    · rename_i h; simp [h]
    · rename_i h; simp [Array.getElem?_eq_none (Nat.not_lt.1 h)]
  | t :: r, L, k => by
    show (setIts (L.setIfInBounds t.i true) r)[k]? = _
    rw [setIts_at r, Array.size_setIfInBounds]
    split
    · rename_i h
      by_cases e : t.i = k
      · subst e; simp [h]
      · have e2 : (t.i == k) = false := by simp [e]
        simp [h, e, e2]
    · rfl
theorem slotsOf_mem {G : Chs} {x : Nat × Value} : ∀ {its : List It}, x ∈ slotsOf G its → ∃ t ∈ its, t.d = some x.1 ∧ x.2 = t.val G
  | [], h => by cases h
  | t :: r, h => by
    rw [slotsOf] at h
    rcases List.mem_append.1 h with h | h
    · cases hd : t.d with
      | none => rw [hd] at h; cases h
      | some d =>
        rw [hd] at h
        obtain rfl : x = (d, t.val G) := by simpa [slotOf] using h
        exact ⟨t, by simp, hd, rfl⟩
    · obtain ⟨s, hs, h1⟩ := slotsOf_mem h
      exact ⟨s, by simp [hs], h1⟩
/-- What a state of the region is. -/
structure Pg (n : Sz) (w0 : World) (R : List Nat) (Hs : List Hl) (L : Array Bool) (l : Slots) (its : List It) (dn : Nat → Bool) (G : Chs) (L' : Array Bool) (a : Act) (w : World) : Prop where
  list : ∀ k, L'[k]? = if k < L.size then some (L.getD k true || its.any fun t => t.i == k && dn k) else none
  fr : Fr n l a
  done : ∀ t ∈ its, dn t.i = true → ∀ d, t.d = some d → a.tmps.getD d undef = t.val G
  pst : ∀ t ∈ its, dn t.i = true → t.post (onD t.ds G) (G t.i)
  dsd : ∀ t ∈ its, dn t.i = true → ∀ k ∈ t.ds, dn k = true
  hh : HH w0 R (stE (liveG its dn) (ownG Hs its G)) w
theorem onD_upd {dn : Nat → Bool} {G : Chs} {i : Nat} {x : Ch} {ds : List Nat} (hi : dn i = false) (h : ∀ k ∈ ds, dn k = true) : onD ds (fun k => if k = i then x else G k) = onD ds G := by
  funext k
  unfold onD
  cases hc : ds.contains k
  · rfl
  · have h1 := h k (List.contains_iff_mem.1 hc)
    have : k ≠ i := fun e => by rw [e, hi] at h1; cases h1
    show (if k = i then x else G k) = G k
    rw [if_neg this]
theorem phaseG (hok0 : okAll .any ops = true) (hi : pgOk ops L n l Hs.length its = true) (hsp : ∀ t ∈ its, Sp P ops n w0 R Hs l its t)
    (h : ∀ (G : Chs) w', (∀ t ∈ its, t.post (onD t.ds G) (G t.i)) → HH w0 R (stE (liveG its fun _ => true) (ownG Hs its G)) w' → RX P ops Q m [] (setIts L its) n (slotsOf G its ++ l) w') :
    ∀ (c : Nat) (dn : Nat → Bool) (G : Chs) (L' : Array Bool) (a : Act) (w : World), (its.filter fun t => !dn t.i).length = c → Closed .any ops L' → Pg n w0 R Hs L l its dn G L' a w → wpX P .any ops Q (c + m) [] L' a w := by
  unfold pgOk at hi
  simp only [Bool.and_eq_true] at hi
  obtain ⟨⟨⟨hi0, hd⟩, hi1⟩, hi2⟩ := hi
  have hsize : ops.size ≤ 1000 := Nat.le_of_ble_eq_true hi0
  have hnd := distinct_ne hd
  intro c
  induction c with
  | zero =>
    intro dn G L' a w hc hcl hp
    have hall : ∀ t ∈ its, dn t.i = true := fun t ht => by
      have := List.filter_eq_nil_iff.1 (List.length_eq_zero_iff.1 hc) t ht
      simpa using this
    have hL : L' = setIts L its := by
      apply Array.ext_getElem?
      intro k
      rw [hp.list, setIts_at]
      congr 3
      exact any_congr' fun t ht => by
        by_cases e : t.i = k
        · subst e; simp [hall t ht]
        · simp [e]
    subst hL
    rw [Nat.zero_add]
    have hg : ∀ id, goneG its dn id = goneG its (fun _ => true) id := fun id => any_congr' fun u hu => by rw [hall u hu]
    have hst : stE (liveG its dn) (ownG Hs its G) = stE (liveG its fun _ => true) (ownG Hs its G) := by
      refine List.map_congr_left fun x hx => ?_
      have : liveG its dn x.1 = liveG its (fun _ => true) x.1 := by
        unfold liveG
        rw [hg]
        congr 1
        rcases List.mem_append.1 hx with hx | hx
        · have := ((bases_keys 1000 Hs x.1).1 (List.mem_map_of_mem hx)).1
          rw [Nat.ble_eq_true_of_le this]; rfl
        · obtain ⟨t, ht, rfl⟩ := List.mem_map.1 hx
          rw [show dn t.i = true from hall t ht]
      rw [this]
    refine h G w (fun t ht => hp.pst t ht (hall t ht)) (hst ▸ hp.hh) hok0 hcl (fun _ h => by cases h) a ⟨hp.fr.size, hp.fr.defers, fun x hx => ?_⟩
    rcases List.mem_append.1 hx with hx | hx
    · obtain ⟨t, ht, h1, h2⟩ := slotsOf_mem hx
      rw [h2]
      exact hp.done t ht (hall t ht) _ h1
    · exact hp.fr.get x hx
  | succ c ih =>
    intro dn G L' a w hc hcl hp
    have hex : ∃ t ∈ its, dn t.i = false := by
      have : (its.filter fun t => !dn t.i) ≠ [] := fun e => by rw [e] at hc; cases hc
      obtain ⟨t, ht⟩ := List.exists_mem_of_ne_nil _ this
      obtain ⟨h1, h2⟩ := List.mem_filter.1 ht
      exact ⟨t, h1, by simpa using h2⟩
    have hit : ∀ t ∈ its, t.i < ops.size ∧ (opAt ops t.i).dst = t.d ∧ (opAt ops t.i).guard = none ∧ fitsD n l t.d = true ∧ t.i < L.size ∧ L.getD t.i true = false ∧
        (∀ k ∈ t.ns, isDone ops its t.i k = true) ∧ (∀ k ∈ t.ds, isDone ops its t.i k = true) ∧ (∀ id ∈ t.s ++ t.r, (1000 ≤ id ∧ id < 1000 + Hs.length) ∨ isDone ops its t.i id = true) ∧ (t.s ++ t.r).Nodup ∧
        (∀ u ∈ its, u.i ≠ t.i → (∀ id ∈ u.s, id ∉ t.s) ∧ ((∃ id ∈ u.s, id ∈ t.r) → wfG ops u.i t.i = true)) ∧
        ∀ e ∈ (opAt ops t.i).after, Region.binds .any e = true → L.getD e.on false = true ∨ ((∃ s ∈ its, s.i = e.on) ∧ e.on < t.i) := fun t ht => by
      have := List.all_eq_true.1 hi1 t ht
      unfold itOk at this
      simp only [Bool.and_eq_true, beq_iff_eq, Option.isNone_iff_eq_none, Bool.not_eq_true'] at this
      obtain ⟨⟨⟨⟨⟨⟨⟨⟨⟨⟨⟨a1, a2⟩, a3⟩, a4⟩, a5⟩, a6⟩, a7⟩, a8⟩, a9⟩, a10⟩, a11⟩, a12⟩ := this
      refine ⟨ltb a1, a2, a3, a4, ltb a5, a6, List.all_eq_true.1 a7, List.all_eq_true.1 a8, fun id hid => ?_, nodupB_spec a10, fun u hu hne => ?_, fun e he hb => ?_⟩
      · have := List.all_eq_true.1 a9 id hid
        rcases Bool.or_eq_true_iff.1 this with h1 | h1
        · obtain ⟨h2, h3⟩ := Bool.and_eq_true_iff.1 h1
          exact .inl ⟨Nat.le_of_ble_eq_true h2, ltb h3⟩
        · exact .inr h1
      · have := List.all_eq_true.1 a11 u hu
        rw [beqf hne, Bool.false_or] at this
        obtain ⟨h1, h2⟩ := Bool.and_eq_true_iff.1 this
        refine ⟨fun id h3 h4 => ?_, fun ⟨id, h3, h4⟩ => ?_⟩
        · have : u.s.any t.s.contains = true := List.any_eq_true.2 ⟨id, h3, List.contains_iff_mem.2 h4⟩
          rw [this] at h1; cases h1
        · have : u.s.any t.r.contains = true := List.any_eq_true.2 ⟨id, h3, List.contains_iff_mem.2 h4⟩
          rw [this] at h2
          simpa using h2
      · have := Array.all_eq_true'.1 a12 e he
        rw [hb, Bool.not_true, Bool.false_or] at this
        rcases Bool.or_eq_true_iff.1 this with h1 | h1
        · exact .inl h1
        · obtain ⟨h2, h3⟩ := Bool.and_eq_true_iff.1 h1
          obtain ⟨s, hs, h4⟩ := List.any_eq_true.1 h2
          exact .inr ⟨⟨s, hs, beqt h4⟩, ltb h3⟩
    have hLat : ∀ k b, k < L.size → L'.getD k b = (L.getD k true || its.any fun t => t.i == k && dn k) := fun k b hk => by
      rw [Array.getD_eq_getD_getElem?, hp.list, if_pos hk]; rfl
    have hnot : ∀ t ∈ its, dn t.i = false → L'.getD t.i false = false := fun t ht hdn => by
      obtain ⟨_, _, _, _, a5, a6, _⟩ := hit t ht
      rw [hLat _ _ a5, a6, hdn]
      simp
    have hisdn : ∀ t ∈ its, L'.getD t.i false = true → dn t.i = true := fun t ht hL => by
      cases hdn : dn t.i
      · rw [hnot t ht hdn] at hL; cases hL
      · rfl
    have hyes : ∀ t ∈ its, dn t.i = true → L'.getD t.i true = true := fun t ht hdn => by
      obtain ⟨_, _, _, _, a5, _, _⟩ := hit t ht
      rw [hLat _ _ a5, hdn]
      have : (its.any fun s => s.i == t.i && true) = true := List.any_eq_true.2 ⟨t, ht, by simp⟩
      rw [this, Bool.or_true]
    rw [show c + 1 + m = (c + m) + 1 by omega]
    refine ⟨fun h0 => ?_, fun j hj => ?_⟩
    · exfalso
      have key : ∀ N, ∀ t ∈ its, t.i = N → dn t.i = false → ∃ k, k ∈ Region.ready .any ops L' := by
        intro N
        induction N using Nat.strongRecOn with
        | ind N ihN =>
          intro t ht e hdn
          obtain ⟨a1, _, _, _, a5, a6, _, _, _, _, _, a12⟩ := hit t ht
          by_cases hall : ∀ e ∈ (opAt ops t.i).after, Region.binds .any e = true → L'.getD e.on false = true
          · refine ⟨t.i, mem_ready.2 ⟨?_, opAt ops t.i, by simp [opAt, Array.getElem?_eq_getElem a1], hall⟩⟩
            rw [hLat _ _ a5, a6, hdn]; simp
          · obtain ⟨e1, h1⟩ := Classical.not_forall.1 hall
            obtain ⟨h2, h3⟩ := Classical.not_imp.1 h1
            obtain ⟨hb1, h4⟩ := Classical.not_imp.1 h3
            rcases a12 e1 h2 hb1 with h5 | ⟨⟨s, hs, h8⟩, h7⟩
            · exfalso
              have hk : e1.on < L.size := by
                rcases Nat.lt_or_ge e1.on L.size with h | h
                · exact h
                · simp [Array.getD, Nat.not_lt.2 h] at h5
              refine h4 ?_
              rw [hLat _ _ hk]
              have : L.getD e1.on true = true := by rw [Array.getD_eq_getD_getElem?, Array.getElem?_eq_getElem hk] at h5 ⊢; exact h5
              rw [this, Bool.true_or]
            · refine ihN s.i (by rw [h8, ← e]; exact h7) s hs rfl ?_
              cases hds : dn s.i
              · rfl
              · exfalso
                have hb := hyes s hs hds
                rw [hLat _ _ (hit s hs).2.2.2.2.1] at hb
                refine h4 ?_
                rw [← h8, hLat _ _ (hit s hs).2.2.2.2.1]
                exact hb
      obtain ⟨t, ht, hdn⟩ := hex
      obtain ⟨k, hk⟩ := key t.i t ht rfl hdn
      rw [h0] at hk; cases hk
    · have hwf : ∀ k, wfG ops j k = true → L'.getD k false = true := fun k hk => by
        obtain ⟨_, o, ho, hall⟩ := mem_ready.1 hj
        exact waitsFor_spec hcl k 6 j hk fun o' ho' => by rw [ho] at ho'; obtain rfl := Option.some.inj ho'; exact hall
      obtain ⟨hjun, o, ho, _⟩ := mem_ready.1 hj
      have hjs : j < ops.size := (Array.getElem?_eq_some_iff.1 ho).1
      have hji : ∃ t ∈ its, t.i = j ∧ dn t.i = false := by
        have := List.all_eq_true.1 hi2 j (List.mem_range.2 hjs)
        simp only [Bool.or_eq_true, List.any_eq_true, List.all_eq_true] at this
        rcases this with (h1 | ⟨t, ht, h1⟩) | h1
        · exfalso
          by_cases hk : j < L.size
          · rw [hLat _ _ hk, h1] at hjun; cases hjun
          · rw [Array.getD_eq_getD_getElem?, hp.list, if_neg hk] at hjun; cases hjun
        · have h1 := beqt h1
          refine ⟨t, ht, h1, ?_⟩
          cases hdn : dn t.i
          · rfl
          · rw [← h1, hyes t ht hdn] at hjun; cases hjun
        · exfalso
          obtain ⟨t, ht, hdn⟩ := hex
          have := hwf t.i (h1 t ht)
          rw [hnot t ht hdn] at this; cases this
      obtain ⟨t, ht, rfl, hdn⟩ := hji
      obtain ⟨a1, a2, a3, a4, a5, a6, a7, a8, a9, a10, a11, _⟩ := hit t ht
      have hdd : ∀ k, isDone ops its t.i k = true → dn k = true ∧ ∃ s ∈ its, s.i = k := fun k hk => by
        obtain ⟨h1, h2⟩ := Bool.and_eq_true_iff.1 hk
        obtain ⟨s, hs, h3⟩ := List.any_eq_true.1 h1
        obtain rfl := beqt h3
        exact ⟨hisdn s hs (hwf _ h2), s, hs, rfl⟩
      have hneed : Fr n (availG l its t.ns G) a := ⟨hp.fr.size, hp.fr.defers, fun x hx => by
        rcases List.mem_append.1 hx with hx | hx
        · obtain ⟨s, hs, h1, h2⟩ := slotsOf_mem hx
          obtain ⟨hs1, hs2⟩ := List.mem_filter.1 hs
          rw [h2]
          exact hp.done s hs1 (hdd s.i (a7 _ (List.contains_iff_mem.1 hs2))).1 _ h1
        · exact hp.fr.get x hx⟩
      -- the heaplets
      have hkeys : ∀ G, (ownG Hs its G).map (·.1) = (basesG 1000 Hs).map (·.1) ++ its.map (·.i) := fun G => by
        unfold ownG
        rw [List.map_append, List.map_map]
        rfl
      have hsmall : ∀ s ∈ its, s.i < 1000 := fun s hs => Nat.lt_of_lt_of_le (hit s hs).1 hsize
      have hnodup : ∀ G, ((ownG Hs its G).map (·.1)).Nodup := fun G => by
        rw [hkeys]
        refine List.nodup_append.2 ⟨bases_nodup _ _, hnd, fun x hx y hy => ?_⟩
        obtain ⟨s, hs, rfl⟩ := List.mem_map.1 hy
        have h1 := ((bases_keys 1000 Hs x).1 hx).1
        have h2 := hsmall s hs
        show x ≠ s.i
        omega
      have hin : ∀ id ∈ t.s ++ t.r, liveG its dn id = true ∧ (id ∈ t.r → ∀ u ∈ its, dn u.i = true → id ∉ u.s) ∧ id ≠ t.i ∧ ∀ G, id ∈ (ownG Hs its G).map (·.1) := fun id hid => by
        have hcons : ∀ u ∈ its, dn u.i = true → id ∉ u.s := fun u hu hdu hm => by
          have hne : u.i ≠ t.i := fun e => by rw [e, hdn] at hdu; cases hdu
          obtain ⟨h1, h2⟩ := a11 u hu hne
          rcases List.mem_append.1 hid with h3 | h3
          · exact h1 id hm h3
          · have h4 := h2 ⟨id, hm, h3⟩
            have hLu := hyes u hu hdu
            have h5 := waitsFor_spec hcl t.i 6 u.i h4 fun o ho e he hb => hcl u.i o ho hLu e he hb
            rw [hnot t ht hdn] at h5; cases h5
        have hg : goneG its dn id = false := by
          cases hgg : goneG its dn id
          · rfl
          · obtain ⟨u, hu, h1⟩ := List.any_eq_true.1 hgg
            obtain ⟨h2, h3⟩ := Bool.and_eq_true_iff.1 h1
            exact absurd (List.contains_iff_mem.1 h3) (hcons u hu h2)
        refine ⟨?_, fun _ => hcons, ?_, fun G => ?_⟩
        · unfold liveG
          rw [hg]
          rcases a9 id hid with ⟨h1, _⟩ | h1
          · rw [Nat.ble_eq_true_of_le h1]; rfl
          · rw [(hdd id h1).1]; simp
        · rcases a9 id hid with ⟨h1, _⟩ | h1
          · have := hsmall t ht; omega
          · intro e
            have := (hdd id h1).1
            rw [e, hdn] at this; cases this
        · rw [hkeys]
          rcases a9 id hid with ⟨h1, h2⟩ | h1
          · exact List.mem_append_left _ ((bases_keys 1000 Hs id).2 ⟨h1, h2⟩)
          · obtain ⟨_, s, hs, rfl⟩ := hdd id h1
            exact List.mem_append_right _ (List.mem_map_of_mem hs)
      obtain ⟨hns, hnr, hnsr⟩ := List.nodup_append.1 a10
      have hrest : ((stE (fun k => liveG its dn k && !t.s.contains k) (ownG Hs its G)).flatten).Perm
          ((t.r.map fun id => lookG id (ownG Hs its G)).flatten ++ (stE (fun k => (liveG its dn k && !t.s.contains k) && !t.r.contains k) (ownG Hs its G)).flatten) :=
        extractG t.r (hnodup G) hnr fun id hid => by
          obtain ⟨h1, _, _, h4⟩ := hin id (List.mem_append_right _ hid)
          have h5 : t.s.contains id = false := by
            cases hcc : t.s.contains id
            · rfl
            · exact absurd rfl (hnsr id (List.contains_iff_mem.1 hcc) id hid)
          exact ⟨by rw [h1, h5]; rfl, h4 G⟩
      have hbefore : HH w0 R ((t.s.map fun id => lookG id (ownG Hs its G)) ++ ((t.r.map fun id => lookG id (ownG Hs its G)) ++ [(stE (fun k => (liveG its dn k && !t.s.contains k) && !t.r.contains k) (ownG Hs its G)).flatten])) w := by
        refine hp.hh.perm ?_
        rw [List.flatten_append, List.flatten_append, List.flatten_cons, List.flatten_nil, List.append_nil]
        refine (extractG t.s (hnodup G) hns fun id hid => ?_).trans (List.Perm.append_left _ hrest)
        obtain ⟨h1, _, _, h4⟩ := hin id (List.mem_append_left _ hid)
        exact ⟨h1, h4 G⟩
      have hs := hsp t ht G a w _ hneed hbefore
      unfold opO
      have hops : ops[t.i]? = some (opAt ops t.i) := by simp [opAt, Array.getElem?_eq_getElem a1]
      simp only [hops, unguarded a3, if_true]
      refine hs.mono fun v w' ⟨x, hpo, hv, hH'⟩ => ⟨[], fun _ h => by simp at h, fun _ h => by simp at h, ?_⟩
      have hdst : ∀ k ∈ t.ds, dn k = true := fun k hk => (hdd k (a8 k hk)).1
      have hG : ∀ s ∈ its, dn s.i = true → onD s.ds (fun k => if k = t.i then x else G k) = onD s.ds G ∧ (if s.i = t.i then x else G s.i) = G s.i := fun s hs hds =>
        ⟨onD_upd hdn (hp.dsd s hs hds), if_neg fun e => by rw [e, hdn] at hds; cases hds⟩
      have hGt : onD t.ds (fun k => if k = t.i then x else G k) = onD t.ds G := onD_upd hdn hdst
      have hc' := count_up dn t hdn its hnd ht
      have hups : ∀ s, (fun k => k == t.i || dn k) s = true → s ≠ t.i → dn s = true := fun s h1 h2 => by
        have e2 : (s == t.i) = false := by simp [h2]
        simp only [e2, Bool.false_or] at h1
        exact h1
      refine ih (fun k => k == t.i || dn k) (fun k => if k = t.i then x else G k) _ _ w' (by omega) (hcl.set hj) ⟨fun k => ?_, ?_, fun s hs hds d hsd => ?_, fun s hs hds => ?_, fun s hs hds k hk => ?_, ?_⟩
      · have hsz : L'.size = L.size := by
          rcases Nat.lt_trichotomy L'.size L.size with h | h | h
          · have := hp.list L'.size
            rw [if_pos h, Array.getElem?_eq_none (Nat.le_refl _)] at this; cases this
          · exact h
          · have := hp.list L.size
            rw [if_neg (Nat.lt_irrefl _), Array.getElem?_eq_getElem h] at this; cases this
        rw [Array.getElem?_setIfInBounds, hsz]
        by_cases hk : t.i = k
        · subst hk
          rw [if_pos rfl, if_pos a5, if_pos a5, a6]
          have : (its.any fun s => s.i == t.i && (t.i == t.i || dn t.i)) = true := List.any_eq_true.2 ⟨t, ht, by simp⟩
          rw [this]; rfl
        · rw [if_neg hk, hp.list]
          have e2 : (k == t.i) = false := by simp [Ne.symm hk]
          simp only [e2, Bool.false_or]
      · rw [a2]
        cases hd' : t.d with
        | none => exact hp.fr
        | some d =>
          rw [hd'] at a4
          obtain ⟨b1, b2⟩ := Bool.and_eq_true_iff.1 a4
          refine (hp.fr.put _ ⟨List.Sublist.refl _, List.all_eq_true.2 fun y hy => ?_⟩ (ltb b1)).sub (List.sublist_cons_self _ _)
          have := List.all_eq_true.1 b2 y hy
          simp only [Bool.not_eq_true'] at this
          have hne : y.1 ≠ d := fun e => by rw [e, Nat.beq_refl] at this; cases this
          simp [hne]
      · by_cases hst : s.i = t.i
        · obtain rfl : s = t := same_it hd hs ht hst
          rw [a2, hsd]
          have b1 : d < n.n := by
            rw [hsd] at a4
            exact ltb (Bool.and_eq_true_iff.1 a4).1
          have hz : d < a.tmps.size := by rw [hp.fr.size]; exact b1
          have hv' := hv (by rw [hsd]; rfl)
          show _ = s.v (onD s.ds fun k => if k = s.i then x else G k) (if s.i = s.i then x else G s.i)
          rw [hGt, if_pos rfl, ← hv']
          simp [Act.put, hz]
        · have hds' := hups s.i hds hst
          have h1 := hp.done s hs hds' d hsd
          obtain ⟨g1, g2⟩ := hG s hs hds'
          show _ = s.v (onD s.ds fun k => if k = t.i then x else G k) (if s.i = t.i then x else G s.i)
          unfold It.val at h1
          rw [g1, g2]
          cases htd : t.d with
          | none => rw [a2, htd]; exact h1
          | some d' =>
            have hne : d' ≠ d := fun e => slot_ne hd hs ht hst d hsd (e ▸ htd)
            rw [a2, htd]
            simp only [Act.put, Array.getD_eq_getD_getElem?] at h1 ⊢
            rw [Array.getElem?_setIfInBounds_ne hne]
            exact h1
      · by_cases hst : s.i = t.i
        · obtain rfl : s = t := same_it hd hs ht hst
          show s.post (onD s.ds fun k => if k = s.i then x else G k) (if s.i = s.i then x else G s.i)
          rw [hGt, if_pos rfl]
          exact hpo
        · have hds' := hups s.i hds hst
          obtain ⟨g1, g2⟩ := hG s hs hds'
          show s.post (onD s.ds fun k => if k = t.i then x else G k) (if s.i = t.i then x else G s.i)
          rw [g1, g2]
          exact hp.pst s hs hds'
      · have : dn k = true := by
          by_cases hst : s.i = t.i
          · obtain rfl : s = t := same_it hd hs ht hst
            exact hdst k hk
          · exact hp.dsd s hs (hups s.i hds hst) k hk
        show (k == t.i || dn k) = true
        rw [this, Bool.or_true]
      · refine hH'.perm ?_
        rw [List.flatten_cons, List.flatten_append, List.flatten_cons, List.flatten_nil, List.append_nil]
        have hgone : ∀ id, goneG its (fun k => k == t.i || dn k) id = (goneG its dn id || t.s.contains id) := fun id => by
          unfold goneG
          cases hts : t.s.contains id
          · rw [Bool.or_false]
            refine any_congr' fun u hu => ?_
            by_cases e : u.i = t.i
            · obtain rfl : u = t := same_it hd hu ht e
              rw [hts, Bool.and_false, Bool.and_false]
            · have e2 : (u.i == t.i) = false := by simp [e]
              show ((u.i == t.i || dn u.i) && _) = _
              rw [e2, Bool.false_or]
          · rw [Bool.or_true]
            exact List.any_eq_true.2 ⟨t, ht, by simp only [hts]; simp⟩
        have hti : liveG its (fun k => k == t.i || dn k) t.i = true := by
          unfold liveG
          rw [hgone]
          have h1 : goneG its dn t.i = false := by
            cases hgg : goneG its dn t.i
            · rfl
            · obtain ⟨u, hu, h1⟩ := List.any_eq_true.1 hgg
              obtain ⟨h2, h3⟩ := Bool.and_eq_true_iff.1 h1
              exfalso
              obtain ⟨_, _, _, _, _, _, _, _, b9, _⟩ := hit u hu
              rcases b9 t.i (List.mem_append_left _ (List.contains_iff_mem.1 h3)) with ⟨h4, _⟩ | h4
              · have := hsmall t ht; omega
              · have hLu := hyes u hu h2
                have h5 := waitsFor_spec hcl t.i 6 u.i (Bool.and_eq_true_iff.1 h4).2 fun o ho e he hb => hcl u.i o ho hLu e he hb
                rw [hnot t ht hdn] at h5; cases h5
          have h2 : t.s.contains t.i = false := by
            cases hcc : t.s.contains t.i
            · rfl
            · exact absurd rfl (hin t.i (List.mem_append_left _ (List.contains_iff_mem.1 hcc))).2.2.1
          rw [h1, h2]
          simp
        have hkt : t.i ∈ (ownG Hs its (fun k => if k = t.i then x else G k)).map (·.1) := by
          rw [hkeys]
          exact List.mem_append_right _ (List.mem_map_of_mem ht)
        refine List.Perm.symm ((extract1G hti (hnodup _) hkt).trans ?_)
        have hlk : lookG t.i (ownG Hs its (fun k => if k = t.i then x else G k)) = t.E (onD t.ds G) x := by
          rw [look_mem (hnodup _) (List.mem_append_right _ (List.mem_map_of_mem ht))]
          show t.E (onD t.ds fun k => if k = t.i then x else G k) (if t.i = t.i then x else G t.i) = _
          rw [hGt, if_pos rfl]
        rw [hlk]
        refine List.Perm.append_left _ ?_
        have hsame : stE (fun k => liveG its (fun k => k == t.i || dn k) k && !(k == t.i)) (ownG Hs its (fun k => if k = t.i then x else G k)) = stE (fun k => liveG its dn k && !t.s.contains k) (ownG Hs its G) := by
          unfold ownG stE
          rw [List.map_append, List.map_append, List.map_map, List.map_map]
          congr 1
          · refine List.map_congr_left fun y hy => ?_
            have h1 := ((bases_keys 1000 Hs y.1).1 (List.mem_map_of_mem hy)).1
            have hne : (y.1 == t.i) = false := by have := hsmall t ht; simp; omega
            have e4 : (liveG its (fun k => k == t.i || dn k) y.1 && !(y.1 == t.i)) = (liveG its dn y.1 && !t.s.contains y.1) := by
              unfold liveG
              rw [hgone, hne, Nat.ble_eq_true_of_le h1]
              cases goneG its dn y.1 <;> cases t.s.contains y.1 <;> rfl
            show cond (liveG its (fun k => k == t.i || dn k) y.1 && !(y.1 == t.i)) _ _ = cond (liveG its dn y.1 && !t.s.contains y.1) _ _
            rw [e4]
          · refine List.map_congr_left fun u hu => ?_
            show cond (liveG its (fun k => k == t.i || dn k) u.i && !(u.i == t.i)) (u.hl fun k => if k = t.i then x else G k) [] = cond (liveG its dn u.i && !t.s.contains u.i) (u.hl G) []
            by_cases e : u.i = t.i
            · rw [e]
              have e1 : (t.i == t.i) = true := by simp
              have e3 : Nat.ble 1000 t.i = false := by
                cases hb : Nat.ble 1000 t.i
                · rfl
                · have := Nat.le_of_ble_eq_true hb
                  have := hsmall t ht
                  omega
              have e2 : liveG its dn t.i = false := by
                unfold liveG
                rw [hdn, e3]
                rfl
              rw [e1, e2, Bool.not_true, Bool.and_false, Bool.false_and]
              rfl
            · have e2 : (u.i == t.i) = false := by simp [e]
              have e4 : liveG its (fun k => k == t.i || dn k) u.i = (liveG its dn u.i && !t.s.contains u.i) := by
                unfold liveG
                rw [hgone]
                simp only [e2, Bool.false_or]
                cases (Nat.ble 1000 u.i || dn u.i) <;> cases goneG its dn u.i <;> cases t.s.contains u.i <;> rfl
              rw [e4, e2, Bool.not_false, Bool.and_true]
              cases hlv : liveG its dn u.i && !t.s.contains u.i
              · rfl
              · have h1 : liveG its dn u.i = true := (Bool.and_eq_true_iff.1 hlv).1
                have hdu : dn u.i = true := by
                  unfold liveG at h1
                  obtain ⟨h2, _⟩ := Bool.and_eq_true_iff.1 h1
                  rcases Bool.or_eq_true_iff.1 h2 with h3 | h3
                  · have := Nat.le_of_ble_eq_true h3
                    have := hsmall u hu
                    omega
                  · exact h3
                obtain ⟨g1, g2⟩ := hG u hu hdu
                show cond true (u.E (onD u.ds fun k => if k = t.i then x else G k) (if u.i = t.i then x else G u.i)) [] = cond true (u.E (onD u.ds G) (G u.i)) []
                rw [g1, g2]
        rw [hsame]
        exact hrest
theorem posts_of {G : Chs} : ∀ {its : List It}, (∀ t ∈ its, t.post (onD t.ds G) (G t.i)) → postsG G its
  | [], _ => trivial
  | t :: _, h => ⟨h t (by simp), posts_of fun s hs => h s (by simp [hs])⟩
inductive Its (P : Program) (ops : Array Oper) (n : Sz) (w0 : World) (R : List Nat) (Hs : List Hl) (l : Slots) (its : List It) : List It → Prop
  | nil : Its P ops n w0 R Hs l its []
  | c {t : It} {r : List It} (hs : Sp P ops n w0 R Hs l its t) (h : Its P ops n w0 R Hs l its r) : Its P ops n w0 R Hs l its (t :: r)
theorem Its.ok : ∀ {r : List It}, Its P ops n w0 R Hs l its r → ∀ t ∈ r, Sp P ops n w0 R Hs l its t
  | _, .nil => fun _ h => by cases h
  | _, .c hs h => fun y hy => by
    rcases List.mem_cons.1 hy with rfl | hy
    · exact hs
    · exact h.ok y hy
/-- The region, or what of it waits for nothing else, told at once; its slots and heaplets named anew. -/
theorem rxPg {fu : Nat} (m : Nat) (its : List It) (fr : Chs → Slots) (Hs2 : Chs → List Hl) (hH : HH w0 R Hs w) (hsp : Its P ops n w0 R Hs l its its)
    (h : ∀ (G : Chs) w', postsG G its → HH w0 R (Hs2 G) w' → RX P ops Q m [] (setIts L its) n (fr G) w')
    (hfu : fu = its.length + m := by exact rfl) (hi : pgOk ops L n l Hs.length its = true := by kernel_rfl)
    (hf : ∀ G, (stE (liveG its fun _ => true) (ownG Hs its G)).flatten = (Hs2 G).flatten := by exact fun _ => rfl) (hfr : ∀ G, Al (slotsOf G its ++ l) (fr G) := by (intro G; repeat (first | exact Al.nil | refine Al.cons rfl ?_))) : RX P ops Q fu [] L n l w := fun hok hc _ a hF => by
  subst hfu
  refine phaseG hok hi hsp.ok (fun G w' hp hH' hok hc hS a hF => h G w' (posts_of hp) (hH'.cast (hf G)) hok hc hS a (hF.of (hfr G).all)) its.length (fun _ => false) (fun _ => ch0) L a w (by simp) hc ⟨fun k => ?_, hF, (fun _ _ h => (by cases h)), (fun _ _ h => (by cases h)), (fun _ _ h => (by cases h)), hH.cast ?_⟩
  · split
    · rename_i hk; simp [hk]
    · rename_i hk; simp [Array.getElem?_eq_none (Nat.not_lt.1 hk)]
  · have hg : ∀ id, goneG its (fun _ => false) id = false := fun id => by
      unfold goneG
      simp
    have h1 : stE (liveG its fun _ => false) (basesG 1000 Hs) = Hs := bases_all 1000 Hs fun x hx => by
      unfold liveG
      rw [hg, Nat.ble_eq_true_of_le hx]
      rfl
    have hsm : ∀ t ∈ its, t.i < 1000 := fun t ht => by
      unfold pgOk at hi
      simp only [Bool.and_eq_true] at hi
      have h2 := List.all_eq_true.1 hi.1.2 t ht
      unfold itOk at h2
      simp only [Bool.and_eq_true] at h2
      have h3 := ltb h2.1.1.1.1.1.1.1.1.1.1.1
      have h4 := Nat.le_of_ble_eq_true hi.1.1.1
      omega
    have h2 : (stE (liveG its fun _ => false) (its.map fun t => (t.i, t.hl fun _ => ch0))).flatten = [] := by
      rw [List.flatten_eq_nil_iff]
      intro x hx
      obtain ⟨y, hy, rfl⟩ := List.mem_map.1 hx
      obtain ⟨t, ht, rfl⟩ := List.mem_map.1 hy
      have : Nat.ble 1000 t.i = false := by
        cases hb : Nat.ble 1000 t.i
        · rfl
        · have := Nat.le_of_ble_eq_true hb
          have := hsm t ht
          omega
      show cond (liveG its (fun _ => false) t.i) _ _ = _
      unfold liveG
      rw [this]
      rfl
    unfold ownG
    have h3 : stE (liveG its fun _ => false) (basesG 1000 Hs ++ its.map fun t => (t.i, t.hl fun _ => ch0)) = stE (liveG its fun _ => false) (basesG 1000 Hs) ++ stE (liveG its fun _ => false) (its.map fun t => (t.i, t.hl fun _ => ch0)) := List.map_append
    rw [h3, List.flatten_append, h1, h2, List.append_nil]

/-! ### Items -/
/-- A value. -/
def pv (i d : Nat) (ns ds : List Nat) (V : Chs → Value) : It := ⟨i, some d, ns, ds, [], [], fun G _ => V G, fun _ _ => [], fun _ _ => True⟩
/-- A value that is read of heaplets. -/
def ldv (i d : Nat) (ns ds r : List Nat) (V : Chs → Value) : It := ⟨i, some d, ns, ds, [], r, fun G _ => V G, fun _ _ => [], fun _ _ => True⟩
/-- A block made. -/
def mkv (i d : Nat) (ns ds : List Nat) (V : Chs → Nat → Value) (E : Chs → Nat → Hl) : It := ⟨i, some d, ns, ds, [], [], fun G x => V G x.g, fun G x => E G x.g, fun _ _ => True⟩
abbrev alv (i d : Nat) (ns ds : List Nat) (E : Chs → Nat → Hl) : It := mkv i d ns ds (fun _ g => .pointer (some ⟨g, 0, none⟩)) E
/-- A heaplet turned, into no slot. -/
def stv (i : Nat) (ns ds : List Nat) (s : Nat) (E : Chs → Hl) : It := ⟨i, none, ns, ds, [s], [], fun _ _ => undef, fun G _ => E G, fun _ _ => True⟩
/-- A slice of the call's own, made. -/
def owv {α : Type} (i d : Nat) (ns ds : List Nat) (C : Cod α) (e : TypeId) (q : Chs → List α) : It := ⟨i, some d, ns, ds, [], [], fun G x => .slice x.A (q G).length x.c, fun _ x => x.E, fun G x => OwnT C e (.slice x.A (q G).length x.c) (q G) x.E⟩
theorem Sp.o {α : Type} {i d : Nat} {ns ds : List Nat} {C : Cod α} {e : TypeId} {q : Chs → List α} {Rd : Chs → World → Prop} {po : Chs → Value → Hl → Prop} (hR : ∀ G w Xs, HH w0 R Xs w → Rd G w) (h : ∀ G, Sm P n (availG l its ns G) (opAt ops i) [] (Rd G) (po G)) (hp : ∀ G v E', po G v E' → OwnT C e v (q (onD ds G)) E') : Sp P ops n w0 R Hs l its (owv i d ns ds C e q) := fun G a w Xs hF hH =>
  (h G a hF w (Has.nil w) (hR G w Xs hH)).mono fun v w' ⟨E', h1, h2⟩ => by
    have h3 := hp G v E' h1
    obtain ⟨A, c, rfl⟩ := h3.slice
    refine ⟨⟨0, c, A, undef, E'⟩, h3, fun _ => rfl, (hH.add h2).perm ?_⟩
    show (Xs ++ [_]).flatten.Perm (_ :: Xs).flatten
    simp only [List.flatten_append, List.flatten_cons, List.flatten_nil, List.append_nil]
    exact List.perm_append_comm
theorem Sp.v {i d : Nat} {ns ds : List Nat} {V : Chs → Value} (h : ∀ G, Vl P n (availG l its ns G) (opAt ops i) (V (onD ds G))) : Sp P ops n w0 R Hs l its (pv i d ns ds V) := fun G a w Xs hF hH => by
  show Out P _ ((execOp a.eval (opAt ops i)).run P w)
  rw [h G a w hF]
  exact ⟨ch0, trivial, fun _ => rfl, hH.cast (by simp [pv])⟩
theorem Sp.ld {i d : Nat} {ns ds r : List Nat} {V : Chs → Value} {S : Chs → World → Prop} (hS : ∀ G w Xs, HH w0 R ((r.map fun id => lookG id (ownG Hs its G)) ++ Xs) w → S G w) (h : ∀ G, Vs P n (availG l its ns G) (S G) (opAt ops i) (V (onD ds G))) : Sp P ops n w0 R Hs l its (ldv i d ns ds r V) := fun G a w Xs hF hH => by
  show Out P _ ((execOp a.eval (opAt ops i)).run P w)
  rw [h G a w hF (hS G w Xs hH)]
  exact ⟨ch0, trivial, fun _ => rfl, hH.cast (by simp [ldv])⟩
theorem Sp.a {i d : Nat} {ns ds : List Nat} {V : Chs → Nat → Value} {E : Chs → Nat → Hl} {Rd : Chs → World → Prop} {po : Chs → Value → Hl → Prop} (hR : ∀ G w Xs, HH w0 R Xs w → Rd G w) (h : ∀ G, Sm P n (availG l its ns G) (opAt ops i) [] (Rd G) (po G)) (hp : ∀ G v E', po G v E' → ∃ g, v = V (onD ds G) g ∧ E' = E (onD ds G) g) : Sp P ops n w0 R Hs l its (mkv i d ns ds V E) := fun G a w Xs hF hH =>
  (h G a hF w (Has.nil w) (hR G w Xs hH)).mono fun v w' ⟨E', h1, h2⟩ => by
    obtain ⟨g, rfl, rfl⟩ := hp G v E' h1
    refine ⟨⟨g, 0, none, undef, []⟩, trivial, fun _ => rfl, (hH.add h2).perm ?_⟩
    show (Xs ++ [_]).flatten.Perm (_ :: Xs).flatten
    simp only [List.flatten_append, List.flatten_cons, List.flatten_nil, List.append_nil]
    exact List.perm_append_comm
theorem Sp.tn {i s : Nat} {ns ds : List Nat} {E : Chs → Hl} {E0 : Chs → Hl} {Rd : Chs → World → Prop} {po : Chs → Value → Hl → Prop} (h : ∀ G, Sm P n (availG l its ns G) (opAt ops i) (E0 G) (Rd G) (po G)) (hR : ∀ G w Xs, HH w0 R (E0 G :: Xs) w → Rd G w) (hp : ∀ G v E', po G v E' → E' = E (onD ds G)) (he : ∀ G, lookG s (ownG Hs its G) = E0 G := by exact fun _ => rfl) : Sp P ops n w0 R Hs l its (stv i ns ds s E) := fun G a w Xs hF hH => by
  have hH2 : HH w0 R (E0 G :: Xs) w := he G ▸ hH
  refine (h G a hF w (hH2.has 0 rfl) (hR G w Xs hH2)).mono fun v w' ⟨E', h1, h2⟩ => ?_
  obtain rfl := hp G v E' h1
  refine ⟨ch0, trivial, fun h => (by cases h), hH2.turn 0 rfl h2⟩
theorem Sp.c {f : FuncId} {fn : Func} {i d : Nat} {ns ds : List Nat} {V : Chs → Value} {xs : List Operand} {vs : Chs → List Value} {ts : Array TypeId} {Rd : World → Prop} (F : P.funcs[f]? = some fn) (hq : ∀ G, Pure P f (vs G).toArray Rd (V (onD ds G))) (hR : ∀ w, Rd w)
    (ho : (opAt ops i).op = .call { callee := .value (.func f), args := xs.toArray, argTypes := ts } := by exact rfl) (hx : ∀ G, vos (availG l its ns G) xs = some (vs G) := by exact fun _ => rfl) (h1 : (fn.name == "runtime.NumGoroutine") = false := by exact rfl) (h2 : fn.body.isNone = false := by exact rfl) : Sp P ops n w0 R Hs l its (pv i d ns ds V) := fun G a w Xs hF hH =>
  (Sm.call (n := n) F (hq G).does ho (hx G) h1 h2 a hF w (Has.nil w) (hR w)).mono fun v w' ⟨E', h3, h4⟩ => by
    obtain ⟨rfl, rfl⟩ := h3
    refine ⟨ch0, trivial, fun _ => rfl, (hH.add h4).cast ?_⟩
    simp [pv]
end
end Go.Proofs.YtfloiekaiiapnaaGreatDoor

namespace Go.Proofs.YtfloiekaiiapnaaGreatDoor
open Go Go.RowKit
set_option maxRecDepth 100000

set_option maxHeartbeats 8000000 in
theorem rrot_c (x : UInt32) (n : Nat) (h0 : 0 < n) (h32 : n < 32) : Pure Tryz.prog 86 #[(.int .u32 (((x.toNat) : Nat) : Int)), (.int .u64 (((n) : Nat) : Int))] (fun _ => True) (.int .u32 ((((rr32 x n).toNat) : Nat) : Int)) := by
  refine pure_of (fn := Tryz.f86) Tryz.func86 rfl Tryz.ntmps86 (Nat.le_of_ble_eq_true rfl) rfl ?_
  intro w0 hH hR
  refine zr ?_
  refine zv .mv 0 ?_
  refine zn ?_
  refine zr ?_
  refine zv .mv 1 ?_
  refine zv .mv 0 ?_
  refine zv (.rw n) 3 ?_
  refine zv .mv 2 ?_
  refine zv .mv 4 ?_
  refine zv (v := (.int .u64 (((32 - n) : Nat) : Int))) (fun _ _ hF => opSubU (m := 32) (j := n) (z := (32 - n)) rfl rfl rfl (hF.ev 0 rfl) (by show n ≤ 18446744073709551616; omega) (by show (32 + (18446744073709551616 - n)) % 18446744073709551616 = _; omega)) 1 ?_
  refine zv (.lw (32 - n)) 3 ?_
  refine zv (.ow (rr32 x n)) 3 ?_
  refine zv .mv 1 ?_
  refine zn ?_
  refine cxRet ?_
  refine qxRet1 0 rfl rfl ?_
  exact ⟨rfl, HH.toBelow hH⟩

set_option maxHeartbeats 8000000 in
theorem rk_c  : Pure Tryz.prog 84 #[] (fun _ => True) ((cWs 64).val K32) := by
  refine pure_of (fn := Tryz.f84) Tryz.func84 rfl Tryz.ntmps84 (Nat.le_of_ble_eq_true rfl) rfl ?_
  intro w0 hH hR
  refine zr ?_
  refine zm hH (.al (cWs 64) (fun _ => 0)) trivial 0 ?_
  clear hH
  rintro _ _ w ⟨g1, rfl, rfl⟩ hH
  refine zn ?_
  refine zr ?_
  refine zv (v := ((cWs 64).val K32)) (fun _ _ hF => opBuildP (cells := (cWs 64).enc K32) (vals := [(0, (.int .u32 1116352408)), (1, (.int .u32 1899447441)), (2, (.int .u32 3049323471)), (3, (.int .u32 3921009573)), (4, (.int .u32 961987163)), (5, (.int .u32 1508970993)), (6, (.int .u32 2453635748)), (7, (.int .u32 2870763221)), (8, (.int .u32 3624381080)), (9, (.int .u32 310598401)), (10, (.int .u32 607225278)), (11, (.int .u32 1426881987)), (12, (.int .u32 1925078388)), (13, (.int .u32 2162078206)), (14, (.int .u32 2614888103)), (15, (.int .u32 3248222580)), (16, (.int .u32 3835390401)), (17, (.int .u32 4022224774)), (18, (.int .u32 264347078)), (19, (.int .u32 604807628)), (20, (.int .u32 770255983)), (21, (.int .u32 1249150122)), (22, (.int .u32 1555081692)), (23, (.int .u32 1996064986)), (24, (.int .u32 2554220882)), (25, (.int .u32 2821834349)), (26, (.int .u32 2952996808)), (27, (.int .u32 3210313671)), (28, (.int .u32 3336571891)), (29, (.int .u32 3584528711)), (30, (.int .u32 113926993)), (31, (.int .u32 338241895)), (32, (.int .u32 666307205)), (33, (.int .u32 773529912)), (34, (.int .u32 1294757372)), (35, (.int .u32 1396182291)), (36, (.int .u32 1695183700)), (37, (.int .u32 1986661051)), (38, (.int .u32 2177026350)), (39, (.int .u32 2456956037)), (40, (.int .u32 2730485921)), (41, (.int .u32 2820302411)), (42, (.int .u32 3259730800)), (43, (.int .u32 3345764771)), (44, (.int .u32 3516065817)), (45, (.int .u32 3600352804)), (46, (.int .u32 4094571909)), (47, (.int .u32 275423344)), (48, (.int .u32 430227734)), (49, (.int .u32 506948616)), (50, (.int .u32 659060556)), (51, (.int .u32 883997877)), (52, (.int .u32 958139571)), (53, (.int .u32 1322822218)), (54, (.int .u32 1537002063)), (55, (.int .u32 1747873779)), (56, (.int .u32 1955562222)), (57, (.int .u32 2024104815)), (58, (.int .u32 2227730452)), (59, (.int .u32 2361852424)), (60, (.int .u32 2428436474)), (61, (.int .u32 2756734187)), (62, (.int .u32 3204031479)), (63, (.int .u32 3329325298))]) rfl (EvP.cons (v := (.int .u32 1116352408)) rfl (EvP.cons (v := (.int .u32 1899447441)) rfl (EvP.cons (v := (.int .u32 3049323471)) rfl (EvP.cons (v := (.int .u32 3921009573)) rfl (EvP.cons (v := (.int .u32 961987163)) rfl (EvP.cons (v := (.int .u32 1508970993)) rfl (EvP.cons (v := (.int .u32 2453635748)) rfl (EvP.cons (v := (.int .u32 2870763221)) rfl (EvP.cons (v := (.int .u32 3624381080)) rfl (EvP.cons (v := (.int .u32 310598401)) rfl (EvP.cons (v := (.int .u32 607225278)) rfl (EvP.cons (v := (.int .u32 1426881987)) rfl (EvP.cons (v := (.int .u32 1925078388)) rfl (EvP.cons (v := (.int .u32 2162078206)) rfl (EvP.cons (v := (.int .u32 2614888103)) rfl (EvP.cons (v := (.int .u32 3248222580)) rfl (EvP.cons (v := (.int .u32 3835390401)) rfl (EvP.cons (v := (.int .u32 4022224774)) rfl (EvP.cons (v := (.int .u32 264347078)) rfl (EvP.cons (v := (.int .u32 604807628)) rfl (EvP.cons (v := (.int .u32 770255983)) rfl (EvP.cons (v := (.int .u32 1249150122)) rfl (EvP.cons (v := (.int .u32 1555081692)) rfl (EvP.cons (v := (.int .u32 1996064986)) rfl (EvP.cons (v := (.int .u32 2554220882)) rfl (EvP.cons (v := (.int .u32 2821834349)) rfl (EvP.cons (v := (.int .u32 2952996808)) rfl (EvP.cons (v := (.int .u32 3210313671)) rfl (EvP.cons (v := (.int .u32 3336571891)) rfl (EvP.cons (v := (.int .u32 3584528711)) rfl (EvP.cons (v := (.int .u32 113926993)) rfl (EvP.cons (v := (.int .u32 338241895)) rfl (EvP.cons (v := (.int .u32 666307205)) rfl (EvP.cons (v := (.int .u32 773529912)) rfl (EvP.cons (v := (.int .u32 1294757372)) rfl (EvP.cons (v := (.int .u32 1396182291)) rfl (EvP.cons (v := (.int .u32 1695183700)) rfl (EvP.cons (v := (.int .u32 1986661051)) rfl (EvP.cons (v := (.int .u32 2177026350)) rfl (EvP.cons (v := (.int .u32 2456956037)) rfl (EvP.cons (v := (.int .u32 2730485921)) rfl (EvP.cons (v := (.int .u32 2820302411)) rfl (EvP.cons (v := (.int .u32 3259730800)) rfl (EvP.cons (v := (.int .u32 3345764771)) rfl (EvP.cons (v := (.int .u32 3516065817)) rfl (EvP.cons (v := (.int .u32 3600352804)) rfl (EvP.cons (v := (.int .u32 4094571909)) rfl (EvP.cons (v := (.int .u32 275423344)) rfl (EvP.cons (v := (.int .u32 430227734)) rfl (EvP.cons (v := (.int .u32 506948616)) rfl (EvP.cons (v := (.int .u32 659060556)) rfl (EvP.cons (v := (.int .u32 883997877)) rfl (EvP.cons (v := (.int .u32 958139571)) rfl (EvP.cons (v := (.int .u32 1322822218)) rfl (EvP.cons (v := (.int .u32 1537002063)) rfl (EvP.cons (v := (.int .u32 1747873779)) rfl (EvP.cons (v := (.int .u32 1955562222)) rfl (EvP.cons (v := (.int .u32 2024104815)) rfl (EvP.cons (v := (.int .u32 2227730452)) rfl (EvP.cons (v := (.int .u32 2361852424)) rfl (EvP.cons (v := (.int .u32 2428436474)) rfl (EvP.cons (v := (.int .u32 2756734187)) rfl (EvP.cons (v := (.int .u32 3204031479)) rfl (EvP.cons (v := (.int .u32 3329325298)) rfl EvP.nil)))))))))))))))))))))))))))))))))))))))))))))))))))))))))))))))) (by kernel_rfl) _) 0 ?_
  refine ze0 0 hH rfl (.sw (cWs 64) (fun _ => 0) K32) trivial ?_
  clear hH
  rintro _ _ w rfl hH
  refine zn ?_
  refine cxRet ?_
  refine qxRetC 1 (hH.blk 0 rfl) rfl rfl (by kernel_rfl) (Cod.size _ _) (by kernel_rfl) ?_
  exact ⟨rfl, HH.toBelow hH⟩

set_option maxHeartbeats 8000000 in
theorem rpad_c (A : Option Addr) (n c : Nat) (l : List UInt8) (hb : n ≤ 140737488351232) : Does Tryz.prog 85 #[(.slice A n c), (.int .i64 64), (.int .i64 8)] [] (fun w => Vu cByte w A n c l) (fun v E' => OwnT cByte 5 v (pdM l) E') := by
  refine does_of (fn := Tryz.f85) Tryz.func85 rfl Tryz.ntmps85 (Nat.le_of_ble_eq_true rfl) rfl ?_
  intro w0 hH hR
  replace hH : HH w0 [] [] w0 := hH.only [false]
  have hn := hR.len
  have hnb := nb32_ge n
  refine zr ?_
  refine zv .mv 0 ?_
  refine zn ?_
  refine zr ?_
  refine zm hH (fun _ hF => smLit0 (e := 5) rfl (by kernel_rfl) (by kernel_rfl)) trivial 1 ?_
  clear hH
  rintro _ _ w ⟨g1, rfl, rfl⟩ hH
  refine zv .mv 0 ?_
  refine ze 0 hH rfl (fun _ hF => smAppT (C := cByte) (l := []) (m := l) (e := 5) (z := (.int .u8 0)) (by_ := 1) rfl (by kernel_rfl) (by kernel_rfl) rfl (ltb rfl) (hF.ev 1 rfl) ((Bk.lit0 (C := cByte)).own 5 g1 rfl) (hF.ev 0 rfl) hn (fun h => ⟨by have := hR.nil h; have := hR.cap; omega, hR.nil h⟩) (by rw [List.length_nil]; unfold maxLen; omega) (by rw [List.length_nil]; omega)) (hH.vu hR (by decide) (Off.nil _ _)) 3 ?_
  clear hH
  rintro v4 E5 w ⟨hO6, _⟩ hH
  replace hO6 : OwnT cByte 5 v4 l E5 := hO6
  obtain ⟨A2, c3, rfl⟩ := hO6.slice
  refine zv .mv 1 ?_
  refine zn ?_
  refine zr ?_
  refine zv .mv 1 ?_
  refine zm hH (fun _ hF => smLit1 (e := 5) (sz := 1) (z := (.int .u8 0)) (by_ := 1) (cs := cByte.enc 128) rfl (by kernel_rfl) (by kernel_rfl) rfl (cByte.len 128) (ltb rfl) (leb rfl) rfl) trivial 0 ?_
  clear hH
  rintro _ _ w ⟨g7, rfl, rfl⟩ hH
  refine ze 0 hH rfl (fun _ hF => smAppT (C := cByte) (l := l) (m := [128]) (e := 5) (z := (.int .u8 0)) (by_ := 1) rfl (by kernel_rfl) (by kernel_rfl) rfl (ltb rfl) (hF.ev 1 rfl) hO6 (hF.ev 0 rfl) rfl (fun h => by cases h) (by unfold maxLen; omega) (by omega)) ((Bk.lit1 (C := cByte) 128).vu (n := 1) (hH.blk 1 rfl) rfl) 3 ?_
  clear hH
  rintro v10 E11 w ⟨hO12, _⟩ hH
  replace hO12 : OwnT cByte 5 v10 (l ++ [128]) E11 := hO12
  obtain ⟨A8, c9, rfl⟩ := hO12.slice
  refine zv .mv 1 ?_
  refine zn ?_
  refine cxSeq ?_
  refine cxBlock ?_
  replace hH : HH w0 [] [E11] w := hH.only [true]
  refine zL5 (fun (_ : Nat) (A1 : Option Addr) (c1 : Nat) (L : List UInt8) (_ : Hl) => [(7, (.slice A1 L.length c1)), (2, (.int .i64 8)), (1, (.int .i64 64)), (0, (.slice A n c))]) (fun z A1 c1 L E1 w => HH w0 [] [E1] w ∧ (OwnT cByte 5 (.slice A1 L.length c1) L E1) ∧ (L = mzL l z) ∧ (L.length = n + 1 + z) ∧ (n + 1 + z + 8 ≤ 64 * nb32 n)) (fun z _ _ _ _ => 64 * nb32 n - (n + 1 + z)) 0 A8 c9 (l ++ [128]) E11 ⟨hH, hO12, (by simp [mzL]), (by rw [List.length_append, hn]; rfl), (by omega)⟩ ?_
  clear hH
  rintro z A1 c1 L E1 w ⟨hH, hO, hL, hlen, hz⟩
  refine cxSeq ?_
  refine zr ?_
  refine zv .mv 0 ?_
  refine zv .len 1 ?_
  refine zv .mv 0 ?_
  refine zv (.add (((L.length + 8) : Nat) : Int)) 3 ?_
  refine zv .mv 0 ?_
  refine zv (v := (.int .i64 ((((L.length + 8) % 64) : Nat) : Int))) (fun _ _ hF => opRem (z := (((L.length + 8) % 64 : Nat) : Int)) rfl (hF.ev 1 rfl) (hF.ev 0 rfl) (by omega) remN) 3 ?_
  refine zv (.ne ((L.length + 8) % 64 ≠ 0)) 1 ?_
  refine zn ?_
  refine zP (fun hc13 => ?_) (fun hc13 => ?_)
  refine cxSkip ?_
  refine qxThen ?_
  refine cxBlock ?_
  refine cxReg ?_
  refine zv .mv 3 ?_
  refine zm hH (fun _ hF => smLit1 (e := 5) (sz := 1) (z := (.int .u8 0)) (by_ := 1) (cs := cByte.enc 0) rfl (by kernel_rfl) (by kernel_rfl) rfl (cByte.len 0) (ltb rfl) (leb rfl) rfl) trivial 0 ?_
  clear hH
  rintro _ _ w ⟨g14, rfl, rfl⟩ hH
  refine ze 0 hH rfl (fun _ hF => smAppT (C := cByte) (l := L) (m := [0]) (e := 5) (z := (.int .u8 0)) (by_ := 1) rfl (by kernel_rfl) (by kernel_rfl) rfl (ltb rfl) (hF.ev 1 rfl) hO (hF.ev 0 rfl) rfl (fun h => by cases h) (by unfold maxLen; omega) (by omega)) ((Bk.lit1 (C := cByte) 0).vu (n := 1) (hH.blk 1 rfl) rfl) 3 ?_
  clear hH
  rintro v17 E18 w ⟨hO19, _⟩ hH
  replace hO19 : OwnT cByte 5 v17 (L ++ [0]) E18 := hO19
  obtain ⟨A15, c16, rfl⟩ := hO19.slice
  refine zv .mv 1 ?_
  refine pxEnd ?_
  refine qxInN ?_
  replace hH : HH w0 [] [E18] w := hH.only [true, false]
  exact zR5 (z + 1) A15 c16 (L ++ [0]) E18 ⟨hH, hO19, (by rw [hL, mzL_step]), (by rw [List.length_append, hlen]; show n + 1 + z + 1 = _; omega), (show n + 1 + (z + 1) + 8 ≤ 64 * nb32 n from by omega)⟩ (by omega)
  refine cxExit ?_
  refine qxThenE ?_
  refine qxThenE ?_
  refine qxInE ?_
  refine qxThen ?_
  have hze : n + 1 + z + 8 = 64 * nb32 n := by omega
  refine zr ?_
  refine zv .mv 25 ?_
  refine zv .len 1 ?_
  refine zv (.cu .u64) 1 ?_
  refine zv (v := (.int .u64 (((n * 8) : Nat) : Int))) (fun _ _ hF => opMulU (m := n) (j := 8) (z := (n * 8)) rfl rfl (hF.ev 0 rfl) rfl (Nat.mod_eq_of_lt (by show _ < 18446744073709551616; omega))) 1 ?_
  refine zv .mv 1 ?_
  refine zn ?_
  refine cxSeq ?_
  refine zr ?_
  refine zv .mv 4 ?_
  refine zv (v := (.int .i64 7)) (fun _ _ hF => opSub rfl (hF.ev 0 rfl) rfl (by decide)) 1 ?_
  refine zv .mv 1 ?_
  refine zn ?_
  refine cxBlock ?_
  refine zL5 (fun (k : Nat) (A1 : Option Addr) (c1 : Nat) (L : List UInt8) (_ : Hl) => [(9, (.int .i64 (7 - ((k : Nat) : Int)))), (8, (.int .u64 (((n * 8) : Nat) : Int))), (7, (.slice A1 L.length c1))]) (fun k A1 c1 L E1 w => HH w0 [] [E1] w ∧ (OwnT cByte 5 (.slice A1 L.length c1) L E1) ∧ (L = mzL l z ++ be8 (n * 8) k) ∧ (L.length = n + 1 + z + k) ∧ (k ≤ 8)) (fun k _ _ _ _ => 8 - k) 0 A1 c1 L E1 ⟨hH, hO, (by rw [hL]; simp [be8, lst]), hlen, (Nat.zero_le _)⟩ ?_
  clear hH
  rintro k A1 c1 L E1 w ⟨hH, hO, hL2, hlen2, hk⟩
  refine cxSeq ?_
  refine zr ?_
  refine zv .mv 0 ?_
  refine zv (v := (.bool (decide ((7 - ((k : Nat) : Int)) ≥ 0)))) (fun _ _ hF => opGeq rfl (hF.ev 0 rfl) rfl rfl) 1 ?_
  refine zn ?_
  refine zP (fun hc20 => ?_) (fun hc20 => ?_)
  refine cxSkip ?_
  refine qxThen ?_
  refine cxSeq ?_
  refine cxBlock ?_
  refine zr ?_
  refine zv .mv 1 ?_
  refine zv (v := (.bool false)) (fun _ _ hF => opGeq rfl (hF.ev 0 rfl) rfl (decide_eq_false (by omega))) 1 ?_
  refine zn ?_
  refine zF ?_
  refine cxReg ?_
  refine zv .mv 9 ?_
  refine zv .mv 0 ?_
  refine zv .mv 0 ?_
  refine zv (.mul (((8 * (7 - k)) : Nat) : Int)) 1 ?_
  refine zv (.cu .u64) 1 ?_
  refine zv (v := (.int .u64 ((((n * 8) / 2 ^ (8 * (7 - k))) : Nat) : Int))) (fun _ _ hF => opShrU (n := 8 * (7 - k)) (z := ((n * 8) / 2 ^ (8 * (7 - k)))) rfl (hF.ev 1 rfl) (hF.ev 0 rfl) (by show _ ≤ 64; omega) (rfl)) 3 ?_
  refine zv .cb 1 ?_
  refine zm hH (fun _ hF => smLit1 (e := 5) (sz := 1) (z := (.int .u8 0)) (by_ := 1) (cs := cByte.enc (UInt8.ofNat ((n * 8) / 2 ^ (8 * (7 - k))))) rfl (by kernel_rfl) (by kernel_rfl) (hF.ev 0 rfl) (cByte.len (UInt8.ofNat ((n * 8) / 2 ^ (8 * (7 - k))))) (ltb rfl) (leb rfl) rfl) trivial 1 ?_
  clear hH
  rintro _ _ w ⟨g21, rfl, rfl⟩ hH
  refine ze 0 hH rfl (fun _ hF => smAppT (C := cByte) (l := L) (m := [(UInt8.ofNat ((n * 8) / 2 ^ (8 * (7 - k))))]) (e := 5) (z := (.int .u8 0)) (by_ := 1) rfl (by kernel_rfl) (by kernel_rfl) rfl (ltb rfl) (hF.ev 1 rfl) hO (hF.ev 0 rfl) rfl (fun h => by cases h) (by unfold maxLen; omega) (by omega)) ((Bk.lit1 (C := cByte) (UInt8.ofNat ((n * 8) / 2 ^ (8 * (7 - k))))).vu (n := 1) (hH.blk 1 rfl) rfl) 3 ?_
  clear hH
  rintro v24 E25 w ⟨hO26, _⟩ hH
  replace hO26 : OwnT cByte 5 v24 (L ++ [(UInt8.ofNat ((n * 8) / 2 ^ (8 * (7 - k))))]) E25 := hO26
  obtain ⟨A22, c23, rfl⟩ := hO26.slice
  refine zv .mv 1 ?_
  refine pxEnd ?_
  refine qxInN ?_
  refine qxThen ?_
  refine cxReg ?_
  refine zv .mv 2 ?_
  refine zv (.sub (7 - ((k + 1 : Nat) : Int))) 1 ?_
  refine zv .mv 1 ?_
  refine pxEnd ?_
  replace hH : HH w0 [] [E25] w := hH.only [true, false]
  exact zR5 (k + 1) A22 c23 (L ++ [(UInt8.ofNat ((n * 8) / 2 ^ (8 * (7 - k))))]) E25 ⟨hH, hO26, (by rw [hL2, List.append_assoc]; unfold be8; rw [lst_succ]), (by rw [List.length_append, hlen2]; show n + 1 + z + k + 1 = _; omega), (by omega)⟩ (by omega)
  refine cxExit ?_
  refine qxThenE ?_
  refine qxThenE ?_
  refine qxInE ?_
  refine qxThen ?_
  refine zr ?_
  refine zv .mv 15 ?_
  refine zv .mv 1 ?_
  refine zn ?_
  refine cxRet ?_
  refine qxRet1 0 rfl rfl ?_
  obtain rfl : k = 8 := by omega
  subst hn
  rw [pdM_all hze] at hL2
  subst hL2
  exact ⟨_, _, rfl, hO, hH.out1 [true] rfl⟩
end Go.Proofs.YtfloiekaiiapnaaGreatDoor
