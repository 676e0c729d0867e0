/- What a call holds, as a list of heaplets; what an operation does to one of them; the frame's rule. Plain theorems, over any program. -/
import Derived.Test.YticflflbogdljaaDoorFr
namespace Go.Proofs.YticflflbogdljaaDoor
open Go Go.RowKit

abbrev Hl := List (Nat × Obj)
/-- The heaplets Hs hold, each apart from the others. -/
def HH (w0 : World) (R : List Nat) (Hs : List Hl) (w : World) : Prop := Hold w0 R Hs.flatten w
/-- The blocks E lie in w, each apart from the others. -/
structure Has (E : Hl) (w : World) : Prop where
  blk : ∀ x ∈ E, w.heap[x.1]? = some x.2
  ne : E.Pairwise fun x y => x.1 ≠ y.1
abbrev bks (E : Hl) : List Nat := E.map (·.1)

section
variable {w0 w w' : World} {R : List Nat} {L L' E E' : Hl} {Hs Hs' : List Hl}
theorem Has.nil (w : World) : Has [] w := ⟨fun _ h => (by cases h), .nil⟩
theorem Has.of (h : Has E w) (hs : E'.Sublist E) : Has E' w := ⟨fun x hx => h.blk x (hs.subset hx), h.ne.sublist hs⟩
theorem Has.hold (h : Has E w) : Hold w (bks E) E w :=
  ⟨rfl, rfl, rfl, Nat.le_refl _, h.blk, h.ne, fun _ hx => .inr (List.mem_map_of_mem hx), fun _ _ _ => rfl⟩
theorem Hold.has (h : Hold w0 R L w) : Has L w := ⟨h.blk, h.ne⟩
theorem Has.start (h : Has E w) : HH w (bks E) [E] w := by
  unfold HH
  rw [List.flatten_cons, List.flatten_nil, List.append_nil]
  exact h.hold
/-- THE FRAME'S RULE. -/
theorem Hold.frameE (h : Hold w0 R (L ++ (E ++ L')) w) (hE : Hold w (bks E) E' w') : Hold w0 R (L ++ (E' ++ L')) w' := by
  have hne := List.pairwise_append.1 h.ne
  have hne2 := List.pairwise_append.1 hne.2.1
  have hold : ∀ x, (x ∈ L ∨ x ∈ L') → x.1 ∉ bks E := fun x hx hm => by
    obtain ⟨y, hy, e⟩ := List.mem_map.1 hm
    rcases hx with hx | hx
    · exact hne.2.2 x hx y (List.mem_append_left _ hy) e.symm
    · exact hne2.2.2 y hy x hx e
  have hin : ∀ x, (x ∈ L ∨ x ∈ L') → x ∈ L ++ (E ++ L') := fun x hx => by
    rcases hx with hx | hx
    · exact List.mem_append_left _ hx
    · exact List.mem_append_right _ (List.mem_append_right _ hx)
  have hblk : ∀ x, (x ∈ L ∨ x ∈ L') → w'.heap[x.1]? = some x.2 := fun x hx =>
    (hE.frame x.1 (h.lt (hin x hx)) (hold x hx)).trans (h.blk x (hin x hx))
  have hapart : ∀ x ∈ E', ∀ y, (y ∈ L ∨ y ∈ L') → x.1 ≠ y.1 := fun x hx y hy e => by
    rcases hE.own x hx with h1 | h1
    · have := h.lt (hin y hy)
      omega
    · exact hold y hy (e ▸ h1)
  refine ⟨hE.os.trans h.os, hE.tape.trans h.tape, hE.output.trans h.output, Nat.le_trans h.size hE.size, fun x hx => ?_, ?_, fun x hx => ?_, fun k hk hkR => ?_⟩
  · rcases List.mem_append.1 hx with hx | hx
    · exact hblk x (.inl hx)
    · rcases List.mem_append.1 hx with hx | hx
      · exact hE.blk x hx
      · exact hblk x (.inr hx)
  · refine List.pairwise_append.2 ⟨hne.1, List.pairwise_append.2 ⟨hE.ne, hne2.2.1, fun x hx y hy => hapart x hx y (.inr hy)⟩, fun x hx y hy => ?_⟩
    rcases List.mem_append.1 hy with hy | hy
    · exact (hapart y hy x (.inl hx)).symm
    · exact hne.2.2 x hx y (List.mem_append_right _ hy)
  · rcases List.mem_append.1 hx with hx | hx
    · exact h.own x (hin x (.inl hx))
    · rcases List.mem_append.1 hx with hx | hx
      · rcases hE.own x hx with h1 | h1
        · exact .inl (Nat.le_trans h.size h1)
        · obtain ⟨y, hy, e⟩ := List.mem_map.1 h1
          rw [← e]
          exact h.own y (List.mem_append_right _ (List.mem_append_left _ hy))
      · exact h.own x (hin x (.inr hx))
  · have hnE : k ∉ bks E := fun hm => by
      obtain ⟨y, hy, e⟩ := List.mem_map.1 hm
      rcases h.own y (List.mem_append_right _ (List.mem_append_left _ hy)) with h1 | h1
      · omega
      · exact hkR (e ▸ h1)
    exact (hE.frame k (Nat.lt_of_lt_of_le hk h.size) hnE).trans (h.frame k hk hkR)
theorem flatten_split : ∀ {Hs : List Hl} {i : Nat} {E : Hl}, Hs[i]? = some E → ∃ L L', Hs.flatten = L ++ (E ++ L') ∧ ∀ E', (Hs.set i E').flatten = L ++ (E' ++ L')
  | [], i, E, h => by simp at h
  | H :: r, 0, E, h => by
    obtain rfl : H = E := by simpa using h
    exact ⟨[], r.flatten, by simp, fun E' => by simp⟩
  | H :: r, i + 1, E, h => by
    obtain ⟨L, L', h1, h2⟩ := flatten_split (Hs := r) (i := i) (E := E) (by simpa using h)
    exact ⟨H ++ L, L', by simp [h1], fun E' => by simp [h2]⟩
/-- Heaplet i turned. -/
theorem HH.turn (h : HH w0 R Hs w) (i : Nat) (hi : Hs[i]? = some E) (hE : Hold w (bks E) E' w') : HH w0 R (Hs.set i E') w' := by
  obtain ⟨L, L', h1, h2⟩ := flatten_split hi
  unfold HH at *
  rw [h1] at h
  rw [h2]
  exact h.frameE hE
/-- A heaplet made. -/
theorem HH.add (h : HH w0 R Hs w) (hE : Hold w [] E' w') : HH w0 R (Hs ++ [E']) w' := by
  unfold HH at *
  have h1 : Hold w0 R (Hs.flatten ++ ([] ++ [])) w := by simpa using h
  have h2 := h1.frameE (E := []) hE
  simpa using h2
theorem HH.has (h : HH w0 R Hs w) (i : Nat) (hi : Hs[i]? = some E) : Has E w := by
  obtain ⟨L, L', h1, _⟩ := flatten_split hi
  have h2 := Hold.has h
  rw [h1] at h2
  exact h2.of ((List.sublist_append_left E L').trans (List.sublist_append_right L _))
theorem HH.hasAll (h : HH w0 R Hs w) : Has Hs.flatten w := Hold.has h
theorem HH.blk (h : HH w0 R Hs w) (i : Nat) {g : Nat} {o : Obj} (hi : Hs[i]? = some [(g, o)]) : w.heap[g]? = some o := (h.has i hi).blk (g, o) (by simp)
/-- The same blocks, told by other heaplets. -/
theorem HH.cast (h : HH w0 R Hs w) (e : Hs.flatten = Hs'.flatten) : HH w0 R Hs' w := by unfold HH at *; rw [← e]; exact h
theorem HH.perm (h : HH w0 R Hs w) (e : Hs.flatten.Perm Hs'.flatten) : HH w0 R Hs' w := Hold.perm h e
theorem flatten_sub {Hs Hs' : List Hl} (e : Hs'.Sublist Hs) : Hs'.flatten.Sublist Hs.flatten := by
  induction e with
  | slnil => exact .slnil
  | cons a _ ih => rw [List.flatten_cons]; exact ih.trans (List.sublist_append_right _ _)
  | cons_cons a _ ih => rw [List.flatten_cons, List.flatten_cons]; exact ih.append_left a
/-- Heaplets left out. -/
theorem HH.drop (h : HH w0 R Hs w) (e : Hs'.Sublist Hs) : HH w0 R Hs' w := Hold.sub h (flatten_sub e)
theorem HH.below (h : HH w0 R Hs w) (hb : Below w.heap.size w w') : HH w0 R Hs w' := Hold.call h hb
theorem HH.drew (h : HH w0 R Hs w) : HH w0 R Hs w.drew := Hold.drew h
theorem HH.toBelow (h : HH w0 [] Hs w) : Below w0.heap.size w0 w := Hold.toBelow h
/-- What was there ahead of the call, and may not be written. -/
theorem HH.old (h : HH w0 R Hs w) {g : Nat} (hg : g < w0.heap.size) (hR : g ∉ R) : w.heap[g]? = w0.heap[g]? := Hold.frame h g hg hR
theorem HH.oldCell (h : HH w0 R Hs w) {p : Addr} {v : Value} (hR : p.block ∉ R) (hc : w0.cell? p = some v) : w.cell? p = some v := by
  have hg := block_lt_of_cell hc
  rw [← hc]
  exact World.cell?_of_block (h.old hg hR)
theorem HH.lt (h : HH w0 R Hs w) (i : Nat) (hi : Hs[i]? = some E) {x : Nat × Obj} (hx : x ∈ E) : x.1 < w.heap.size := (Array.getElem?_eq_some_iff.1 ((h.has i hi).blk x hx)).1
/-- Its blocks are none of those that were there. -/
theorem HH.fresh (h : HH w0 [] Hs w) (i : Nat) (hi : Hs[i]? = some E) {g : Nat} (hg : g < w0.heap.size) : g ∉ bks E := fun hm => by
  obtain ⟨y, hy, e⟩ := List.mem_map.1 hm
  have : y ∈ Hs.flatten := List.mem_flatten.2 ⟨E, List.mem_of_getElem? hi, hy⟩
  rcases Hold.own h y this with h1 | h1
  · omega
  · cases h1
/-- What a callee did, told to its caller: the blocks that were handed on are E. -/
theorem HH.hold (h : HH w0 R [E] w) : Hold w0 R E w := by
  unfold HH at h
  rw [List.flatten_cons, List.flatten_nil, List.append_nil] at h
  exact h
end

/-- An operation's result, and the world behind it. -/
def Out (P : Program) (K : Value → World → Prop) : Result Next → Prop
  | .ok (.value v) w => K v w
  | .ok .skip w => K undef w
  | .ok (.enter f args) w => Calls P f args w fun e w' => ∃ v, e = .returned v ∧ K v w'
  | _ => False
theorem Out.mono {P : Program} {K K' : Value → World → Prop} {r : Result Next} (h : Out P K r) (hk : ∀ v w, K v w → K' v w) : Out P K' r := by
  cases r with
  | ok x w =>
    cases x with
    | value v => exact hk _ _ h
    | skip => exact hk _ _ h
    | enter f args => exact Calls.mono h fun e w' ⟨v, he, hv⟩ => ⟨v, he, hk _ _ hv⟩
    | _ => exact h.elim
  | halt x w => exact h.elim
theorem Out.wp {P : Program} {o : Oper} {a : Act} {w : World} {next : Act → World → Prop} {Q : Exit → Act → World → Prop} (h : Out P (fun v w' => next (a.put o.dst v) w') ((execOp a.eval o).run P w)) : o.wp P a w next Q := by
  unfold Oper.wp
  revert h
  generalize (execOp a.eval o).run P w = r
  intro h
  cases r with
  | ok x w' =>
    cases x with
    | value v => exact h
    | skip => exact h
    | enter f args =>
      refine Calls.mono h ?_
      rintro e w'' ⟨v, rfl, hv⟩
      exact hv
    | _ => exact h.elim
  | halt x w' => exact h.elim

/-- What a call does to the blocks E. -/
def Does (P : Program) (f : FuncId) (args : Array Value) (E : Hl) (Rd : World → Prop) (post : Value → Hl → Prop) : Prop :=
  ∀ w, Has E w → Rd w → Calls P f args w fun e w' => ∃ v E', e = .returned v ∧ post v E' ∧ Hold w (bks E) E' w'
/-- What an operation does to the blocks E. -/
def Small (P : Program) (a : Act) (o : Oper) (E : Hl) (Rd : World → Prop) (post : Value → Hl → Prop) : Prop :=
  ∀ w, Has E w → Rd w → Out P (fun v w' => ∃ E', post v E' ∧ Hold w (bks E) E' w') ((execOp a.eval o).run P w)

theorem Does.mono {P : Program} {f : FuncId} {args : Array Value} {E : Hl} {Rd Rd' : World → Prop} {post post' : Value → Hl → Prop} (h : Does P f args E Rd post) (hR : ∀ w, Rd' w → Rd w) (hp : ∀ v E', post v E' → post' v E') : Does P f args E Rd' post' :=
  fun w hE hw => (h w hE (hR w hw)).mono fun _ _ ⟨v, E', h1, h2, h3⟩ => ⟨v, E', h1, hp v E' h2, h3⟩
/-- A call, as an operation. -/
theorem Does.small {P : Program} {f : FuncId} {args : Array Value} {E : Hl} {Rd : World → Prop} {post : Value → Hl → Prop} {a : Act} {o : Oper} (h : Does P f args E Rd post) (hr : ∀ w, (execOp a.eval o).run P w = .ok (.enter f args) w) : Small P a o E Rd post := fun w hE hw => by
  rw [hr w]
  exact (h w hE hw).mono fun _ _ ⟨v, E', h1, h2, h3⟩ => ⟨v, h1, E', h2, h3⟩

section
variable {P : Program} {ops : Array Oper} {Q : Exit → Act → World → Prop} {o : Oper} {rest : List Oper} {a : Act} {w0 w : World} {n : Sz} {l l' : List (Nat × Value)} {R : List Nat} {Hs : List Hl} {E : Hl} {Rd : World → Prop} {post : Value → Hl → Prop} {d : Nat} {v : Value}
/-- An operation that has one value and turns nothing. -/
theorem stepV (hF : Fr n l a) (hd : o.dst = some d) (hg : Region.wanted o (yielded ops a.tmps) = true) (hr : (execOp a.eval o).run P w = .ok (.value v) w) (hk : Kept d l' l) (hdn : d < n.n)
    (h : ∀ a', Fr n ((d, v) :: l') a' → wpList P ops Q rest a' w) : wpList P ops Q (o :: rest) a w := by
  refine wpList_step fun K hK => ?_
  rw [if_pos hg]
  unfold Oper.wp
  rw [hr]
  show K (a.put o.dst v) w
  rw [hd]
  exact hK _ _ (h _ (hF.put v hk hdn))
/-- One that isn't wanted. -/
theorem stepU (hF : Fr n l a) (hd : o.dst = some d) (hg : Region.wanted o (yielded ops a.tmps) = false) (hk : Kept d l' l) (hdn : d < n.n)
    (h : ∀ a', Fr n l' a' → wpList P ops Q rest a' w) : wpList P ops Q (o :: rest) a w := by
  refine wpList_step fun K hK => ?_
  rw [if_neg (by rw [hg]; simp), hd]
  exact hK _ _ (h _ ((hF.put undef hk hdn).sub (List.sublist_cons_self _ _)))
theorem stepU0 (hF : Fr n l a) (hd : o.dst = none) (hg : Region.wanted o (yielded ops a.tmps) = false)
    (h : Fr n l a → wpList P ops Q rest a w) : wpList P ops Q (o :: rest) a w := by
  refine wpList_step fun K hK => ?_
  rw [if_neg (by rw [hg]; simp), hd]
  exact hK _ _ (h hF)
/-- One that turns heaplet i. -/
theorem stepE (i : Nat) (hF : Fr n l a) (hH : HH w0 R Hs w) (hi : Hs[i]? = some E) (hs : Small P a o E Rd post) (hRd : Rd w) (hd : o.dst = some d) (hg : Region.wanted o (yielded ops a.tmps) = true) (hk : Kept d l' l) (hdn : d < n.n)
    (h : ∀ v E' a' w', post v E' → Fr n ((d, v) :: l') a' → HH w0 R (Hs.set i E') w' → wpList P ops Q rest a' w') : wpList P ops Q (o :: rest) a w := by
  refine wpList_step fun K hK => ?_
  rw [if_pos hg]
  refine Out.wp ((hs w (hH.has i hi) hRd).mono ?_)
  rintro v w' ⟨E', h1, h2⟩
  rw [hd]
  exact hK _ _ (h v E' _ w' h1 (hF.put v hk hdn) (hH.turn i hi h2))
/-- The same, whose result is in no slot. -/
theorem stepE0 (i : Nat) (hH : HH w0 R Hs w) (hi : Hs[i]? = some E) (hs : Small P a o E Rd post) (hRd : Rd w) (hd : o.dst = none) (hg : Region.wanted o (yielded ops a.tmps) = true)
    (h : ∀ v E' w', post v E' → HH w0 R (Hs.set i E') w' → wpList P ops Q rest a w') : wpList P ops Q (o :: rest) a w := by
  refine wpList_step fun K hK => ?_
  rw [if_pos hg]
  refine Out.wp ((hs w (hH.has i hi) hRd).mono ?_)
  rintro v w' ⟨E', h1, h2⟩
  rw [hd]
  exact hK _ _ (h v E' w' h1 (hH.turn i hi h2))
/-- One that makes a heaplet, or none, and turns none. -/
theorem stepM (hF : Fr n l a) (hH : HH w0 R Hs w) (hs : Small P a o [] Rd post) (hRd : Rd w) (hd : o.dst = some d) (hg : Region.wanted o (yielded ops a.tmps) = true) (hk : Kept d l' l) (hdn : d < n.n)
    (h : ∀ v E' a' w', post v E' → Fr n ((d, v) :: l') a' → HH w0 R (Hs ++ [E']) w' → wpList P ops Q rest a' w') : wpList P ops Q (o :: rest) a w := by
  refine wpList_step fun K hK => ?_
  rw [if_pos hg]
  refine Out.wp ((hs w (Has.nil w) hRd).mono ?_)
  rintro v w' ⟨E', h1, h2⟩
  rw [hd]
  exact hK _ _ (h v E' _ w' h1 (hF.put v hk hdn) (hH.add h2))
theorem stepEnd (h : Q .normal a w) : wpList P ops Q [] a w := h
end
/-- A guard that is met, or not. -/
theorem Fr.wanted {n : Sz} {l : List (Nat × Value)} {a : Act} {ops : Array Oper} {o : Oper} (hF : Fr n l a) (i : Nat) {j k : Nat} {b c : Bool} (hi : l[i]? = some (k, .bool b)) (hd : (ops[j]?).bind (·.dst) = some k) (hg : o.guard = some (j, c)) (hk : k < n.n) : Region.wanted o (yielded ops a.tmps) = (b == c) := by
  have h1 := hF.at i hi
  have hk' : k < a.tmps.size := by rw [hF.size]; exact hk
  have h2 : a.tmps[k]? = some (.bool b) := by
    rw [Array.getD_eq_getD_getElem?, Array.getElem?_eq_getElem hk'] at h1
    rw [Array.getElem?_eq_getElem hk']
    simpa using h1
  unfold Region.wanted yielded
  rw [hg]
  simp only [hd, Option.bind_some, h2]
  cases b <;> cases c <;> rfl
end Go.Proofs.YticflflbogdljaaDoor
