/- A region that draws its order: what has one value is taken first, the rest in whatever order comes up. Plain theorems, over any program. -/
import Derived.Test.YticflflbogdljaaDoorOpM
namespace Go.Proofs.YticflflbogdljaaDoor
open Go

section
variable {P : Program} {ops : Array Oper} {Q : Exit → Act → World → Prop} {md : Region.Mode}

/-- Operation i waits for operation k. -/
def edgeW (md : Region.Mode) (ops : Array Oper) (i k : Nat) : Bool :=
  match ops[i]? with
  | some o => o.after.any fun e => Region.binds md e && e.on == k
  | none => false
/-- Each of the list waits for the next one. -/
def pathW (md : Region.Mode) (ops : Array Oper) : List Nat → Bool
  | i :: k :: r => edgeW md ops i k && pathW md ops (k :: r)
  | _ => true
def Behind (md : Region.Mode) (ops : Array Oper) (i p : Nat) : Prop := ∃ r, pathW md ops (i :: (r ++ [p])) = true
/-- Any two operations are one ahead of the other, or apart. -/
def okAll (md : Region.Mode) (ops : Array Oper) : Bool :=
  Region.noSelect ops && (List.range ops.size).all fun i => (List.range ops.size).all fun j => i == j || edgeW md ops i j || edgeW md ops j i || match ops[i]?, ops[j]? with
    | some x, some y => x.apart ops y
    | _, _ => true

theorem edgeW_spec {i k : Nat} (h : edgeW md ops i k = true) : ∃ o, ops[i]? = some o ∧ ∃ e ∈ o.after, Region.binds md e = true ∧ e.on = k := by
  unfold edgeW at h
  split at h
  · rename_i o ho
    simp only [Array.any_eq_true', Bool.and_eq_true, beq_iff_eq] at h
    exact ⟨o, ho, h⟩
  · cases h
theorem edgeW_of {i : Nat} {o : Oper} {e : Edge} (ho : ops[i]? = some o) (he : e ∈ o.after) (hb : Region.binds md e = true) : edgeW md ops i e.on = true := by
  unfold edgeW
  rw [ho]
  simp only [Array.any_eq_true', Bool.and_eq_true, beq_iff_eq]
  exact ⟨e, he, hb, rfl⟩
theorem behind_listed {L : Array Bool} (hc : Closed md ops L) {p : Nat} : ∀ (r : List Nat) (i : Nat), pathW md ops (i :: (r ++ [p])) = true → (∀ k, edgeW md ops i k = true → L.getD k false = true) → L.getD p false = true
  | [], i, h, hi => by
    simp only [List.nil_append, pathW, Bool.and_true] at h
    exact hi p h
  | k :: r, i, h, hi => by
    simp only [List.cons_append, pathW, Bool.and_eq_true] at h
    refine behind_listed hc r k h.2 fun m hm => ?_
    obtain ⟨o, ho, e, he, hb, rfl⟩ := edgeW_spec hm
    exact hc k o ho (getD_up (hi k h.1)) e he hb
theorem ready_edges {L : Array Bool} {i : Nat} (hi : i ∈ Region.ready md ops L) : ∀ k, edgeW md ops i k = true → L.getD k false = true := fun k hk => by
  obtain ⟨_, o, ho, hall⟩ := mem_ready.1 hi
  obtain ⟨o', ho', e, he, hb, rfl⟩ := edgeW_spec hk
  rw [ho] at ho'
  obtain rfl := Option.some.inj ho'
  exact hall e he hb

/-- Operation j, which doesn't panic. -/
def opO (P : Program) (ops : Array Oper) (j : Nat) (K : Act → World → Prop) (a : Act) (w : World) : Prop :=
  match ops[j]? with
  | none => False
  | some o => if Region.wanted o (yielded ops a.tmps) then Out P (fun v w' => K (a.put o.dst v) w') ((execOp a.eval o).run P w) else K (a.put o.dst undef) w
theorem opO_wp {j : Nat} {K : Act → World → Prop} {a : Act} {w : World} (h : opO P ops j K a w) : wpOp P ops Q j K a w := by
  unfold opO at h
  unfold Go.wpOp
  split
  · rename_i h0; rw [h0] at h; exact h.elim
  · rename_i o h0
    simp only [h0] at h
    split
    · rename_i hw; simp only [hw, if_true] at h; exact .inl (Out.wp h)
    · rename_i hw; simp only [hw] at h; exact h
theorem opO_mono {j : Nat} {K K' : Act → World → Prop} (hk : ∀ a w, K a w → K' a w) {a : Act} {w : World} (h : opO P ops j K a w) : opO P ops j K' a w := by
  unfold opO at *
  split
  · rename_i h0; rw [h0] at h; exact h
  · rename_i o h0
    simp only [h0] at h
    split
    · rename_i hw; simp only [hw, if_true] at h; exact h.mono fun _ _ => hk _ _
    · rename_i hw; simp only [hw] at h; exact hk _ _ h

abbrev Pend := List (Nat × (World → Prop))
/-- The walk: Ss: what the operations that were taken ahead of their turn ask of the world. -/
def wpX (P : Program) (md : Region.Mode) (ops : Array Oper) (Q : Exit → Act → World → Prop) : Nat → Pend → Array Bool → Act → World → Prop
  | 0, _, L, a, w => Region.ready md ops L = [] ∧ Q .normal a w
  | n + 1, Ss, L, a, w => (Region.ready md ops L = [] → Q .normal a w) ∧ ∀ j ∈ Region.ready md ops L,
      opO P ops j (fun a' w' => ∃ Ss', (∀ s ∈ Ss, s ∈ Ss' ∨ Behind md ops j s.1) ∧ (∀ s ∈ Ss', s.2 w') ∧ wpX P md ops Q n Ss' (L.setIfInBounds j true) a' w') a w
theorem wpX_any : ∀ (n : Nat) {Ss : Pend} {L : Array Bool} {a : Act} {w : World}, wpX P md ops Q n Ss L a w → wpAny P md ops Q n L a w
  | 0, _, _, _, _, h => h
  | n + 1, _, _, _, _, h => ⟨h.1, fun j hj => opO_wp (opO_mono (fun _ _ ⟨_, _, _, h⟩ => wpX_any n h) (h.2 j hj))⟩
theorem wpX_sub {n : Nat} {Ss Ss' : Pend} {L : Array Bool} {a : Act} {w : World} (h : wpX P md ops Q n Ss L a w) (hs : ∀ s ∈ Ss', s ∈ Ss) : wpX P md ops Q n Ss' L a w := by
  cases n with
  | zero => exact h
  | succ n => exact ⟨h.1, fun j hj => opO_mono (fun _ _ ⟨T, h1, h2, h3⟩ => ⟨T, fun s hs' => h1 s (hs s hs'), h2, h3⟩) (h.2 j hj)⟩

theorem wpX_first {i : Nat} {oi : Oper} {v : Value} {S : World → Prop} (hi : ops[i]? = some oi) (hok : okAll md ops = true) :
    ∀ (n : Nat) (Ss : Pend) (L : Array Bool) (a : Act) (w : World), Closed md ops L → i ∈ Region.ready md ops L → S w → (∀ s ∈ Ss, s.2 w) → YieldsIf P ops S oi v a →
      wpX P md ops Q n ((i, S) :: Ss) (L.setIfInBounds i true) (a.put oi.dst v) w → wpX P md ops Q (n + 1) Ss L a w := by
  have hok' := hok
  unfold okAll at hok
  rw [Bool.and_eq_true] at hok
  have hsel := Region.noSelect_spec hok.1
  have hall := hok.2
  intro n
  induction n with
  | zero =>
    intro Ss L a w hc hr hS hSs hy H
    refine ⟨fun h => (by rw [h] at hr; cases hr), fun j hj => ?_⟩
    by_cases hji : j = i
    · subst hji
      unfold opO
      simp only [hi]
      split
      · rename_i hw
        rcases hy with ⟨_, hv⟩ | ⟨hw', _⟩
        · rw [hv w hS]; exact ⟨Ss, fun s hs => .inl hs, hSs, wpX_sub H fun s hs => List.mem_cons_of_mem _ hs⟩
        · rw [hw'] at hw; cases hw
      · rename_i hw
        rcases hy with ⟨hw', _⟩ | ⟨_, rfl⟩
        · exact absurd hw' hw
        · exact ⟨Ss, fun s hs => .inl hs, hSs, wpX_sub H fun s hs => List.mem_cons_of_mem _ hs⟩
    · have := ready_mono hj hji
      rw [H.1] at this
      cases this
  | succ n ih =>
    intro Ss L a w hc hr hS hSs hy H
    refine ⟨fun h => (by rw [h] at hr; cases hr), fun j hj => ?_⟩
    by_cases hji : j = i
    · subst hji
      unfold opO
      simp only [hi]
      split
      · rename_i hw
        rcases hy with ⟨_, hv⟩ | ⟨hw', _⟩
        · rw [hv w hS]; exact ⟨Ss, fun s hs => .inl hs, hSs, wpX_sub H fun s hs => List.mem_cons_of_mem _ hs⟩
        · rw [hw'] at hw; cases hw
      · rename_i hw
        rcases hy with ⟨hw', _⟩ | ⟨_, rfl⟩
        · exact absurd hw' hw
        · exact ⟨Ss, fun s hs => .inl hs, hSs, wpX_sub H fun s hs => List.mem_cons_of_mem _ hs⟩
    · have hH := H.2 j (ready_mono hj hji)
      obtain ⟨hjun, oj, hoj, _⟩ := mem_ready.1 hj
      have hiun := (mem_ready.1 hr).1
      have hij1 : ∀ x y : Nat, x ∈ Region.ready md ops L → L.getD y true = false → edgeW md ops x y = false := fun x y hx hy => by
        cases he : edgeW md ops x y
        · rfl
        · have := ready_edges hx y he
          rw [getD_down hy] at this; cases this
      have hap : oi.apart ops oj = true := by
        have h1 := List.all_eq_true.1 (List.all_eq_true.1 hall i (List.mem_range.2 (Array.getElem?_eq_some_iff.1 hi).1)) j (List.mem_range.2 (Array.getElem?_eq_some_iff.1 hoj).1)
        rw [hij1 i j hr hjun, hij1 j i hj hiun, hi, hoj] at h1
        simpa [Ne.symm hji] using h1
      obtain ⟨h1, h2, h3⟩ := Oper.apart_spec hap
      have he : execOp (a.put oi.dst v).eval oj = execOp a.eval oj := execOp_put oj (fun cs b => hsel j oj cs b hoj) a oi.dst v h1
      have hw : Region.wanted oj (yielded ops (a.put oi.dst v).tmps) = Region.wanted oj (yielded ops a.tmps) := wanted_put oj a oi.dst v h1
      have hnb : ¬ Behind md ops j i := fun ⟨r, hr'⟩ => by
        have := behind_listed hc r j hr' (ready_edges hj)
        rw [getD_down hiun] at this; cases this
      have key : ∀ (u : Value) (w' : World), (∃ Ss', (∀ s ∈ (i, S) :: Ss, s ∈ Ss' ∨ Behind md ops j s.1) ∧ (∀ s ∈ Ss', s.2 w') ∧ wpX P md ops Q n Ss' ((L.setIfInBounds i true).setIfInBounds j true) ((a.put oi.dst v).put oj.dst u) w') →
          ∃ Ss', (∀ s ∈ Ss, s ∈ Ss' ∨ Behind md ops j s.1) ∧ (∀ s ∈ Ss', s.2 w') ∧ wpX P md ops Q (n + 1) Ss' (L.setIfInBounds j true) (a.put oj.dst u) w' := fun u w' ⟨T, t1, t2, t3⟩ => by
        have hT : (i, S) ∈ T := (t1 (i, S) (by simp)).resolve_right hnb
        refine ⟨T, fun s hs => t1 s (List.mem_cons_of_mem _ hs), t2, ih T _ _ w' (hc.set hj) (ready_mono hr (Ne.symm hji)) (t2 _ hT) t2 ?_ ?_⟩
        · refine hy.of_same (execOp_put oi (fun cs b => hsel i oi cs b hi) a oj.dst u h3) (wanted_put oi a oj.dst u h3)
        · rw [Array.setIfInBounds_comm _ _ hji, ← Act.put_comm a v u h2]
          exact wpX_sub t3 fun s hs => by
            rcases List.mem_cons.1 hs with rfl | hs
            · exact hT
            · exact hs
      unfold opO at hH ⊢
      simp only [hoj] at hH ⊢
      rw [he, hw] at hH
      split
      · rename_i hw2
        simp only [hw2, if_true] at hH
        exact hH.mono fun u w' h => key u w' h
      · rename_i hw2
        simp only [hw2] at hH
        exact key undef w hH
end

/-! ### By live slots -/
section
variable {P : Program} {ops : Array Oper} {Q : Exit → Act → World → Prop} {o : Oper} {w w0 : World} {n : Sz} {d m i : Nat} {l l' : List (Nat × Value)} {L : Array Bool} {Ss Ss' : Pend} {R : List Nat} {Hs : List Hl} {E : Hl} {Rd : World → Prop} {post : Value → Hl → Prop} {v : Value}
def RX (P : Program) (ops : Array Oper) (Q : Exit → Act → World → Prop) (m : Nat) (Ss : Pend) (L : Array Bool) (n : Sz) (l : List (Nat × Value)) (w : World) : Prop :=
  okAll .any ops = true → Closed .any ops L → (∀ s ∈ Ss, s.2 w) → ∀ a, Fr n l a → wpX P .any ops Q m Ss L a w
def rdy (ops : Array Oper) (L : Array Bool) (i : Nat) : Bool := (Region.ready .any ops L).contains i
theorem region_X {id : Nat} {ls : List Oper} {a : Act} (hm : P.follows .mixedOrders = true) (hok : okAll .any ls.toArray = true) (hF : Fr n l a)
    (h : RX P ls.toArray Q ls.length [] (Array.replicate ls.length false) n l w.drew) : (Code.region id ls.toArray true).wp P Q a w := by
  refine wp_region_any hm ?_
  have := h hok (by simpa using Closed.none .any ls.toArray) (fun _ h => (by cases h)) a hF
  simpa using wpX_any _ this
/-- What has one value in whatever world. -/
theorem rxV (i : Nat) (ho : ops[i]? = some o) (hr : rdy ops L i = true) (hd : o.dst = some d) (hg : ∀ a, Fr n l a → Region.wanted o (yielded ops a.tmps) = true)
    (hv : ∀ a w, Fr n l a → (execOp a.eval o).run P w = .ok (.value v) w) (hk : Kept d l' l) (hdn : d < n.n) (h : RX P ops Q m Ss (L.setIfInBounds i true) n ((d, v) :: l') w) : RX P ops Q (m + 1) Ss L n l w := fun hok hc hS a hF => by
  have hi : i ∈ Region.ready .any ops L := by simpa [rdy] using hr
  refine wpX_first (S := fun _ => True) ho hok m Ss L a w hc hi trivial hS (.inl ⟨hg a hF, fun w _ => hv a w hF⟩) ?_
  rw [hd]
  have hF' := hF.put v hk hdn
  have := h hok (hc.set hi) hS _ hF'
  clear h
  -- the true condition is no burden
  revert this
  generalize a.put (some d) v = a'
  generalize L.setIfInBounds i true = L'
  intro h
  have key : ∀ (m : Nat) (Ss : Pend) (L' : Array Bool) (a' : Act) (w : World), wpX P .any ops Q m Ss L' a' w → wpX P .any ops Q m ((i, fun _ => True) :: Ss) L' a' w := by
    intro m
    induction m with
    | zero => intro Ss L' a' w h; exact h
    | succ m ih =>
      intro Ss L' a' w h
      refine ⟨h.1, fun j hj => opO_mono (fun a' w' ⟨T, t1, t2, t3⟩ => ⟨(i, fun _ => True) :: T, fun s hs => ?_, fun s hs => ?_, ih T _ _ _ t3⟩) (h.2 j hj)⟩
      · rcases List.mem_cons.1 hs with rfl | hs
        · exact .inl (by simp)
        · exact (t1 s hs).imp (fun h => List.mem_cons_of_mem _ h) id
      · rcases List.mem_cons.1 hs with rfl | hs
        · trivial
        · exact t2 s hs
  exact key m Ss L' a' w h
/-- What has one value in every world that meets S. -/
theorem rxS (S : World → Prop) (i : Nat) (ho : ops[i]? = some o) (hr : rdy ops L i = true) (hd : o.dst = some d) (hg : ∀ a, Fr n l a → Region.wanted o (yielded ops a.tmps) = true) (hS : S w)
    (hv : ∀ a w, Fr n l a → S w → (execOp a.eval o).run P w = .ok (.value v) w) (hk : Kept d l' l) (hdn : d < n.n) (h : RX P ops Q m ((i, S) :: Ss) (L.setIfInBounds i true) n ((d, v) :: l') w) : RX P ops Q (m + 1) Ss L n l w := fun hok hc hSs a hF => by
  have hi : i ∈ Region.ready .any ops L := by simpa [rdy] using hr
  refine wpX_first ho hok m Ss L a w hc hi hS hSs (.inl ⟨hg a hF, fun w hw => hv a w hF hw⟩) ?_
  rw [hd]
  refine h hok (hc.set hi) (fun s hs => ?_) _ (hF.put v hk hdn)
  rcases List.mem_cons.1 hs with rfl | hs
  · exact hS
  · exact hSs s hs
/-- What isn't wanted. -/
theorem rxU (i : Nat) (ho : ops[i]? = some o) (hr : rdy ops L i = true) (hd : o.dst = some d) (hg : ∀ a, Fr n l a → Region.wanted o (yielded ops a.tmps) = false)
    (hk : Kept d l' l) (hdn : d < n.n) (h : RX P ops Q m ((i, fun _ => True) :: Ss) (L.setIfInBounds i true) n l' w) : RX P ops Q (m + 1) Ss L n l w := fun hok hc hSs a hF => by
  have hi : i ∈ Region.ready .any ops L := by simpa [rdy] using hr
  refine wpX_first (v := undef) (S := fun _ => True) ho hok m Ss L a w hc hi trivial hSs (.inr ⟨hg a hF, rfl⟩) ?_
  rw [hd]
  refine h hok (hc.set hi) (fun s hs => ?_) _ ((hF.put undef hk hdn).sub (List.sublist_cons_self _ _))
  rcases List.mem_cons.1 hs with rfl | hs
  · trivial
  · exact hSs s hs
theorem rxU0 (i : Nat) (ho : ops[i]? = some o) (hr : rdy ops L i = true) (hd : o.dst = none) (hg : ∀ a, Fr n l a → Region.wanted o (yielded ops a.tmps) = false)
    (h : RX P ops Q m ((i, fun _ => True) :: Ss) (L.setIfInBounds i true) n l w) : RX P ops Q (m + 1) Ss L n l w := fun hok hc hSs a hF => by
  have hi : i ∈ Region.ready .any ops L := by simpa [rdy] using hr
  refine wpX_first (v := undef) (S := fun _ => True) ho hok m Ss L a w hc hi trivial hSs (.inr ⟨hg a hF, rfl⟩) ?_
  rw [hd]
  refine h hok (hc.set hi) (fun s hs => ?_) _ hF
  rcases List.mem_cons.1 hs with rfl | hs
  · trivial
  · exact hSs s hs
/-- Operation i comes up. -/
def MO (P : Program) (ops : Array Oper) (Q : Exit → Act → World → Prop) (m : Nat) (Ss : Pend) (L : Array Bool) (n : Sz) (l : List (Nat × Value)) (w : World) (i : Nat) : Prop :=
  ∃ o, ops[i]? = some o ∧ ∀ a, Fr n l a → Region.wanted o (yielded ops a.tmps) = true ∧
    Out P (fun v w' => ∃ Ss', (∀ s ∈ Ss, s ∈ Ss' ∨ Behind .any ops i s.1) ∧ (∀ s ∈ Ss', s.2 w') ∧ ∀ a', a' = a.put o.dst v → okAll .any ops = true → Closed .any ops (L.setIfInBounds i true) → wpX P .any ops Q m Ss' (L.setIfInBounds i true) a' w') ((execOp a.eval o).run P w)
theorem rxMs {is : List Nat} (hr : Region.ready .any ops L = is) (hne : is ≠ []) (h : ∀ i ∈ is, MO P ops Q m Ss L n l w i) : RX P ops Q (m + 1) Ss L n l w := fun hok hc hSs a hF => by
  refine ⟨fun h0 => absurd (hr ▸ h0) hne, fun j hj => ?_⟩
  obtain ⟨o, ho, h2⟩ := h j (hr ▸ hj)
  obtain ⟨hw, h3⟩ := h2 a hF
  unfold opO
  simp only [ho, hw, if_true]
  exact h3.mono fun v w' ⟨T, t1, t2, t3⟩ => ⟨T, t1, t2, t3 _ rfl hok (hc.set hj)⟩
theorem rx1 (i : Nat) (hr : Region.ready .any ops L = [i]) (h : MO P ops Q m Ss L n l w i) : RX P ops Q (m + 1) Ss L n l w := rxMs hr (by simp) fun j hj => by
  obtain rfl : j = i := by simpa using hj
  exact h
theorem rx2 (i j : Nat) (hr : Region.ready .any ops L = [i, j]) (h : MO P ops Q m Ss L n l w i) (h2 : MO P ops Q m Ss L n l w j) : RX P ops Q (m + 1) Ss L n l w := rxMs hr (by simp) fun k hk => by
  rcases List.mem_cons.1 hk with rfl | hk
  · exact h
  · obtain rfl : k = j := by simpa using hk
    exact h2
theorem rx3 (i j k : Nat) (hr : Region.ready .any ops L = [i, j, k]) (h : MO P ops Q m Ss L n l w i) (h2 : MO P ops Q m Ss L n l w j) (h3 : MO P ops Q m Ss L n l w k) : RX P ops Q (m + 1) Ss L n l w := rxMs hr (by simp) fun x hx => by
  rcases List.mem_cons.1 hx with rfl | hx
  · exact h
  · rcases List.mem_cons.1 hx with rfl | hx
    · exact h2
    · obtain rfl : x = k := by simpa using hx
      exact h3
theorem rxEnd (hr : Region.ready .any ops L = []) (h : ∀ a, Fr n l a → Q .normal a w) : RX P ops Q m Ss L n l w := fun _ _ _ a hF => by
  cases m with
  | zero => exact ⟨hr, h a hF⟩
  | succ m => exact ⟨fun _ => h a hF, fun j hj => by rw [hr] at hj; cases hj⟩
/-- What is pending behind an operation: what waited is let go, the rest still holds. -/
def PendOk (ops : Array Oper) (i : Nat) (Ss Ss' : Pend) : Prop := ∀ s ∈ Ss, s ∈ Ss' ∨ Behind .any ops i s.1
theorem PendOk.nil (i : Nat) (Ss' : Pend) : PendOk ops i [] Ss' := fun _ h => (by cases h)
theorem PendOk.keep {i : Nat} {s : Nat × (World → Prop)} (h : PendOk ops i Ss Ss') : PendOk ops i (s :: Ss) (s :: Ss') := fun x hx => by
  rcases List.mem_cons.1 hx with rfl | hx
  · exact .inl (by simp)
  · exact (h x hx).imp (fun h => List.mem_cons_of_mem _ h) id
theorem PendOk.go {i p : Nat} {S : World → Prop} (r : List Nat) (hp : pathW .any ops (i :: (r ++ [p])) = true) (h : PendOk ops i Ss Ss') : PendOk ops i ((p, S) :: Ss) Ss' := fun x hx => by
  rcases List.mem_cons.1 hx with rfl | hx
  · exact .inr ⟨r, hp⟩
  · exact h x hx
/-- One that turns heaplet c. -/
theorem moE (c : Nat) (ho : ops[i]? = some o) (hH : HH w0 R Hs w) (hi : Hs[c]? = some E) (hs : ∀ a, Fr n l a → Small P a o E Rd post) (hRd : Rd w) (hd : o.dst = some d) (hg : ∀ a, Fr n l a → Region.wanted o (yielded ops a.tmps) = true) (hk : Kept d l' l) (hdn : d < n.n) (hp : PendOk ops i Ss Ss')
    (h : ∀ v E' w', post v E' → HH w0 R (Hs.set c E') w' → (∀ s ∈ Ss', s.2 w') ∧ RX P ops Q m Ss' (L.setIfInBounds i true) n ((d, v) :: l') w') : MO P ops Q m Ss L n l w i := by
  refine ⟨o, ho, fun a hF => ⟨hg a hF, (hs a hF w (hH.has c hi) hRd).mono ?_⟩⟩
  rintro v w' ⟨E', h1, h2⟩
  obtain ⟨h3, h4⟩ := h v E' w' h1 (hH.turn c hi h2)
  refine ⟨Ss', hp, h3, fun a' e hok hc => ?_⟩
  subst e
  rw [hd]
  exact h4 hok hc h3 _ (hF.put v hk hdn)
/-- The same, whose result is in no slot. -/
theorem moE0 (c : Nat) (ho : ops[i]? = some o) (hH : HH w0 R Hs w) (hi : Hs[c]? = some E) (hs : ∀ a, Fr n l a → Small P a o E Rd post) (hRd : Rd w) (hd : o.dst = none) (hg : ∀ a, Fr n l a → Region.wanted o (yielded ops a.tmps) = true) (hp : PendOk ops i Ss Ss')
    (h : ∀ v E' w', post v E' → HH w0 R (Hs.set c E') w' → (∀ s ∈ Ss', s.2 w') ∧ RX P ops Q m Ss' (L.setIfInBounds i true) n l w') : MO P ops Q m Ss L n l w i := by
  refine ⟨o, ho, fun a hF => ⟨hg a hF, (hs a hF w (hH.has c hi) hRd).mono ?_⟩⟩
  rintro v w' ⟨E', h1, h2⟩
  obtain ⟨h3, h4⟩ := h v E' w' h1 (hH.turn c hi h2)
  refine ⟨Ss', hp, h3, fun a' e hok hc => ?_⟩
  subst e
  rw [hd]
  exact h4 hok hc h3 _ hF
/-- One that makes a heaplet, or none, and turns none. -/
theorem moM (ho : ops[i]? = some o) (hH : HH w0 R Hs w) (hs : ∀ a, Fr n l a → Small P a o [] Rd post) (hRd : Rd w) (hd : o.dst = some d) (hg : ∀ a, Fr n l a → Region.wanted o (yielded ops a.tmps) = true) (hk : Kept d l' l) (hdn : d < n.n) (hp : PendOk ops i Ss Ss')
    (h : ∀ v E' w', post v E' → HH w0 R (Hs ++ [E']) w' → (∀ s ∈ Ss', s.2 w') ∧ RX P ops Q m Ss' (L.setIfInBounds i true) n ((d, v) :: l') w') : MO P ops Q m Ss L n l w i := by
  refine ⟨o, ho, fun a hF => ⟨hg a hF, (hs a hF w (Has.nil w) hRd).mono ?_⟩⟩
  rintro v w' ⟨E', h1, h2⟩
  obtain ⟨h3, h4⟩ := h v E' w' h1 (hH.add h2)
  refine ⟨Ss', hp, h3, fun a' e hok hc => ?_⟩
  subst e
  rw [hd]
  exact h4 hok hc h3 _ (hF.put v hk hdn)
/-- One that has one value in this world, and turns nothing: a load that may not be taken ahead. -/
theorem moV (ho : ops[i]? = some o) (hv : ∀ a, Fr n l a → (execOp a.eval o).run P w = .ok (.value v) w) (hd : o.dst = some d) (hg : ∀ a, Fr n l a → Region.wanted o (yielded ops a.tmps) = true) (hk : Kept d l' l) (hdn : d < n.n) (hSs : ∀ s ∈ Ss, s.2 w)
    (h : RX P ops Q m Ss (L.setIfInBounds i true) n ((d, v) :: l') w) : MO P ops Q m Ss L n l w i := by
  refine ⟨o, ho, fun a hF => ⟨hg a hF, ?_⟩⟩
  rw [hv a hF]
  refine ⟨Ss, fun s hs => .inl hs, hSs, fun a' e hok hc => ?_⟩
  subst e
  rw [hd]
  exact h hok hc hSs _ (hF.put v hk hdn)
end
end Go.Proofs.YticflflbogdljaaDoor
