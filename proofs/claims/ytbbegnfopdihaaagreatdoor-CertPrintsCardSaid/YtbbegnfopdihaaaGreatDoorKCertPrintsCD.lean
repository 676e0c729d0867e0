/- What the claim leans on, part 4: plain theorems, and walks of functions of the program and of the document. -/
import Derived.Test.YtbbegnfopdihaaaGreatDoorKCertPrintsCA
import Derived.Test.YtbbegnfopdihaaaGreatDoorKCertPrintsCC
import Derived.Test.YtbbegnfopdihaaaGreatDoorKCertPrintsCB
namespace Go.Proofs.YtbbegnfopdihaaaGreatDoor
open Go

/-- What an operation chose: an address, a capacity, where a slice lies, a value, what it made. -/
structure Ch where
  g : Nat
  c : Nat
  A : Option Addr
  v : Value
  E : Hl
def ch0 : Ch := ⟨0, 0, none, undef, []⟩
abbrev Chs := Nat → Ch
def onD (ds : List Nat) (G : Chs) : Chs := fun k => cond (ds.contains k) (G k) ch0
/-- An operation: its number, its slot; whose slots it reads, whose choices it names; the heaplets that it turns, and reads; its value, what it leaves, what is known. -/
structure It where
  i : Nat
  d : Option Nat
  ns : List Nat
  ds : List Nat
  s : List Nat
  r : List Nat
  v : Chs → Ch → Value
  E : Chs → Ch → Hl
  post : Chs → Ch → Prop
def It.val (t : It) (G : Chs) : Value := t.v (onD t.ds G) (G t.i)
def It.hl (t : It) (G : Chs) : Hl := t.E (onD t.ds G) (G t.i)
def slotOf : Option Nat → Value → Slots
  | some d, v => [(d, v)]
  | none, _ => []
def slotsOf (G : Chs) : List It → Slots
  | [] => []
  | t :: r => slotOf t.d (t.val G) ++ slotsOf G r
def availG (l : Slots) (its : List It) (ns : List Nat) (G : Chs) : Slots := slotsOf G (its.filter fun s => ns.contains s.i) ++ l
def basesG : Nat → List Hl → List (Nat × Hl)
  | _, [] => []
  | k, h :: r => (k, h) :: basesG (k + 1) r
def ownG (Hs : List Hl) (its : List It) (G : Chs) : List (Nat × Hl) := basesG 1000 Hs ++ its.map fun t => (t.i, t.hl G)
def lookG (id : Nat) : List (Nat × Hl) → Hl
  | [] => []
  | x :: r => cond (Nat.beq x.1 id) x.2 (lookG id r)
def goneG (its : List It) (dn : Nat → Bool) (id : Nat) : Bool := its.any fun u => dn u.i && u.s.contains id
def liveG (its : List It) (dn : Nat → Bool) (id : Nat) : Bool := (Nat.ble 1000 id || dn id) && !goneG its dn id
def stE (al : Nat → Bool) (o : List (Nat × Hl)) : List Hl := o.map fun x => cond (al x.1) x.2 []
def postsG (G : Chs) : List It → Prop
  | [] => True
  | t :: r => t.post (onD t.ds G) (G t.i) ∧ postsG G r

/-! ### Heaplets by their owners -/
theorem look_mem {id : Nat} {h : Hl} : ∀ {O : List (Nat × Hl)}, (O.map (·.1)).Nodup → (id, h) ∈ O → lookG id O = h
  | [], _, hm => by cases hm
  | x :: r, hn, hm => by
    rw [lookG]
    rw [List.map_cons, List.nodup_cons] at hn
    rcases List.mem_cons.1 hm with rfl | hm
    · rw [Nat.beq_refl]; rfl
    · have hne : x.1 ≠ id := fun e => hn.1 (e ▸ List.mem_map_of_mem (f := (·.1)) hm)
      have : Nat.beq x.1 id = false := by
        cases hb : Nat.beq x.1 id
        · rfl
        · exact absurd (Nat.eq_of_beq_eq_true hb) hne
      rw [this]
      exact look_mem hn.2 hm
theorem extract1G {al : Nat → Bool} {id : Nat} (ha : al id = true) : ∀ {O : List (Nat × Hl)}, (O.map (·.1)).Nodup → id ∈ O.map (·.1) →
    ((stE al O).flatten).Perm (lookG id O ++ (stE (fun k => al k && !(k == id)) O).flatten)
  | [], _, hm => by cases hm
  | x :: r, hn, hm => by
    rw [List.map_cons, List.nodup_cons] at hn
    rw [lookG]
    show ((cond (al x.1) x.2 [] :: stE al r).flatten).Perm (_ ++ (cond (al x.1 && !(x.1 == id)) x.2 [] :: stE (fun k => al k && !(k == id)) r).flatten)
    rw [List.flatten_cons, List.flatten_cons]
    by_cases hx : x.1 = id
    · subst hx
      rw [Nat.beq_refl, ha]
      have e : stE (fun k => al k && !(k == x.1)) r = stE al r := List.map_congr_left fun y hy => by
        have hne : y.1 ≠ x.1 := fun e => hn.1 (e ▸ List.mem_map_of_mem (f := (·.1)) hy)
        have : (y.1 == x.1) = false := by simp [hne]
        simp only [this, Bool.not_false, Bool.and_true]
      rw [e]
      simp
    · have h1 : Nat.beq x.1 id = false := by
        cases hb : Nat.beq x.1 id
        · rfl
        · exact absurd (Nat.eq_of_beq_eq_true hb) hx
      have h2 : (x.1 == id) = false := by simp [hx]
      have hm : id ∈ r.map (·.1) := by
        rcases List.mem_cons.1 hm with h | h
        · exact absurd h.symm hx
        · exact h
      rw [h1, h2, Bool.not_false, Bool.and_true]
      refine (List.Perm.append_left _ (extract1G ha hn.2 hm)).trans ?_
      rw [← List.append_assoc, ← List.append_assoc]
      exact List.Perm.append_right _ List.perm_append_comm
theorem extractG : ∀ (q : List Nat) {al : Nat → Bool} {O : List (Nat × Hl)}, (O.map (·.1)).Nodup → q.Nodup → (∀ id ∈ q, al id = true ∧ id ∈ O.map (·.1)) →
    ((stE al O).flatten).Perm ((q.map fun id => lookG id O).flatten ++ (stE (fun k => al k && !q.contains k) O).flatten)
  | [], al, O, _, _, _ => by
    have e : (fun k => al k && !([] : List Nat).contains k) = al := by funext k; simp
    rw [e]
    exact List.Perm.refl _
  | id :: q, al, O, hn, hq, h => by
    rw [List.nodup_cons] at hq
    refine (extract1G (h id (by simp)).1 hn (h id (by simp)).2).trans ?_
    rw [List.map_cons, List.flatten_cons, List.append_assoc]
    refine List.Perm.append_left _ ?_
    have := extractG q (al := fun k => al k && !(k == id)) hn hq.2 fun k hk => ⟨by
      have hne : k ≠ id := fun e => hq.1 (e ▸ hk)
      have : (k == id) = false := by simp [hne]
      rw [(h k (by simp [hk])).1, this]; rfl, (h k (by simp [hk])).2⟩
    have e : (fun k => (al k && !(k == id)) && !q.contains k) = fun k => al k && !(id :: q).contains k := by
      funext k
      rw [List.contains_cons]
      cases al k <;> cases (k == id) <;> rfl
    rw [e] at this
    exact this

section
variable {P : Program} {ops : Array Oper} {Q : Exit → Act → World → Prop} {w w0 : World} {n : Sz} {m : Nat} {l : Slots} {L : Array Bool} {R : List Nat} {Hs : List Hl} {its : List It} {t : It}
/-- The operation keeps to its word. -/
def Sp (P : Program) (ops : Array Oper) (n : Sz) (w0 : World) (R : List Nat) (Hs : List Hl) (l : Slots) (its : List It) (t : It) : Prop :=
  ∀ G a w Xs, Fr n (availG l its t.ns G) a → HH w0 R ((t.s.map fun id => lookG id (ownG Hs its G)) ++ ((t.r.map fun id => lookG id (ownG Hs its G)) ++ Xs)) w →
    Out P (fun v w' => ∃ x, t.post (onD t.ds G) x ∧ (t.d.isSome = true → v = t.v (onD t.ds G) x) ∧ HH w0 R (t.E (onD t.ds G) x :: ((t.r.map fun id => lookG id (ownG Hs its G)) ++ Xs)) w') ((execOp a.eval (opAt ops t.i)).run P w)
def wfG (ops : Array Oper) (i k : Nat) : Bool := waitsFor .any ops 6 i k
def nodupB : List Nat → Bool
  | [] => true
  | x :: r => !r.contains x && nodupB r
def isDone (ops : Array Oper) (its : List It) (i k : Nat) : Bool := its.any (fun s => Nat.beq s.i k) && wfG ops i k
def fitsD (n : Sz) (l : Slots) : Option Nat → Bool
  | some d => Nat.blt d n.n && l.all fun x => !(Nat.beq x.1 d)
  | none => true
def itOk (ops : Array Oper) (L : Array Bool) (n : Sz) (l : Slots) (nb : Nat) (its : List It) (t : It) : Bool :=
  Nat.blt t.i ops.size && ((opAt ops t.i).dst == t.d) && (opAt ops t.i).guard.isNone && fitsD n l t.d && Nat.blt t.i L.size && !(L.getD t.i true) &&
  t.ns.all (isDone ops its t.i) && t.ds.all (isDone ops its t.i) && (t.s ++ t.r).all (fun id => (Nat.ble 1000 id && Nat.blt id (1000 + nb)) || isDone ops its t.i id) && nodupB (t.s ++ t.r) &&
  its.all (fun u => Nat.beq u.i t.i || (!(u.s.any t.s.contains) && (!(u.s.any t.r.contains) || wfG ops u.i t.i))) &&
  (opAt ops t.i).after.all fun e => !Region.binds .any e || L.getD e.on false || (its.any (fun s => Nat.beq s.i e.on) && Nat.blt e.on t.i)
def distinctB : List It → Bool
  | [] => true
  | t :: r => r.all (fun s => !(Nat.beq s.i t.i) && !(t.d.isSome && s.d == t.d)) && distinctB r
def pgOk (ops : Array Oper) (L : Array Bool) (n : Sz) (l : Slots) (nb : Nat) (its : List It) : Bool :=
  Nat.ble ops.size 1000 && distinctB its && its.all (itOk ops L n l nb its) &&
  (List.range ops.size).all fun j => L.getD j true || its.any (fun t => Nat.beq t.i j) || its.all fun t => wfG ops j t.i
theorem beqt {a b : Nat} (h : Nat.beq a b = true) : a = b := Nat.eq_of_beq_eq_true h
theorem beqf {a b : Nat} (h : a ≠ b) : Nat.beq a b = false := by
  cases hb : Nat.beq a b
  · rfl
  · exact absurd (beqt hb) h
theorem nodupB_spec : ∀ {l : List Nat}, nodupB l = true → l.Nodup
  | [], _ => List.nodup_nil
  | x :: r, h => by
    unfold nodupB at h
    obtain ⟨h1, h2⟩ := Bool.and_eq_true_iff.1 h
    rw [List.nodup_cons]
    exact ⟨fun hm => (by rw [List.contains_iff_mem.2 hm] at h1; cases h1), nodupB_spec h2⟩
theorem distinct_ne : ∀ {its : List It}, distinctB its = true → (its.map (·.i)).Nodup
  | [], _ => List.nodup_nil
  | t :: r, h => by
    unfold distinctB at h
    obtain ⟨h1, h2⟩ := Bool.and_eq_true_iff.1 h
    rw [List.map_cons, List.nodup_cons]
    refine ⟨fun hm => ?_, distinct_ne h2⟩
    obtain ⟨s, hs, e⟩ := List.mem_map.1 hm
    have := List.all_eq_true.1 h1 s hs
    obtain ⟨h3, _⟩ := Bool.and_eq_true_iff.1 this
    rw [e, Nat.beq_refl] at h3
    cases h3
theorem same_it {s t : It} : ∀ {its : List It}, distinctB its = true → s ∈ its → t ∈ its → s.i = t.i → s = t
  | [], _, h, _, _ => by cases h
  | x :: r, hd, h, h', e => by
    unfold distinctB at hd
    obtain ⟨h1, h2⟩ := Bool.and_eq_true_iff.1 hd
    have hne : ∀ y ∈ r, y.i ≠ x.i := fun y hy e => by
      have := List.all_eq_true.1 h1 y hy
      obtain ⟨h3, _⟩ := Bool.and_eq_true_iff.1 this
      rw [e, Nat.beq_refl] at h3
      cases h3
    rcases List.mem_cons.1 h with rfl | k1
    · rcases List.mem_cons.1 h' with rfl | k2
      · rfl
      · exact absurd e.symm (hne t k2)
    · rcases List.mem_cons.1 h' with rfl | k2
      · exact absurd e (hne s k1)
      · exact same_it h2 k1 k2 e
theorem slot_ne {s t : It} : ∀ {its : List It}, distinctB its = true → s ∈ its → t ∈ its → s.i ≠ t.i → ∀ d, s.d = some d → t.d = some d → False
  | [], _, h, _, _ => by cases h
  | x :: r, hd, h, h', e => fun d hs ht => by
    unfold distinctB at hd
    obtain ⟨h1, h2⟩ := Bool.and_eq_true_iff.1 hd
    have hne : ∀ y ∈ r, x.d = some d → y.d = some d → False := fun y hy hx hyd => by
      have := List.all_eq_true.1 h1 y hy
      obtain ⟨_, h3⟩ := Bool.and_eq_true_iff.1 this
      rw [hx, hyd] at h3
      simp at h3
    rcases List.mem_cons.1 h with rfl | k1
    · rcases List.mem_cons.1 h' with rfl | k2
      · exact e rfl
      · exact hne t k2 hs ht
    · rcases List.mem_cons.1 h' with rfl | k2
      · exact hne s k1 ht hs
      · exact slot_ne h2 k1 k2 e d hs ht
theorem count_up (dn : Nat → Bool) (t : It) (hn : dn t.i = false) : ∀ (its : List It), (its.map (·.i)).Nodup → t ∈ its →
    (its.filter fun s => !dn s.i).length = (its.filter fun s => !(s.i == t.i || dn s.i)).length + 1
  | [], _, h => by cases h
  | s :: r, hd, h => by
    rw [List.map_cons, List.nodup_cons] at hd
    by_cases hs : s.i = t.i
    · have e : (r.filter fun x => !(x.i == t.i || dn x.i)) = r.filter fun x => !dn x.i := List.filter_congr fun x hx => by
        have hne : x.i ≠ t.i := fun e => hd.1 (hs ▸ e ▸ List.mem_map_of_mem (f := (·.i)) hx)
        have e2 : (x.i == t.i) = false := by simp [hne]
        rw [e2, Bool.false_or]
      rw [List.filter_cons, List.filter_cons, e]
      simp [hs, hn]
    · have ht : t ∈ r := (List.mem_cons.1 h).resolve_left fun e => hs (by rw [e])
      have ih := count_up dn t hn r hd.2 ht
      have e2 : (s.i == t.i) = false := by simp [hs]
      rw [List.filter_cons, List.filter_cons, e2, Bool.false_or]
      split
      · rw [List.length_cons, List.length_cons, ih]
      · exact ih
theorem bases_keys : ∀ (k : Nat) (Hs : List Hl) (x : Nat), x ∈ (basesG k Hs).map (·.1) ↔ k ≤ x ∧ x < k + Hs.length
  | k, [], x => by simp [basesG]
  | k, h :: r, x => by
    rw [basesG, List.map_cons, List.mem_cons, bases_keys (k + 1) r x, List.length_cons]
    show x = k ∨ _ ↔ _
    omega
theorem bases_nodup : ∀ (k : Nat) (Hs : List Hl), ((basesG k Hs).map (·.1)).Nodup
  | k, [] => List.nodup_nil
  | k, h :: r => by
    rw [basesG, List.map_cons, List.nodup_cons, bases_keys]
    exact ⟨fun h => by have := h.1; show False; change k + 1 ≤ k at this; omega, bases_nodup (k + 1) r⟩
theorem bases_all {al : Nat → Bool} : ∀ (k : Nat) (Hs : List Hl), (∀ x, k ≤ x → al x = true) → stE al (basesG k Hs) = Hs
  | k, [], _ => rfl
  | k, h :: r, ha => by
    show cond (al k) h [] :: stE al (basesG (k + 1) r) = _
    rw [ha k (Nat.le_refl _), bases_all (k + 1) r fun x hx => ha x (by omega)]
    rfl
def setIts (L : Array Bool) (its : List It) : Array Bool := its.foldl (fun L t => L.setIfInBounds t.i true) L
theorem any_congr' {α : Type} {f g : α → Bool} : ∀ {l : List α}, (∀ x ∈ l, f x = g x) → l.any f = l.any g
  | [], _ => rfl
  | a :: r, h => by rw [List.any_cons, List.any_cons, h a (by simp), any_congr' fun x hx => h x (by simp [hx])]
theorem setIts_at : ∀ (its : List It) (L : Array Bool) (k : Nat), (setIts L its)[k]? = if k < L.size then some (L.getD k true || its.any fun t => t.i == k) else none
  | [], L, k => by
    show L[k]? = _
    split
    · rename_i h; simp [h]
    · rename_i h; simp [Array.getElem?_eq_none (Nat.not_lt.1 h)]
  | t :: r, L, k => by
    show (setIts (L.setIfInBounds t.i true) r)[k]? = _
    rw [setIts_at r, Array.size_setIfInBounds]
    split
    · rename_i h
      by_cases e : t.i = k
      · subst e; simp [h]
      · have e2 : (t.i == k) = false := by simp [e]
        simp [h, e, e2]
    · rfl
theorem slotsOf_mem {G : Chs} {x : Nat × Value} : ∀ {its : List It}, x ∈ slotsOf G its → ∃ t ∈ its, t.d = some x.1 ∧ x.2 = t.val G
  | [], h => by cases h
  | t :: r, h => by
    rw [slotsOf] at h
    rcases List.mem_append.1 h with h | h
    · cases hd : t.d with
      | none => rw [hd] at h; cases h
      | some d =>
        rw [hd] at h
        obtain rfl : x = (d, t.val G) := by simpa [slotOf] using h
        exact ⟨t, by simp, hd, rfl⟩
    · obtain ⟨s, hs, h1⟩ := slotsOf_mem h
      exact ⟨s, by simp [hs], h1⟩
/-- What a state of the region is. -/
structure Pg (n : Sz) (w0 : World) (R : List Nat) (Hs : List Hl) (L : Array Bool) (l : Slots) (its : List It) (dn : Nat → Bool) (G : Chs) (L' : Array Bool) (a : Act) (w : World) : Prop where
  list : ∀ k, L'[k]? = if k < L.size then some (L.getD k true || its.any fun t => t.i == k && dn k) else none
  fr : Fr n l a
  done : ∀ t ∈ its, dn t.i = true → ∀ d, t.d = some d → a.tmps.getD d undef = t.val G
  pst : ∀ t ∈ its, dn t.i = true → t.post (onD t.ds G) (G t.i)
  dsd : ∀ t ∈ its, dn t.i = true → ∀ k ∈ t.ds, dn k = true
  hh : HH w0 R (stE (liveG its dn) (ownG Hs its G)) w
theorem onD_upd {dn : Nat → Bool} {G : Chs} {i : Nat} {x : Ch} {ds : List Nat} (hi : dn i = false) (h : ∀ k ∈ ds, dn k = true) : onD ds (fun k => if k = i then x else G k) = onD ds G := by
  funext k
  unfold onD
  cases hc : ds.contains k
  · rfl
  · have h1 := h k (List.contains_iff_mem.1 hc)
    have : k ≠ i := fun e => by rw [e, hi] at h1; cases h1
    show (if k = i then x else G k) = G k
    rw [if_neg this]
theorem phaseG (hok0 : okAll .any ops = true) (hi : pgOk ops L n l Hs.length its = true) (hsp : ∀ t ∈ its, Sp P ops n w0 R Hs l its t)
    (h : ∀ (G : Chs) w', (∀ t ∈ its, t.post (onD t.ds G) (G t.i)) → HH w0 R (stE (liveG its fun _ => true) (ownG Hs its G)) w' → RX P ops Q m [] (setIts L its) n (slotsOf G its ++ l) w') :
    ∀ (c : Nat) (dn : Nat → Bool) (G : Chs) (L' : Array Bool) (a : Act) (w : World), (its.filter fun t => !dn t.i).length = c → Closed .any ops L' → Pg n w0 R Hs L l its dn G L' a w → wpX P .any ops Q (c + m) [] L' a w := by
  unfold pgOk at hi
  simp only [Bool.and_eq_true] at hi
  obtain ⟨⟨⟨hi0, hd⟩, hi1⟩, hi2⟩ := hi
  have hsize : ops.size ≤ 1000 := Nat.le_of_ble_eq_true hi0
  have hnd := distinct_ne hd
  intro c
  induction c with
  | zero =>
    intro dn G L' a w hc hcl hp
    have hall : ∀ t ∈ its, dn t.i = true := fun t ht => by
      have := List.filter_eq_nil_iff.1 (List.length_eq_zero_iff.1 hc) t ht
      simpa using this
    have hL : L' = setIts L its := by
      apply Array.ext_getElem?
      intro k
      rw [hp.list, setIts_at]
      congr 3
      exact any_congr' fun t ht => by
        by_cases e : t.i = k
        · subst e; simp [hall t ht]
        · simp [e]
    subst hL
    rw [Nat.zero_add]
    have hg : ∀ id, goneG its dn id = goneG its (fun _ => true) id := fun id => any_congr' fun u hu => by rw [hall u hu]
    have hst : stE (liveG its dn) (ownG Hs its G) = stE (liveG its fun _ => true) (ownG Hs its G) := by
      refine List.map_congr_left fun x hx => ?_
      have : liveG its dn x.1 = liveG its (fun _ => true) x.1 := by
        unfold liveG
        rw [hg]
        congr 1
        rcases List.mem_append.1 hx with hx | hx
        · have := ((bases_keys 1000 Hs x.1).1 (List.mem_map_of_mem hx)).1
          rw [Nat.ble_eq_true_of_le this]; rfl
        · obtain ⟨t, ht, rfl⟩ := List.mem_map.1 hx
          rw [show dn t.i = true from hall t ht]
      rw [this]
    refine h G w (fun t ht => hp.pst t ht (hall t ht)) (hst ▸ hp.hh) hok0 hcl (fun _ h => by cases h) a ⟨hp.fr.size, hp.fr.defers, fun x hx => ?_⟩
    rcases List.mem_append.1 hx with hx | hx
    · obtain ⟨t, ht, h1, h2⟩ := slotsOf_mem hx
      rw [h2]
      exact hp.done t ht (hall t ht) _ h1
    · exact hp.fr.get x hx
  | succ c ih =>
    intro dn G L' a w hc hcl hp
    have hex : ∃ t ∈ its, dn t.i = false := by
      have : (its.filter fun t => !dn t.i) ≠ [] := fun e => by rw [e] at hc; cases hc
      obtain ⟨t, ht⟩ := List.exists_mem_of_ne_nil _ this
      obtain ⟨h1, h2⟩ := List.mem_filter.1 ht
      exact ⟨t, h1, by simpa using h2⟩
    have hit : ∀ t ∈ its, t.i < ops.size ∧ (opAt ops t.i).dst = t.d ∧ (opAt ops t.i).guard = none ∧ fitsD n l t.d = true ∧ t.i < L.size ∧ L.getD t.i true = false ∧
        (∀ k ∈ t.ns, isDone ops its t.i k = true) ∧ (∀ k ∈ t.ds, isDone ops its t.i k = true) ∧ (∀ id ∈ t.s ++ t.r, (1000 ≤ id ∧ id < 1000 + Hs.length) ∨ isDone ops its t.i id = true) ∧ (t.s ++ t.r).Nodup ∧
        (∀ u ∈ its, u.i ≠ t.i → (∀ id ∈ u.s, id ∉ t.s) ∧ ((∃ id ∈ u.s, id ∈ t.r) → wfG ops u.i t.i = true)) ∧
        ∀ e ∈ (opAt ops t.i).after, Region.binds .any e = true → L.getD e.on false = true ∨ ((∃ s ∈ its, s.i = e.on) ∧ e.on < t.i) := fun t ht => by
      have := List.all_eq_true.1 hi1 t ht
      unfold itOk at this
      simp only [Bool.and_eq_true, beq_iff_eq, Option.isNone_iff_eq_none, Bool.not_eq_true'] at this
      obtain ⟨⟨⟨⟨⟨⟨⟨⟨⟨⟨⟨a1, a2⟩, a3⟩, a4⟩, a5⟩, a6⟩, a7⟩, a8⟩, a9⟩, a10⟩, a11⟩, a12⟩ := this
      refine ⟨ltb a1, a2, a3, a4, ltb a5, a6, List.all_eq_true.1 a7, List.all_eq_true.1 a8, fun id hid => ?_, nodupB_spec a10, fun u hu hne => ?_, fun e he hb => ?_⟩
      · have := List.all_eq_true.1 a9 id hid
        rcases Bool.or_eq_true_iff.1 this with h1 | h1
        · obtain ⟨h2, h3⟩ := Bool.and_eq_true_iff.1 h1
          exact .inl ⟨Nat.le_of_ble_eq_true h2, ltb h3⟩
        · exact .inr h1
      · have := List.all_eq_true.1 a11 u hu
        rw [beqf hne, Bool.false_or] at this
        obtain ⟨h1, h2⟩ := Bool.and_eq_true_iff.1 this
        refine ⟨fun id h3 h4 => ?_, fun ⟨id, h3, h4⟩ => ?_⟩
        · have : u.s.any t.s.contains = true := List.any_eq_true.2 ⟨id, h3, List.contains_iff_mem.2 h4⟩
          rw [this] at h1; cases h1
        · have : u.s.any t.r.contains = true := List.any_eq_true.2 ⟨id, h3, List.contains_iff_mem.2 h4⟩
          rw [this] at h2
          simpa using h2
      · have := Array.all_eq_true'.1 a12 e he
        rw [hb, Bool.not_true, Bool.false_or] at this
        rcases Bool.or_eq_true_iff.1 this with h1 | h1
        · exact .inl h1
        · obtain ⟨h2, h3⟩ := Bool.and_eq_true_iff.1 h1
          obtain ⟨s, hs, h4⟩ := List.any_eq_true.1 h2
          exact .inr ⟨⟨s, hs, beqt h4⟩, ltb h3⟩
    have hLat : ∀ k b, k < L.size → L'.getD k b = (L.getD k true || its.any fun t => t.i == k && dn k) := fun k b hk => by
      rw [Array.getD_eq_getD_getElem?, hp.list, if_pos hk]; rfl
    have hnot : ∀ t ∈ its, dn t.i = false → L'.getD t.i false = false := fun t ht hdn => by
      obtain ⟨_, _, _, _, a5, a6, _⟩ := hit t ht
      rw [hLat _ _ a5, a6, hdn]
      simp
    have hisdn : ∀ t ∈ its, L'.getD t.i false = true → dn t.i = true := fun t ht hL => by
      cases hdn : dn t.i
      · rw [hnot t ht hdn] at hL; cases hL
      · rfl
    have hyes : ∀ t ∈ its, dn t.i = true → L'.getD t.i true = true := fun t ht hdn => by
      obtain ⟨_, _, _, _, a5, _, _⟩ := hit t ht
      rw [hLat _ _ a5, hdn]
      have : (its.any fun s => s.i == t.i && true) = true := List.any_eq_true.2 ⟨t, ht, by simp⟩
      rw [this, Bool.or_true]
    rw [show c + 1 + m = (c + m) + 1 by omega]
    refine ⟨fun h0 => ?_, fun j hj => ?_⟩
    · exfalso
      have key : ∀ N, ∀ t ∈ its, t.i = N → dn t.i = false → ∃ k, k ∈ Region.ready .any ops L' := by
        intro N
        induction N using Nat.strongRecOn with
        | ind N ihN =>
          intro t ht e hdn
          obtain ⟨a1, _, _, _, a5, a6, _, _, _, _, _, a12⟩ := hit t ht
          by_cases hall : ∀ e ∈ (opAt ops t.i).after, Region.binds .any e = true → L'.getD e.on false = true
          · refine ⟨t.i, mem_ready.2 ⟨?_, opAt ops t.i, by simp [opAt, Array.getElem?_eq_getElem a1], hall⟩⟩
            rw [hLat _ _ a5, a6, hdn]; simp
          · obtain ⟨e1, h1⟩ := Classical.not_forall.1 hall
            obtain ⟨h2, h3⟩ := Classical.not_imp.1 h1
            obtain ⟨hb1, h4⟩ := Classical.not_imp.1 h3
            rcases a12 e1 h2 hb1 with h5 | ⟨⟨s, hs, h8⟩, h7⟩
            · exfalso
              have hk : e1.on < L.size := by
                rcases Nat.lt_or_ge e1.on L.size with h | h
                · exact h
                · simp [Array.getD, Nat.not_lt.2 h] at h5
              refine h4 ?_
              rw [hLat _ _ hk]
              have : L.getD e1.on true = true := by rw [Array.getD_eq_getD_getElem?, Array.getElem?_eq_getElem hk] at h5 ⊢; exact h5
              rw [this, Bool.true_or]
            · refine ihN s.i (by rw [h8, ← e]; exact h7) s hs rfl ?_
              cases hds : dn s.i
              · rfl
              · exfalso
                have hb := hyes s hs hds
                rw [hLat _ _ (hit s hs).2.2.2.2.1] at hb
                refine h4 ?_
                rw [← h8, hLat _ _ (hit s hs).2.2.2.2.1]
                exact hb
      obtain ⟨t, ht, hdn⟩ := hex
      obtain ⟨k, hk⟩ := key t.i t ht rfl hdn
      rw [h0] at hk; cases hk
    · have hwf : ∀ k, wfG ops j k = true → L'.getD k false = true := fun k hk => by
        obtain ⟨_, o, ho, hall⟩ := mem_ready.1 hj
        exact waitsFor_spec hcl k 6 j hk fun o' ho' => by rw [ho] at ho'; obtain rfl := Option.some.inj ho'; exact hall
      obtain ⟨hjun, o, ho, _⟩ := mem_ready.1 hj
      have hjs : j < ops.size := (Array.getElem?_eq_some_iff.1 ho).1
      have hji : ∃ t ∈ its, t.i = j ∧ dn t.i = false := by
        have := List.all_eq_true.1 hi2 j (List.mem_range.2 hjs)
        simp only [Bool.or_eq_true, List.any_eq_true, List.all_eq_true] at this
        rcases this with (h1 | ⟨t, ht, h1⟩) | h1
        · exfalso
          by_cases hk : j < L.size
          · rw [hLat _ _ hk, h1] at hjun; cases hjun
          · rw [Array.getD_eq_getD_getElem?, hp.list, if_neg hk] at hjun; cases hjun
        · have h1 := beqt h1
          refine ⟨t, ht, h1, ?_⟩
          cases hdn : dn t.i
          · rfl
          · rw [← h1, hyes t ht hdn] at hjun; cases hjun
        · exfalso
          obtain ⟨t, ht, hdn⟩ := hex
          have := hwf t.i (h1 t ht)
          rw [hnot t ht hdn] at this; cases this
      obtain ⟨t, ht, rfl, hdn⟩ := hji
      obtain ⟨a1, a2, a3, a4, a5, a6, a7, a8, a9, a10, a11, _⟩ := hit t ht
      have hdd : ∀ k, isDone ops its t.i k = true → dn k = true ∧ ∃ s ∈ its, s.i = k := fun k hk => by
        obtain ⟨h1, h2⟩ := Bool.and_eq_true_iff.1 hk
        obtain ⟨s, hs, h3⟩ := List.any_eq_true.1 h1
        obtain rfl := beqt h3
        exact ⟨hisdn s hs (hwf _ h2), s, hs, rfl⟩
      have hneed : Fr n (availG l its t.ns G) a := ⟨hp.fr.size, hp.fr.defers, fun x hx => by
        rcases List.mem_append.1 hx with hx | hx
        · obtain ⟨s, hs, h1, h2⟩ := slotsOf_mem hx
          obtain ⟨hs1, hs2⟩ := List.mem_filter.1 hs
          rw [h2]
          exact hp.done s hs1 (hdd s.i (a7 _ (List.contains_iff_mem.1 hs2))).1 _ h1
        · exact hp.fr.get x hx⟩
      -- the heaplets
      have hkeys : ∀ G, (ownG Hs its G).map (·.1) = (basesG 1000 Hs).map (·.1) ++ its.map (·.i) := fun G => by
        unfold ownG
        rw [List.map_append, List.map_map]
        rfl
      have hsmall : ∀ s ∈ its, s.i < 1000 := fun s hs => Nat.lt_of_lt_of_le (hit s hs).1 hsize
      have hnodup : ∀ G, ((ownG Hs its G).map (·.1)).Nodup := fun G => by
        rw [hkeys]
        refine List.nodup_append.2 ⟨bases_nodup _ _, hnd, fun x hx y hy => ?_⟩
        obtain ⟨s, hs, rfl⟩ := List.mem_map.1 hy
        have h1 := ((bases_keys 1000 Hs x).1 hx).1
        have h2 := hsmall s hs
        show x ≠ s.i
        omega
      have hin : ∀ id ∈ t.s ++ t.r, liveG its dn id = true ∧ (id ∈ t.r → ∀ u ∈ its, dn u.i = true → id ∉ u.s) ∧ id ≠ t.i ∧ ∀ G, id ∈ (ownG Hs its G).map (·.1) := fun id hid => by
        have hcons : ∀ u ∈ its, dn u.i = true → id ∉ u.s := fun u hu hdu hm => by
          have hne : u.i ≠ t.i := fun e => by rw [e, hdn] at hdu; cases hdu
          obtain ⟨h1, h2⟩ := a11 u hu hne
          rcases List.mem_append.1 hid with h3 | h3
          · exact h1 id hm h3
          · have h4 := h2 ⟨id, hm, h3⟩
            have hLu := hyes u hu hdu
            have h5 := waitsFor_spec hcl t.i 6 u.i h4 fun o ho e he hb => hcl u.i o ho hLu e he hb
            rw [hnot t ht hdn] at h5; cases h5
        have hg : goneG its dn id = false := by
          cases hgg : goneG its dn id
          · rfl
          · obtain ⟨u, hu, h1⟩ := List.any_eq_true.1 hgg
            obtain ⟨h2, h3⟩ := Bool.and_eq_true_iff.1 h1
            exact absurd (List.contains_iff_mem.1 h3) (hcons u hu h2)
        refine ⟨?_, fun _ => hcons, ?_, fun G => ?_⟩
        · unfold liveG
          rw [hg]
          rcases a9 id hid with ⟨h1, _⟩ | h1
          · rw [Nat.ble_eq_true_of_le h1]; rfl
          · rw [(hdd id h1).1]; simp
        · rcases a9 id hid with ⟨h1, _⟩ | h1
          · have := hsmall t ht; omega
          · intro e
            have := (hdd id h1).1
            rw [e, hdn] at this; cases this
        · rw [hkeys]
          rcases a9 id hid with ⟨h1, h2⟩ | h1
          · exact List.mem_append_left _ ((bases_keys 1000 Hs id).2 ⟨h1, h2⟩)
          · obtain ⟨_, s, hs, rfl⟩ := hdd id h1
            exact List.mem_append_right _ (List.mem_map_of_mem hs)
      obtain ⟨hns, hnr, hnsr⟩ := List.nodup_append.1 a10
      have hrest : ((stE (fun k => liveG its dn k && !t.s.contains k) (ownG Hs its G)).flatten).Perm
          ((t.r.map fun id => lookG id (ownG Hs its G)).flatten ++ (stE (fun k => (liveG its dn k && !t.s.contains k) && !t.r.contains k) (ownG Hs its G)).flatten) :=
        extractG t.r (hnodup G) hnr fun id hid => by
          obtain ⟨h1, _, _, h4⟩ := hin id (List.mem_append_right _ hid)
          have h5 : t.s.contains id = false := by
            cases hcc : t.s.contains id
            · rfl
            · exact absurd rfl (hnsr id (List.contains_iff_mem.1 hcc) id hid)
          exact ⟨by rw [h1, h5]; rfl, h4 G⟩
      have hbefore : HH w0 R ((t.s.map fun id => lookG id (ownG Hs its G)) ++ ((t.r.map fun id => lookG id (ownG Hs its G)) ++ [(stE (fun k => (liveG its dn k && !t.s.contains k) && !t.r.contains k) (ownG Hs its G)).flatten])) w := by
        refine hp.hh.perm ?_
        rw [List.flatten_append, List.flatten_append, List.flatten_cons, List.flatten_nil, List.append_nil]
        refine (extractG t.s (hnodup G) hns fun id hid => ?_).trans (List.Perm.append_left _ hrest)
        obtain ⟨h1, _, _, h4⟩ := hin id (List.mem_append_left _ hid)
        exact ⟨h1, h4 G⟩
      have hs := hsp t ht G a w _ hneed hbefore
      unfold opO
      have hops : ops[t.i]? = some (opAt ops t.i) := by simp [opAt, Array.getElem?_eq_getElem a1]
      simp only [hops, unguarded a3, if_true]
      refine hs.mono fun v w' ⟨x, hpo, hv, hH'⟩ => ⟨[], fun _ h => by simp at h, fun _ h => by simp at h, ?_⟩
      have hdst : ∀ k ∈ t.ds, dn k = true := fun k hk => (hdd k (a8 k hk)).1
      have hG : ∀ s ∈ its, dn s.i = true → onD s.ds (fun k => if k = t.i then x else G k) = onD s.ds G ∧ (if s.i = t.i then x else G s.i) = G s.i := fun s hs hds =>
        ⟨onD_upd hdn (hp.dsd s hs hds), if_neg fun e => by rw [e, hdn] at hds; cases hds⟩
      have hGt : onD t.ds (fun k => if k = t.i then x else G k) = onD t.ds G := onD_upd hdn hdst
      have hc' := count_up dn t hdn its hnd ht
      have hups : ∀ s, (fun k => k == t.i || dn k) s = true → s ≠ t.i → dn s = true := fun s h1 h2 => by
        have e2 : (s == t.i) = false := by simp [h2]
        simp only [e2, Bool.false_or] at h1
        exact h1
      refine ih (fun k => k == t.i || dn k) (fun k => if k = t.i then x else G k) _ _ w' (by omega) (hcl.set hj) ⟨fun k => ?_, ?_, fun s hs hds d hsd => ?_, fun s hs hds => ?_, fun s hs hds k hk => ?_, ?_⟩
      · have hsz : L'.size = L.size := by
          rcases Nat.lt_trichotomy L'.size L.size with h | h | h
          · have := hp.list L'.size
            rw [if_pos h, Array.getElem?_eq_none (Nat.le_refl _)] at this; cases this
          · exact h
          · have := hp.list L.size
            rw [if_neg (Nat.lt_irrefl _), Array.getElem?_eq_getElem h] at this; cases this
        rw [Array.getElem?_setIfInBounds, hsz]
        by_cases hk : t.i = k
        · subst hk
          rw [if_pos rfl, if_pos a5, if_pos a5, a6]
          have : (its.any fun s => s.i == t.i && (t.i == t.i || dn t.i)) = true := List.any_eq_true.2 ⟨t, ht, by simp⟩
          rw [this]; rfl
        · rw [if_neg hk, hp.list]
          have e2 : (k == t.i) = false := by simp [Ne.symm hk]
          simp only [e2, Bool.false_or]
      · rw [a2]
        cases hd' : t.d with
        | none => exact hp.fr
        | some d =>
          rw [hd'] at a4
          obtain ⟨b1, b2⟩ := Bool.and_eq_true_iff.1 a4
          refine (hp.fr.put _ ⟨List.Sublist.refl _, List.all_eq_true.2 fun y hy => ?_⟩ (ltb b1)).sub (List.sublist_cons_self _ _)
          have := List.all_eq_true.1 b2 y hy
          simp only [Bool.not_eq_true'] at this
          have hne : y.1 ≠ d := fun e => by rw [e, Nat.beq_refl] at this; cases this
          simp [hne]
      · by_cases hst : s.i = t.i
        · obtain rfl : s = t := same_it hd hs ht hst
          rw [a2, hsd]
          have b1 : d < n.n := by
            rw [hsd] at a4
            exact ltb (Bool.and_eq_true_iff.1 a4).1
          have hz : d < a.tmps.size := by rw [hp.fr.size]; exact b1
          have hv' := hv (by rw [hsd]; rfl)
          show _ = s.v (onD s.ds fun k => if k = s.i then x else G k) (if s.i = s.i then x else G s.i)
          rw [hGt, if_pos rfl, ← hv']
          simp [Act.put, hz]
        · have hds' := hups s.i hds hst
          have h1 := hp.done s hs hds' d hsd
          obtain ⟨g1, g2⟩ := hG s hs hds'
          show _ = s.v (onD s.ds fun k => if k = t.i then x else G k) (if s.i = t.i then x else G s.i)
          unfold It.val at h1
          rw [g1, g2]
          cases htd : t.d with
          | none => rw [a2, htd]; exact h1
          | some d' =>
            have hne : d' ≠ d := fun e => slot_ne hd hs ht hst d hsd (e ▸ htd)
            rw [a2, htd]
            simp only [Act.put, Array.getD_eq_getD_getElem?] at h1 ⊢
            rw [Array.getElem?_setIfInBounds_ne hne]
            exact h1
      · by_cases hst : s.i = t.i
        · obtain rfl : s = t := same_it hd hs ht hst
          show s.post (onD s.ds fun k => if k = s.i then x else G k) (if s.i = s.i then x else G s.i)
          rw [hGt, if_pos rfl]
          exact hpo
        · have hds' := hups s.i hds hst
          obtain ⟨g1, g2⟩ := hG s hs hds'
          show s.post (onD s.ds fun k => if k = t.i then x else G k) (if s.i = t.i then x else G s.i)
          rw [g1, g2]
          exact hp.pst s hs hds'
      · have : dn k = true := by
          by_cases hst : s.i = t.i
          · obtain rfl : s = t := same_it hd hs ht hst
            exact hdst k hk
          · exact hp.dsd s hs (hups s.i hds hst) k hk
        show (k == t.i || dn k) = true
        rw [this, Bool.or_true]
      · refine hH'.perm ?_
        rw [List.flatten_cons, List.flatten_append, List.flatten_cons, List.flatten_nil, List.append_nil]
        have hgone : ∀ id, goneG its (fun k => k == t.i || dn k) id = (goneG its dn id || t.s.contains id) := fun id => by
          unfold goneG
          cases hts : t.s.contains id
          · rw [Bool.or_false]
            refine any_congr' fun u hu => ?_
            by_cases e : u.i = t.i
            · obtain rfl : u = t := same_it hd hu ht e
              rw [hts, Bool.and_false, Bool.and_false]
            · have e2 : (u.i == t.i) = false := by simp [e]
              show ((u.i == t.i || dn u.i) && _) = _
              rw [e2, Bool.false_or]
          · rw [Bool.or_true]
            exact List.any_eq_true.2 ⟨t, ht, by simp only [hts]; simp⟩
        have hti : liveG its (fun k => k == t.i || dn k) t.i = true := by
          unfold liveG
          rw [hgone]
          have h1 : goneG its dn t.i = false := by
            cases hgg : goneG its dn t.i
            · rfl
            · obtain ⟨u, hu, h1⟩ := List.any_eq_true.1 hgg
              obtain ⟨h2, h3⟩ := Bool.and_eq_true_iff.1 h1
              exfalso
              obtain ⟨_, _, _, _, _, _, _, _, b9, _⟩ := hit u hu
              rcases b9 t.i (List.mem_append_left _ (List.contains_iff_mem.1 h3)) with ⟨h4, _⟩ | h4
              · have := hsmall t ht; omega
              · have hLu := hyes u hu h2
                have h5 := waitsFor_spec hcl t.i 6 u.i (Bool.and_eq_true_iff.1 h4).2 fun o ho e he hb => hcl u.i o ho hLu e he hb
                rw [hnot t ht hdn] at h5; cases h5
          have h2 : t.s.contains t.i = false := by
            cases hcc : t.s.contains t.i
            · rfl
            · exact absurd rfl (hin t.i (List.mem_append_left _ (List.contains_iff_mem.1 hcc))).2.2.1
          rw [h1, h2]
          simp
        have hkt : t.i ∈ (ownG Hs its (fun k => if k = t.i then x else G k)).map (·.1) := by
          rw [hkeys]
          exact List.mem_append_right _ (List.mem_map_of_mem ht)
        refine List.Perm.symm ((extract1G hti (hnodup _) hkt).trans ?_)
        have hlk : lookG t.i (ownG Hs its (fun k => if k = t.i then x else G k)) = t.E (onD t.ds G) x := by
          rw [look_mem (hnodup _) (List.mem_append_right _ (List.mem_map_of_mem ht))]
          show t.E (onD t.ds fun k => if k = t.i then x else G k) (if t.i = t.i then x else G t.i) = _
          rw [hGt, if_pos rfl]
        rw [hlk]
        refine List.Perm.append_left _ ?_
        have hsame : stE (fun k => liveG its (fun k => k == t.i || dn k) k && !(k == t.i)) (ownG Hs its (fun k => if k = t.i then x else G k)) = stE (fun k => liveG its dn k && !t.s.contains k) (ownG Hs its G) := by
          unfold ownG stE
          rw [List.map_append, List.map_append, List.map_map, List.map_map]
          congr 1
          · refine List.map_congr_left fun y hy => ?_
            have h1 := ((bases_keys 1000 Hs y.1).1 (List.mem_map_of_mem hy)).1
            have hne : (y.1 == t.i) = false := by have := hsmall t ht; simp; omega
            have e4 : (liveG its (fun k => k == t.i || dn k) y.1 && !(y.1 == t.i)) = (liveG its dn y.1 && !t.s.contains y.1) := by
              unfold liveG
              rw [hgone, hne, Nat.ble_eq_true_of_le h1]
              cases goneG its dn y.1 <;> cases t.s.contains y.1 <;> rfl
            show cond (liveG its (fun k => k == t.i || dn k) y.1 && !(y.1 == t.i)) _ _ = cond (liveG its dn y.1 && !t.s.contains y.1) _ _
            rw [e4]
          · refine List.map_congr_left fun u hu => ?_
            show cond (liveG its (fun k => k == t.i || dn k) u.i && !(u.i == t.i)) (u.hl fun k => if k = t.i then x else G k) [] = cond (liveG its dn u.i && !t.s.contains u.i) (u.hl G) []
            by_cases e : u.i = t.i
            · rw [e]
              have e1 : (t.i == t.i) = true := by simp
              have e3 : Nat.ble 1000 t.i = false := by
                cases hb : Nat.ble 1000 t.i
                · rfl
                · have := Nat.le_of_ble_eq_true hb
                  have := hsmall t ht
                  omega
              have e2 : liveG its dn t.i = false := by
                unfold liveG
                rw [hdn, e3]
                rfl
              rw [e1, e2, Bool.not_true, Bool.and_false, Bool.false_and]
              rfl
            · have e2 : (u.i == t.i) = false := by simp [e]
              have e4 : liveG its (fun k => k == t.i || dn k) u.i = (liveG its dn u.i && !t.s.contains u.i) := by
                unfold liveG
                rw [hgone]
                simp only [e2, Bool.false_or]
                cases (Nat.ble 1000 u.i || dn u.i) <;> cases goneG its dn u.i <;> cases t.s.contains u.i <;> rfl
              rw [e4, e2, Bool.not_false, Bool.and_true]
              cases hlv : liveG its dn u.i && !t.s.contains u.i
              · rfl
              · have h1 : liveG its dn u.i = true := (Bool.and_eq_true_iff.1 hlv).1
                have hdu : dn u.i = true := by
                  unfold liveG at h1
                  obtain ⟨h2, _⟩ := Bool.and_eq_true_iff.1 h1
                  rcases Bool.or_eq_true_iff.1 h2 with h3 | h3
                  · have := Nat.le_of_ble_eq_true h3
                    have := hsmall u hu
                    omega
                  · exact h3
                obtain ⟨g1, g2⟩ := hG u hu hdu
                show cond true (u.E (onD u.ds fun k => if k = t.i then x else G k) (if u.i = t.i then x else G u.i)) [] = cond true (u.E (onD u.ds G) (G u.i)) []
                rw [g1, g2]
        rw [hsame]
        exact hrest
theorem posts_of {G : Chs} : ∀ {its : List It}, (∀ t ∈ its, t.post (onD t.ds G) (G t.i)) → postsG G its
  | [], _ => trivial
  | t :: _, h => ⟨h t (by simp), posts_of fun s hs => h s (by simp [hs])⟩
inductive Its (P : Program) (ops : Array Oper) (n : Sz) (w0 : World) (R : List Nat) (Hs : List Hl) (l : Slots) (its : List It) : List It → Prop
  | nil : Its P ops n w0 R Hs l its []
  | c {t : It} {r : List It} (hs : Sp P ops n w0 R Hs l its t) (h : Its P ops n w0 R Hs l its r) : Its P ops n w0 R Hs l its (t :: r)
theorem Its.ok : ∀ {r : List It}, Its P ops n w0 R Hs l its r → ∀ t ∈ r, Sp P ops n w0 R Hs l its t
  | _, .nil => fun _ h => by cases h
  | _, .c hs h => fun y hy => by
    rcases List.mem_cons.1 hy with rfl | hy
    · exact hs
    · exact h.ok y hy
/-- The region, or what of it waits for nothing else, told at once; its slots and heaplets named anew. -/
theorem rxPg {fu : Nat} (m : Nat) (its : List It) (fr : Chs → Slots) (Hs2 : Chs → List Hl) (hH : HH w0 R Hs w) (hsp : Its P ops n w0 R Hs l its its)
    (h : ∀ (G : Chs) w', postsG G its → HH w0 R (Hs2 G) w' → RX P ops Q m [] (setIts L its) n (fr G) w')
    (hfu : fu = its.length + m := by exact rfl) (hi : pgOk ops L n l Hs.length its = true := by kernel_rfl)
    (hf : ∀ G, (stE (liveG its fun _ => true) (ownG Hs its G)).flatten = (Hs2 G).flatten := by exact fun _ => rfl) (hfr : ∀ G, Al (slotsOf G its ++ l) (fr G) := by (intro G; repeat (first | exact Al.nil | refine Al.cons rfl ?_))) : RX P ops Q fu [] L n l w := fun hok hc _ a hF => by
  subst hfu
  refine phaseG hok hi hsp.ok (fun G w' hp hH' hok hc hS a hF => h G w' (posts_of hp) (hH'.cast (hf G)) hok hc hS a (hF.of (hfr G).all)) its.length (fun _ => false) (fun _ => ch0) L a w (by simp) hc ⟨fun k => ?_, hF, (fun _ _ h => (by cases h)), (fun _ _ h => (by cases h)), (fun _ _ h => (by cases h)), hH.cast ?_⟩
  · split
    · rename_i hk; simp [hk]
    · rename_i hk; simp [Array.getElem?_eq_none (Nat.not_lt.1 hk)]
  · have hg : ∀ id, goneG its (fun _ => false) id = false := fun id => by
      unfold goneG
      simp
    have h1 : stE (liveG its fun _ => false) (basesG 1000 Hs) = Hs := bases_all 1000 Hs fun x hx => by
      unfold liveG
      rw [hg, Nat.ble_eq_true_of_le hx]
      rfl
    have hsm : ∀ t ∈ its, t.i < 1000 := fun t ht => by
      unfold pgOk at hi
      simp only [Bool.and_eq_true] at hi
      have h2 := List.all_eq_true.1 hi.1.2 t ht
      unfold itOk at h2
      simp only [Bool.and_eq_true] at h2
      have h3 := ltb h2.1.1.1.1.1.1.1.1.1.1.1
      have h4 := Nat.le_of_ble_eq_true hi.1.1.1
      omega
    have h2 : (stE (liveG its fun _ => false) (its.map fun t => (t.i, t.hl fun _ => ch0))).flatten = [] := by
      rw [List.flatten_eq_nil_iff]
      intro x hx
      obtain ⟨y, hy, rfl⟩ := List.mem_map.1 hx
      obtain ⟨t, ht, rfl⟩ := List.mem_map.1 hy
      have : Nat.ble 1000 t.i = false := by
        cases hb : Nat.ble 1000 t.i
        · rfl
        · have := Nat.le_of_ble_eq_true hb
          have := hsm t ht
          omega
      show cond (liveG its (fun _ => false) t.i) _ _ = _
      unfold liveG
      rw [this]
      rfl
    unfold ownG
    have h3 : stE (liveG its fun _ => false) (basesG 1000 Hs ++ its.map fun t => (t.i, t.hl fun _ => ch0)) = stE (liveG its fun _ => false) (basesG 1000 Hs) ++ stE (liveG its fun _ => false) (its.map fun t => (t.i, t.hl fun _ => ch0)) := List.map_append
    rw [h3, List.flatten_append, h1, h2, List.append_nil]

/-! ### Items -/
/-- A value. -/
def pv (i d : Nat) (ns ds : List Nat) (V : Chs → Value) : It := ⟨i, some d, ns, ds, [], [], fun G _ => V G, fun _ _ => [], fun _ _ => True⟩
/-- A value that is read of heaplets. -/
def ldv (i d : Nat) (ns ds r : List Nat) (V : Chs → Value) : It := ⟨i, some d, ns, ds, [], r, fun G _ => V G, fun _ _ => [], fun _ _ => True⟩
/-- A block made. -/
def mkv (i d : Nat) (ns ds : List Nat) (V : Chs → Nat → Value) (E : Chs → Nat → Hl) : It := ⟨i, some d, ns, ds, [], [], fun G x => V G x.g, fun G x => E G x.g, fun _ _ => True⟩
abbrev alv (i d : Nat) (ns ds : List Nat) (E : Chs → Nat → Hl) : It := mkv i d ns ds (fun _ g => .pointer (some ⟨g, 0, none⟩)) E
/-- A heaplet turned, into no slot. -/
def stv (i : Nat) (ns ds : List Nat) (s : Nat) (E : Chs → Hl) : It := ⟨i, none, ns, ds, [s], [], fun _ _ => undef, fun G _ => E G, fun _ _ => True⟩
/-- A slice of the call's own, made. -/
def owv {α : Type} (i d : Nat) (ns ds : List Nat) (C : Cod α) (e : TypeId) (q : Chs → List α) : It := ⟨i, some d, ns, ds, [], [], fun G x => .slice x.A (q G).length x.c, fun _ x => x.E, fun G x => OwnT C e (.slice x.A (q G).length x.c) (q G) x.E⟩
theorem Sp.o {α : Type} {i d : Nat} {ns ds : List Nat} {C : Cod α} {e : TypeId} {q : Chs → List α} {Rd : Chs → World → Prop} {po : Chs → Value → Hl → Prop} (hR : ∀ G w Xs, HH w0 R Xs w → Rd G w) (h : ∀ G, Sm P n (availG l its ns G) (opAt ops i) [] (Rd G) (po G)) (hp : ∀ G v E', po G v E' → OwnT C e v (q (onD ds G)) E') : Sp P ops n w0 R Hs l its (owv i d ns ds C e q) := fun G a w Xs hF hH =>
  (h G a hF w (Has.nil w) (hR G w Xs hH)).mono fun v w' ⟨E', h1, h2⟩ => by
    have h3 := hp G v E' h1
    obtain ⟨A, c, rfl⟩ := h3.slice
    refine ⟨⟨0, c, A, undef, E'⟩, h3, fun _ => rfl, (hH.add h2).perm ?_⟩
    show (Xs ++ [_]).flatten.Perm (_ :: Xs).flatten
    simp only [List.flatten_append, List.flatten_cons, List.flatten_nil, List.append_nil]
    exact List.perm_append_comm
theorem Sp.v {i d : Nat} {ns ds : List Nat} {V : Chs → Value} (h : ∀ G, Vl P n (availG l its ns G) (opAt ops i) (V (onD ds G))) : Sp P ops n w0 R Hs l its (pv i d ns ds V) := fun G a w Xs hF hH => by
  show Out P _ ((execOp a.eval (opAt ops i)).run P w)
  rw [h G a w hF]
  exact ⟨ch0, trivial, fun _ => rfl, hH.cast (by simp [pv])⟩
theorem Sp.ld {i d : Nat} {ns ds r : List Nat} {V : Chs → Value} {S : Chs → World → Prop} (hS : ∀ G w Xs, HH w0 R ((r.map fun id => lookG id (ownG Hs its G)) ++ Xs) w → S G w) (h : ∀ G, Vs P n (availG l its ns G) (S G) (opAt ops i) (V (onD ds G))) : Sp P ops n w0 R Hs l its (ldv i d ns ds r V) := fun G a w Xs hF hH => by
  show Out P _ ((execOp a.eval (opAt ops i)).run P w)
  rw [h G a w hF (hS G w Xs hH)]
  exact ⟨ch0, trivial, fun _ => rfl, hH.cast (by simp [ldv])⟩
theorem Sp.a {i d : Nat} {ns ds : List Nat} {V : Chs → Nat → Value} {E : Chs → Nat → Hl} {Rd : Chs → World → Prop} {po : Chs → Value → Hl → Prop} (hR : ∀ G w Xs, HH w0 R Xs w → Rd G w) (h : ∀ G, Sm P n (availG l its ns G) (opAt ops i) [] (Rd G) (po G)) (hp : ∀ G v E', po G v E' → ∃ g, v = V (onD ds G) g ∧ E' = E (onD ds G) g) : Sp P ops n w0 R Hs l its (mkv i d ns ds V E) := fun G a w Xs hF hH =>
  (h G a hF w (Has.nil w) (hR G w Xs hH)).mono fun v w' ⟨E', h1, h2⟩ => by
    obtain ⟨g, rfl, rfl⟩ := hp G v E' h1
    refine ⟨⟨g, 0, none, undef, []⟩, trivial, fun _ => rfl, (hH.add h2).perm ?_⟩
    show (Xs ++ [_]).flatten.Perm (_ :: Xs).flatten
    simp only [List.flatten_append, List.flatten_cons, List.flatten_nil, List.append_nil]
    exact List.perm_append_comm
theorem Sp.tn {i s : Nat} {ns ds : List Nat} {E : Chs → Hl} {E0 : Chs → Hl} {Rd : Chs → World → Prop} {po : Chs → Value → Hl → Prop} (h : ∀ G, Sm P n (availG l its ns G) (opAt ops i) (E0 G) (Rd G) (po G)) (hR : ∀ G w Xs, HH w0 R (E0 G :: Xs) w → Rd G w) (hp : ∀ G v E', po G v E' → E' = E (onD ds G)) (he : ∀ G, lookG s (ownG Hs its G) = E0 G := by exact fun _ => rfl) : Sp P ops n w0 R Hs l its (stv i ns ds s E) := fun G a w Xs hF hH => by
  have hH2 : HH w0 R (E0 G :: Xs) w := he G ▸ hH
  refine (h G a hF w (hH2.has 0 rfl) (hR G w Xs hH2)).mono fun v w' ⟨E', h1, h2⟩ => ?_
  obtain rfl := hp G v E' h1
  refine ⟨ch0, trivial, fun h => (by cases h), hH2.turn 0 rfl h2⟩
theorem Sp.c {f : FuncId} {fn : Func} {i d : Nat} {ns ds : List Nat} {V : Chs → Value} {xs : List Operand} {vs : Chs → List Value} {ts : Array TypeId} {Rd : World → Prop} (F : P.funcs[f]? = some fn) (hq : ∀ G, Pure P f (vs G).toArray Rd (V (onD ds G))) (hR : ∀ w, Rd w)
    (ho : (opAt ops i).op = .call { callee := .value (.func f), args := xs.toArray, argTypes := ts } := by exact rfl) (hx : ∀ G, vos (availG l its ns G) xs = some (vs G) := by exact fun _ => rfl) (h1 : (fn.name == "runtime.NumGoroutine") = false := by exact rfl) (h2 : fn.body.isNone = false := by exact rfl) : Sp P ops n w0 R Hs l its (pv i d ns ds V) := fun G a w Xs hF hH =>
  (Sm.call (n := n) F (hq G).does ho (hx G) h1 h2 a hF w (Has.nil w) (hR w)).mono fun v w' ⟨E', h3, h4⟩ => by
    obtain ⟨rfl, rfl⟩ := h3
    refine ⟨ch0, trivial, fun _ => rfl, (hH.add h4).cast ?_⟩
    simp [pv]
end
end Go.Proofs.YtbbegnfopdihaaaGreatDoor

namespace Go.Proofs.YtbbegnfopdihaaaGreatDoor
open Go Go.RowKit
set_option maxRecDepth 100000

set_option maxHeartbeats 8000000 in
theorem one_c  : Pure Tryz.prog 65 #[] (fun _ => True) ((cArr 32).val oneB) := by
  refine pure_of (fn := Tryz.f65) Tryz.func65 rfl Tryz.ntmps65 (Nat.le_of_ble_eq_true rfl) rfl ?_
  intro w0 hH hR
  refine zr ?_
  refine zm hH (.al (cArr 32) (fun _ => 0)) trivial 0 ?_
  clear hH
  rintro _ _ w ⟨g1, rfl, rfl⟩ hH
  refine zn ?_
  refine zr ?_
  refine zv (v := ((cArr 32).val oneB)) (fun _ _ hF => opBuildP (cells := (cArr 32).enc oneB) (vals := [(0, (.int .u8 1))]) rfl (EvP.cons (v := (.int .u8 1)) rfl EvP.nil) (by kernel_rfl) _) 0 ?_
  refine ze0 0 hH rfl (.sw (cArr 32) (fun _ => 0) oneB) trivial ?_
  clear hH
  rintro _ _ w rfl hH
  refine zn ?_
  refine cxRet ?_
  refine qxRetC 1 (hH.blk 0 rfl) rfl rfl (by kernel_rfl) (Cod.size _ _) (by kernel_rfl) ?_
  exact ⟨rfl, HH.toBelow hH⟩

set_option maxHeartbeats 8000000 in
theorem dB_c  : Pure Tryz.prog 69 #[] (fun _ => True) ((cArr 32).val dB) := by
  refine pure_of (fn := Tryz.f69) Tryz.func69 rfl Tryz.ntmps69 (Nat.le_of_ble_eq_true rfl) rfl ?_
  intro w0 hH hR
  refine zr ?_
  refine zm hH (.al (cArr 32) (fun _ => 0)) trivial 0 ?_
  clear hH
  rintro _ _ w ⟨g1, rfl, rfl⟩ hH
  refine zn ?_
  refine zr ?_
  refine zv (v := ((cArr 32).val dB)) (fun _ _ hF => opBuildP (cells := (cArr 32).enc dB) (vals := [(0, (.int .u8 163)), (1, (.int .u8 120)), (2, (.int .u8 89)), (3, (.int .u8 19)), (4, (.int .u8 202)), (5, (.int .u8 77)), (6, (.int .u8 235)), (7, (.int .u8 117)), (8, (.int .u8 171)), (9, (.int .u8 216)), (10, (.int .u8 65)), (11, (.int .u8 65)), (12, (.int .u8 77)), (13, (.int .u8 10)), (14, (.int .u8 112)), (15, (.int .u8 0)), (16, (.int .u8 152)), (17, (.int .u8 232)), (18, (.int .u8 121)), (19, (.int .u8 119)), (20, (.int .u8 121)), (21, (.int .u8 64)), (22, (.int .u8 199)), (23, (.int .u8 140)), (24, (.int .u8 115)), (25, (.int .u8 254)), (26, (.int .u8 111)), (27, (.int .u8 43)), (28, (.int .u8 238)), (29, (.int .u8 108)), (30, (.int .u8 3)), (31, (.int .u8 82))]) rfl (EvP.cons (v := (.int .u8 163)) rfl (EvP.cons (v := (.int .u8 120)) rfl (EvP.cons (v := (.int .u8 89)) rfl (EvP.cons (v := (.int .u8 19)) rfl (EvP.cons (v := (.int .u8 202)) rfl (EvP.cons (v := (.int .u8 77)) rfl (EvP.cons (v := (.int .u8 235)) rfl (EvP.cons (v := (.int .u8 117)) rfl (EvP.cons (v := (.int .u8 171)) rfl (EvP.cons (v := (.int .u8 216)) rfl (EvP.cons (v := (.int .u8 65)) rfl (EvP.cons (v := (.int .u8 65)) rfl (EvP.cons (v := (.int .u8 77)) rfl (EvP.cons (v := (.int .u8 10)) rfl (EvP.cons (v := (.int .u8 112)) rfl (EvP.cons (v := (.int .u8 0)) rfl (EvP.cons (v := (.int .u8 152)) rfl (EvP.cons (v := (.int .u8 232)) rfl (EvP.cons (v := (.int .u8 121)) rfl (EvP.cons (v := (.int .u8 119)) rfl (EvP.cons (v := (.int .u8 121)) rfl (EvP.cons (v := (.int .u8 64)) rfl (EvP.cons (v := (.int .u8 199)) rfl (EvP.cons (v := (.int .u8 140)) rfl (EvP.cons (v := (.int .u8 115)) rfl (EvP.cons (v := (.int .u8 254)) rfl (EvP.cons (v := (.int .u8 111)) rfl (EvP.cons (v := (.int .u8 43)) rfl (EvP.cons (v := (.int .u8 238)) rfl (EvP.cons (v := (.int .u8 108)) rfl (EvP.cons (v := (.int .u8 3)) rfl (EvP.cons (v := (.int .u8 82)) rfl EvP.nil)))))))))))))))))))))))))))))))) (by kernel_rfl) _) 0 ?_
  refine ze0 0 hH rfl (.sw (cArr 32) (fun _ => 0) dB) trivial ?_
  clear hH
  rintro _ _ w rfl hH
  refine zn ?_
  refine cxRet ?_
  refine qxRetC 1 (hH.blk 0 rfl) rfl rfl (by kernel_rfl) (Cod.size _ _) (by kernel_rfl) ?_
  exact ⟨rfl, HH.toBelow hH⟩

set_option maxHeartbeats 8000000 in
theorem plOf_c (a : Bt × Bt) : Pure Tryz.prog 64 #[(cPr.val a)] (fun _ => True) (cPl.val (plOf a)) := by
  refine pure_of (fn := Tryz.f64) Tryz.func64 rfl Tryz.ntmps64 (Nat.le_of_ble_eq_true rfl) rfl ?_
  intro w0 hH hR
  refine zr ?_
  refine zm hH (.bx cPr a) trivial 1 ?_
  clear hH
  rintro _ _ w ⟨g1, rfl, rfl⟩ hH
  refine zm hH (.al cPl (fun _ => 0, fun _ => 0, fun _ => 0, fun _ => 0)) trivial 0 ?_
  clear hH
  rintro _ _ w ⟨g2, rfl, rfl⟩ hH
  refine zn ?_
  refine zx ?_
  replace hH := hH.drew
  refine rv 0 (.fld 0) 0 ?_
  refine rld 1 (hH.q 0 rfl) (.ld (cArr 32) a.1 (fun _ hS => (holds_blk0 hS).fst)) 1 ?_
  refine rv 2 (.fld 32) 0 ?_
  refine rld 3 (hH.q 0 rfl) (.ld (cArr 32) a.2 (fun _ hS => (holds_blk0 hS).snd)) 1 ?_
  refine rv 5 (.fld 0) 0 ?_
  refine rld 6 (hH.q 0 rfl) (.ld (cArr 32) a.1 (fun _ hS => (holds_blk0 hS).fst)) 1 ?_
  refine rv 7 (.fld 32) 16 ?_
  refine rld 8 (hH.q 0 rfl) (.ld (cArr 32) a.2 (fun _ hS => (holds_blk0 hS).snd)) 1 ?_
  refine rx1k 4 (rpc 4 Tryz.func65 (one_c ) trivial hH 0 (.keep (.keep (.keep (.keep (.nil _ []))))) ?_)
  clear hH
  intro w hH
  refine ⟨pcons (hH.blk 0 rfl) (pcons (hH.blk 0 rfl) (pcons (hH.blk 0 rfl) (pcons (hH.blk 0 rfl) pnil))), ?_⟩
  refine rx1k 9 (rpc 9 Tryz.func54 (fM_c a.1 a.2) trivial hH 6 (pgo [] (pgo [] (.keep (.keep (.nil _ []))))) ?_)
  clear hH
  intro w hH
  refine ⟨pcons (hH.blk 0 rfl) (pcons (hH.blk 0 rfl) pnil), ?_⟩
  refine rv 10 (v := (cPl.val (a.1, a.2, oneB, (fM a.1 a.2)))) (fun _ _ hF => opBuildP (cells := cPl.enc (a.1, a.2, oneB, (fM a.1 a.2))) rfl (EvP.cons (v := ((cArr 32).val a.1)) (hF.ev 3 rfl) (EvP.cons (v := ((cArr 32).val a.2)) (hF.ev 2 rfl) (EvP.cons (v := ((cArr 32).val oneB)) (hF.ev 1 rfl) (EvP.cons (v := ((cArr 32).val (fM a.1 a.2))) (hF.ev 0 rfl) EvP.nil)))) (built_4 (x := ((a.1, a.2, oneB, (fM a.1 a.2)) : Bt × Bt × Bt × Bt)) (by kernel_rfl) rfl rfl rfl rfl) _) 15 ?_
  refine rx1k 11 ?_
  refine re0 11 1 hH rfl (.sw cPl (fun _ => 0, fun _ => 0, fun _ => 0, fun _ => 0) (a.1, a.2, oneB, (fM a.1 a.2))) trivial (pgo [] (pgo [] (.nil _ []))) ?_
  clear hH
  rintro _ _ w rfl hH
  refine ⟨pnil, ?_⟩
  refine rn ?_
  refine cxRet ?_
  refine qxRetC 1 (hH.blk 1 rfl) rfl rfl (by kernel_rfl) (Cod.size _ _) (by kernel_rfl) ?_
  exact ⟨rfl, HH.toBelow hH⟩

set_option maxHeartbeats 8000000 in
theorem stOf_c (a : Bt × Bt) : Pure Tryz.prog 50 #[(cPr.val a)] (fun _ => True) (cSt.val (stOf a)) := by
  refine pure_of (fn := Tryz.f50) Tryz.func50 rfl Tryz.ntmps50 (Nat.le_of_ble_eq_true rfl) rfl ?_
  intro w0 hH hR
  refine zr ?_
  refine zm hH (.bx cPr a) trivial 1 ?_
  clear hH
  rintro _ _ w ⟨g1, rfl, rfl⟩ hH
  refine zm hH (.al cSt (fun _ => 0, fun _ => 0, fun _ => 0)) trivial 0 ?_
  clear hH
  rintro _ _ w ⟨g2, rfl, rfl⟩ hH
  refine zn ?_
  refine zx ?_
  replace hH := hH.drew
  refine rxPg 0 [pv 0 4 [] [] fun G => ((cArr 32).val dB), pv 1 5 [] [] fun G => (.pointer (some ⟨g1, 0, none⟩)), ldv 2 6 [1] [] [1000] fun G => ((cArr 32).val a.1), pv 3 7 [] [] fun G => (.pointer (some ⟨g1, 32, none⟩)), ldv 4 8 [3] [] [1000] fun G => ((cArr 32).val a.2), pv 5 9 [2, 4] [] fun G => ((cArr 32).val (fM a.1 a.2)), pv 6 10 [0, 5] [] fun G => ((cArr 32).val (fM dB (fM a.1 a.2))), alv 7 3 [] [] fun G g => [bl g 23 ((cArr 32).enc (fun _ => 0))], stv 8 [6, 7] [7] 7 fun G => [bl (G 7).g 23 ((cArr 32).enc (fM dB (fM a.1 a.2)))]] (fun G => [(3, (.pointer (some ⟨(G 7).g, 0, none⟩))), (2, (.pointer (some ⟨g2, 0, none⟩))), (1, (.pointer (some ⟨g1, 0, none⟩)))]) (fun G => [[bl g1 76 (cPr.enc a)], [bl g2 84 (cSt.enc (fun _ => 0, fun _ => 0, fun _ => 0))], [bl (G 7).g 23 ((cArr 32).enc (fM dB (fM a.1 a.2)))]]) hH (.c (Sp.c Tryz.func69 (fun G => (dB_c )) fun _ => trivial) <| .c (.v fun G => (.fld 0)) <| .c (.ld (fun G _ _ hH => (hH.q 0 rfl)) fun G => (.ld (cArr 32) a.1 (fun _ hS => (holds_blk0 hS).fst))) <| .c (.v fun G => (.fld 32)) <| .c (.ld (fun G _ _ hH => (hH.q 0 rfl)) fun G => (.ld (cArr 32) a.2 (fun _ hS => (holds_blk0 hS).snd))) <| .c (Sp.c Tryz.func54 (fun G => (fM_c a.1 a.2)) fun _ => trivial) <| .c (Sp.c Tryz.func54 (fun G => (fM_c dB (fM a.1 a.2))) fun _ => trivial) <| .c (.a (fun _ _ _ _ => trivial) (fun G => (.al (cArr 32) (fun _ => 0))) fun _ _ _ h => h) <| .c (.tn (fun G => (.sw (cArr 32) (fun _ => 0) (fM dB (fM a.1 a.2)))) (fun _ _ _ _ => trivial) fun _ _ _ h => h) <| .nil) ?_
  clear hH
  rintro G w - hH
  revert hH
  generalize (G 7).g = g3
  intro hH
  refine rn ?_
  refine zx ?_
  replace hH := hH.drew
  refine rv 0 (.fld 32) 0 ?_
  refine rld 1 (hH.q 0 rfl) (.ld (cArr 32) a.2 (fun _ hS => (holds_blk0 hS).snd)) 1 ?_
  refine rv 2 (.fld 0) 0 ?_
  refine rld 3 (hH.q 0 rfl) (.ld (cArr 32) a.1 (fun _ hS => (holds_blk0 hS).fst)) 1 ?_
  refine rv 5 (.fld 32) 0 ?_
  refine rld 6 (hH.q 0 rfl) (.ld (cArr 32) a.2 (fun _ hS => (holds_blk0 hS).snd)) 1 ?_
  refine rv 7 (.fld 0) 32 ?_
  refine rld 8 (hH.q 0 rfl) (.ld (cArr 32) a.1 (fun _ hS => (holds_blk0 hS).fst)) 1 ?_
  refine rld 10 (hH.q 2 rfl) (.ld (cArr 32) (fM dB (fM a.1 a.2)) (fun _ hS => (holds_blk0 hS))) 0 ?_
  refine rld 11 (hH.q 2 rfl) (.ld (cArr 32) (fM dB (fM a.1 a.2)) (fun _ hS => (holds_blk0 hS))) 32 ?_
  refine rx1k 4 (rpc 4 Tryz.func63 (fS_c a.2 a.1) trivial hH 48 (.keep (.keep (.keep (.keep (pgo [] (pgo [] (.nil _ []))))))) ?_)
  clear hH
  intro w hH
  refine ⟨pcons (hH.blk 2 rfl) (pcons (hH.blk 2 rfl) (pcons (hH.blk 0 rfl) (pcons (hH.blk 0 rfl) pnil))), ?_⟩
  refine rx1k 9 (rpc 9 Tryz.func70 (fA_c a.2 a.1) trivial hH 24 (.keep (.keep (pgo [] (pgo [] (.nil _ []))))) ?_)
  clear hH
  intro w hH
  refine ⟨pcons (hH.blk 2 rfl) (pcons (hH.blk 2 rfl) pnil), ?_⟩
  refine rx1k 12 (rpc 12 Tryz.func70 (fA_c (fM dB (fM a.1 a.2)) (fM dB (fM a.1 a.2))) trivial hH 12 (pgo [] (pgo [] (.nil _ []))) ?_)
  clear hH
  intro w hH
  refine ⟨pnil, ?_⟩
  refine rv 13 (v := (cSt.val ((fS a.2 a.1), (fA a.2 a.1), (fA (fM dB (fM a.1 a.2)) (fM dB (fM a.1 a.2)))))) (fun _ _ hF => opBuildP (cells := cSt.enc ((fS a.2 a.1), (fA a.2 a.1), (fA (fM dB (fM a.1 a.2)) (fM dB (fM a.1 a.2))))) rfl (EvP.cons (v := ((cArr 32).val (fS a.2 a.1))) (hF.ev 2 rfl) (EvP.cons (v := ((cArr 32).val (fA a.2 a.1))) (hF.ev 1 rfl) (EvP.cons (v := ((cArr 32).val (fA (fM dB (fM a.1 a.2)) (fM dB (fM a.1 a.2))))) (hF.ev 0 rfl) EvP.nil))) (built_3 (x := (((fS a.2 a.1), (fA a.2 a.1), (fA (fM dB (fM a.1 a.2)) (fM dB (fM a.1 a.2)))) : Bt × Bt × Bt)) (by kernel_rfl) rfl rfl rfl) _) 7 ?_
  refine rx1k 14 ?_
  refine re0 14 1 hH rfl (.sw cSt (fun _ => 0, fun _ => 0, fun _ => 0) ((fS a.2 a.1), (fA a.2 a.1), (fA (fM dB (fM a.1 a.2)) (fM dB (fM a.1 a.2))))) trivial (.nil _ []) ?_
  clear hH
  rintro _ _ w rfl hH
  refine ⟨pnil, ?_⟩
  refine rn ?_
  refine cxRet ?_
  refine qxRetC 1 (hH.blk 1 rfl) rfl rfl (by kernel_rfl) (Cod.size _ _) (by kernel_rfl) ?_
  exact ⟨rfl, HH.toBelow hH⟩

set_option maxHeartbeats 8000000 in
theorem plAt_c (e f g h : Bt) : Pure Tryz.prog 83 #[((cArr 32).val e), ((cArr 32).val f), ((cArr 32).val g), ((cArr 32).val h)] (fun _ => True) (cPl.val (plAt e f g h)) := by
  refine pure_of (fn := Tryz.f83) Tryz.func83 rfl Tryz.ntmps83 (Nat.le_of_ble_eq_true rfl) rfl ?_
  intro w0 hH hR
  refine zr ?_
  refine zm hH (.bx (cArr 32) e) trivial 1 ?_
  clear hH
  rintro _ _ w ⟨g1, rfl, rfl⟩ hH
  refine zm hH (.bx (cArr 32) f) trivial 2 ?_
  clear hH
  rintro _ _ w ⟨g2, rfl, rfl⟩ hH
  refine zm hH (.bx (cArr 32) g) trivial 4 ?_
  clear hH
  rintro _ _ w ⟨g3, rfl, rfl⟩ hH
  refine zm hH (.bx (cArr 32) h) trivial 8 ?_
  clear hH
  rintro _ _ w ⟨g4, rfl, rfl⟩ hH
  refine zm hH (.al cPl (fun _ => 0, fun _ => 0, fun _ => 0, fun _ => 0)) trivial 0 ?_
  clear hH
  rintro _ _ w ⟨g5, rfl, rfl⟩ hH
  refine zn ?_
  refine zx ?_
  replace hH := hH.drew
  refine rld 0 (hH.q 0 rfl) (.ld (cArr 32) e (fun _ hS => (holds_blk0 hS))) 0 ?_
  refine rld 1 (hH.q 1 rfl) (.ld (cArr 32) f (fun _ hS => (holds_blk0 hS))) 0 ?_
  refine rld 3 (hH.q 2 rfl) (.ld (cArr 32) g (fun _ hS => (holds_blk0 hS))) 0 ?_
  refine rld 4 (hH.q 3 rfl) (.ld (cArr 32) h (fun _ hS => (holds_blk0 hS))) 0 ?_
  refine rld 6 (hH.q 1 rfl) (.ld (cArr 32) f (fun _ hS => (holds_blk0 hS))) 128 ?_
  refine rld 7 (hH.q 2 rfl) (.ld (cArr 32) g (fun _ hS => (holds_blk0 hS))) 128 ?_
  refine rld 9 (hH.q 0 rfl) (.ld (cArr 32) e (fun _ hS => (holds_blk0 hS))) 256 ?_
  refine rld 10 (hH.q 3 rfl) (.ld (cArr 32) h (fun _ hS => (holds_blk0 hS))) 256 ?_
  refine rx1k 2 (rpc 2 Tryz.func54 (fM_c e f) trivial hH 192 (.keep (.keep (.keep (.keep (.keep (.keep (pgo [] (pgo [] (.nil _ []))))))))) ?_)
  clear hH
  intro w hH
  refine ⟨pcons (hH.blk 3 rfl) (pcons (hH.blk 0 rfl) (pcons (hH.blk 2 rfl) (pcons (hH.blk 1 rfl) (pcons (hH.blk 3 rfl) (pcons (hH.blk 2 rfl) pnil))))), ?_⟩
  refine rx1k 5 (rpc 5 Tryz.func54 (fM_c g h) trivial hH 96 (.keep (.keep (.keep (.keep (pgo [] (pgo [] (.nil _ []))))))) ?_)
  clear hH
  intro w hH
  refine ⟨pcons (hH.blk 3 rfl) (pcons (hH.blk 0 rfl) (pcons (hH.blk 2 rfl) (pcons (hH.blk 1 rfl) pnil))), ?_⟩
  refine rx1k 8 (rpc 8 Tryz.func54 (fM_c f g) trivial hH 48 (.keep (.keep (pgo [] (pgo [] (.nil _ []))))) ?_)
  clear hH
  intro w hH
  refine ⟨pcons (hH.blk 3 rfl) (pcons (hH.blk 0 rfl) pnil), ?_⟩
  refine rx1k 11 (rpc 11 Tryz.func54 (fM_c e h) trivial hH 24 (pgo [] (pgo [] (.nil _ []))) ?_)
  clear hH
  intro w hH
  refine ⟨pnil, ?_⟩
  refine rv 12 (v := (cPl.val ((fM e f), (fM g h), (fM f g), (fM e h)))) (fun _ _ hF => opBuildP (cells := cPl.enc ((fM e f), (fM g h), (fM f g), (fM e h))) rfl (EvP.cons (v := ((cArr 32).val (fM e f))) (hF.ev 3 rfl) (EvP.cons (v := ((cArr 32).val (fM g h))) (hF.ev 2 rfl) (EvP.cons (v := ((cArr 32).val (fM f g))) (hF.ev 1 rfl) (EvP.cons (v := ((cArr 32).val (fM e h))) (hF.ev 0 rfl) EvP.nil)))) (built_4 (x := (((fM e f), (fM g h), (fM f g), (fM e h)) : Bt × Bt × Bt × Bt)) (by kernel_rfl) rfl rfl rfl rfl) _) 15 ?_
  refine rx1k 13 ?_
  refine re0 13 4 hH rfl (.sw cPl (fun _ => 0, fun _ => 0, fun _ => 0, fun _ => 0) ((fM e f), (fM g h), (fM f g), (fM e h))) trivial (.nil _ []) ?_
  clear hH
  rintro _ _ w rfl hH
  refine ⟨pnil, ?_⟩
  refine rn ?_
  refine cxRet ?_
  refine qxRetC 1 (hH.blk 4 rfl) rfl rfl (by kernel_rfl) (Cod.size _ _) (by kernel_rfl) ?_
  exact ⟨rfl, HH.toBelow hH⟩

set_option maxHeartbeats 8000000 in
theorem ptA_c (a : Bt × Bt × Bt × Bt) (b : Bt × Bt × Bt) : Pure Tryz.prog 66 #[(cPl.val a), (cSt.val b)] (fun _ => True) (cPl.val (ptA a b)) := by
  refine pure_of (fn := Tryz.f66) Tryz.func66 rfl Tryz.ntmps66 (Nat.le_of_ble_eq_true rfl) rfl ?_
  intro w0 hH hR
  refine zr ?_
  refine zm hH (.bx cPl a) trivial 1 ?_
  clear hH
  rintro _ _ w ⟨g1, rfl, rfl⟩ hH
  refine zm hH (.bx cSt b) trivial 2 ?_
  clear hH
  rintro _ _ w ⟨g2, rfl, rfl⟩ hH
  refine zm hH (.al cPl (fun _ => 0, fun _ => 0, fun _ => 0, fun _ => 0)) trivial 0 ?_
  clear hH
  rintro _ _ w ⟨g3, rfl, rfl⟩ hH
  refine zn ?_
  refine zx ?_
  replace hH := hH.drew
  refine rxPg 0 [pv 0 9 [] [] fun G => (.pointer (some ⟨g1, 32, none⟩)), ldv 1 10 [0] [] [1000] fun G => ((cArr 32).val a.2.1), pv 2 11 [] [] fun G => (.pointer (some ⟨g1, 0, none⟩)), ldv 3 12 [2] [] [1000] fun G => ((cArr 32).val a.1), pv 4 13 [1, 3] [] fun G => ((cArr 32).val (fS a.2.1 a.1)), pv 5 14 [] [] fun G => (.pointer (some ⟨g2, 0, none⟩)), ldv 6 15 [5] [] [1001] fun G => ((cArr 32).val b.1), pv 7 16 [4, 6] [] fun G => ((cArr 32).val (fM (fS a.2.1 a.1) b.1)), alv 8 5 [] [] fun G g => [bl g 23 ((cArr 32).enc (fun _ => 0))], stv 9 [7, 8] [8] 8 fun G => [bl (G 8).g 23 ((cArr 32).enc (fM (fS a.2.1 a.1) b.1))]] (fun G => [(5, (.pointer (some ⟨(G 8).g, 0, none⟩))), (4, (.pointer (some ⟨g3, 0, none⟩))), (3, (.pointer (some ⟨g2, 0, none⟩))), (2, (.pointer (some ⟨g1, 0, none⟩)))]) (fun G => [[bl g1 81 (cPl.enc a)], [bl g2 84 (cSt.enc b)], [bl g3 81 (cPl.enc (fun _ => 0, fun _ => 0, fun _ => 0, fun _ => 0))], [bl (G 8).g 23 ((cArr 32).enc (fM (fS a.2.1 a.1) b.1))]]) hH (.c (.v fun G => (.fld 32)) <| .c (.ld (fun G _ _ hH => (hH.q 0 rfl)) fun G => (.ld (cArr 32) a.2.1 (fun _ hS => ((holds_blk0 hS).snd).fst))) <| .c (.v fun G => (.fld 0)) <| .c (.ld (fun G _ _ hH => (hH.q 0 rfl)) fun G => (.ld (cArr 32) a.1 (fun _ hS => (holds_blk0 hS).fst))) <| .c (Sp.c Tryz.func63 (fun G => (fS_c a.2.1 a.1)) fun _ => trivial) <| .c (.v fun G => (.fld 0)) <| .c (.ld (fun G _ _ hH => (hH.q 0 rfl)) fun G => (.ld (cArr 32) b.1 (fun _ hS => (holds_blk0 hS).fst))) <| .c (Sp.c Tryz.func54 (fun G => (fM_c (fS a.2.1 a.1) b.1)) fun _ => trivial) <| .c (.a (fun _ _ _ _ => trivial) (fun G => (.al (cArr 32) (fun _ => 0))) fun _ _ _ h => h) <| .c (.tn (fun G => (.sw (cArr 32) (fun _ => 0) (fM (fS a.2.1 a.1) b.1))) (fun _ _ _ _ => trivial) fun _ _ _ h => h) <| .nil) ?_
  clear hH
  rintro G w - hH
  revert hH
  generalize (G 8).g = g4
  intro hH
  refine rn ?_
  refine zx ?_
  replace hH := hH.drew
  refine rxPg 0 [pv 0 17 [] [] fun G => (.pointer (some ⟨g1, 32, none⟩)), ldv 1 18 [0] [] [1000] fun G => ((cArr 32).val a.2.1), pv 2 19 [] [] fun G => (.pointer (some ⟨g1, 0, none⟩)), ldv 3 20 [2] [] [1000] fun G => ((cArr 32).val a.1), pv 4 21 [1, 3] [] fun G => ((cArr 32).val (fA a.2.1 a.1)), pv 5 22 [] [] fun G => (.pointer (some ⟨g2, 32, none⟩)), ldv 6 23 [5] [] [1001] fun G => ((cArr 32).val b.2.1), pv 7 24 [4, 6] [] fun G => ((cArr 32).val (fM (fA a.2.1 a.1) b.2.1)), alv 8 6 [] [] fun G g => [bl g 23 ((cArr 32).enc (fun _ => 0))], stv 9 [7, 8] [8] 8 fun G => [bl (G 8).g 23 ((cArr 32).enc (fM (fA a.2.1 a.1) b.2.1))]] (fun G => [(6, (.pointer (some ⟨(G 8).g, 0, none⟩))), (5, (.pointer (some ⟨g4, 0, none⟩))), (4, (.pointer (some ⟨g3, 0, none⟩))), (3, (.pointer (some ⟨g2, 0, none⟩))), (2, (.pointer (some ⟨g1, 0, none⟩)))]) (fun G => [[bl g1 81 (cPl.enc a)], [bl g2 84 (cSt.enc b)], [bl g3 81 (cPl.enc (fun _ => 0, fun _ => 0, fun _ => 0, fun _ => 0))], [bl g4 23 ((cArr 32).enc (fM (fS a.2.1 a.1) b.1))], [bl (G 8).g 23 ((cArr 32).enc (fM (fA a.2.1 a.1) b.2.1))]]) hH (.c (.v fun G => (.fld 32)) <| .c (.ld (fun G _ _ hH => (hH.q 0 rfl)) fun G => (.ld (cArr 32) a.2.1 (fun _ hS => ((holds_blk0 hS).snd).fst))) <| .c (.v fun G => (.fld 0)) <| .c (.ld (fun G _ _ hH => (hH.q 0 rfl)) fun G => (.ld (cArr 32) a.1 (fun _ hS => (holds_blk0 hS).fst))) <| .c (Sp.c Tryz.func70 (fun G => (fA_c a.2.1 a.1)) fun _ => trivial) <| .c (.v fun G => (.fld 32)) <| .c (.ld (fun G _ _ hH => (hH.q 0 rfl)) fun G => (.ld (cArr 32) b.2.1 (fun _ hS => ((holds_blk0 hS).snd).fst))) <| .c (Sp.c Tryz.func54 (fun G => (fM_c (fA a.2.1 a.1) b.2.1)) fun _ => trivial) <| .c (.a (fun _ _ _ _ => trivial) (fun G => (.al (cArr 32) (fun _ => 0))) fun _ _ _ h => h) <| .c (.tn (fun G => (.sw (cArr 32) (fun _ => 0) (fM (fA a.2.1 a.1) b.2.1))) (fun _ _ _ _ => trivial) fun _ _ _ h => h) <| .nil) ?_
  clear hH
  rintro G w - hH
  revert hH
  generalize (G 8).g = g5
  intro hH
  refine rn ?_
  refine zr ?_
  refine zv (.fld 96) 0 ?_
  refine zs (hH.q 0 rfl) (.ld (cArr 32) a.2.2.2 (fun _ hS => (((holds_blk0 hS).snd).snd).snd)) 1 ?_
  refine zv (.fld 64) 16 ?_
  refine zs (hH.q 1 rfl) (.ld (cArr 32) b.2.2 (fun _ hS => ((holds_blk0 hS).snd).snd)) 1 ?_
  refine zc Tryz.func54 (fM_c a.2.2.2 b.2.2) trivial hH 3 ?_
  clear hH
  intro w hH
  refine zm hH (.al (cArr 32) (fun _ => 0)) trivial 0 ?_
  clear hH
  rintro _ _ w ⟨g6, rfl, rfl⟩ hH
  refine ze0 5 hH rfl (.sw (cArr 32) (fun _ => 0) (fM a.2.2.2 b.2.2)) trivial ?_
  clear hH
  rintro _ _ w rfl hH
  refine zn ?_
  refine zr ?_
  refine zv (.fld 64) 2 ?_
  refine zs (hH.q 0 rfl) (.ld (cArr 32) a.2.2.1 (fun _ hS => (((holds_blk0 hS).snd).snd).fst)) 1 ?_
  refine zv (.fld 64) 32 ?_
  refine zs (hH.q 0 rfl) (.ld (cArr 32) a.2.2.1 (fun _ hS => (((holds_blk0 hS).snd).snd).fst)) 1 ?_
  refine zc Tryz.func70 (fA_c a.2.2.1 a.2.2.1) trivial hH 3 ?_
  clear hH
  intro w hH
  refine zm hH (.al (cArr 32) (fun _ => 0)) trivial 0 ?_
  clear hH
  rintro _ _ w ⟨g7, rfl, rfl⟩ hH
  refine ze0 6 hH rfl (.sw (cArr 32) (fun _ => 0) (fA a.2.2.1 a.2.2.1)) trivial ?_
  clear hH
  rintro _ _ w rfl hH
  refine zn ?_
  refine zx ?_
  replace hH := hH.drew
  refine rld 0 (hH.q 4 rfl) (.ld (cArr 32) (fM (fA a.2.1 a.1) b.2.1) (fun _ hS => (holds_blk0 hS))) 2 ?_
  refine rld 1 (hH.q 3 rfl) (.ld (cArr 32) (fM (fS a.2.1 a.1) b.1) (fun _ hS => (holds_blk0 hS))) 0 ?_
  refine rld 3 (hH.q 6 rfl) (.ld (cArr 32) (fA a.2.2.1 a.2.2.1) (fun _ hS => (holds_blk0 hS))) 0 ?_
  refine rld 4 (hH.q 5 rfl) (.ld (cArr 32) (fM a.2.2.2 b.2.2) (fun _ hS => (holds_blk0 hS))) 0 ?_
  refine rld 6 (hH.q 6 rfl) (.ld (cArr 32) (fA a.2.2.1 a.2.2.1) (fun _ hS => (holds_blk0 hS))) 16 ?_
  refine rld 7 (hH.q 5 rfl) (.ld (cArr 32) (fM a.2.2.2 b.2.2) (fun _ hS => (holds_blk0 hS))) 32 ?_
  refine rld 9 (hH.q 4 rfl) (.ld (cArr 32) (fM (fA a.2.1 a.1) b.2.1) (fun _ hS => (holds_blk0 hS))) 64 ?_
  refine rld 10 (hH.q 3 rfl) (.ld (cArr 32) (fM (fS a.2.1 a.1) b.1) (fun _ hS => (holds_blk0 hS))) 128 ?_
  refine rx1k 2 (rpc 2 Tryz.func63 (fS_c (fM (fA a.2.1 a.1) b.2.1) (fM (fS a.2.1 a.1) b.1)) trivial hH 192 (.keep (.keep (.keep (.keep (.keep (.keep (pgo [] (pgo [] (.nil _ []))))))))) ?_)
  clear hH
  intro w hH
  refine ⟨pcons (hH.blk 3 rfl) (pcons (hH.blk 4 rfl) (pcons (hH.blk 5 rfl) (pcons (hH.blk 6 rfl) (pcons (hH.blk 5 rfl) (pcons (hH.blk 6 rfl) pnil))))), ?_⟩
  refine rx1k 5 (rpc 5 Tryz.func63 (fS_c (fA a.2.2.1 a.2.2.1) (fM a.2.2.2 b.2.2)) trivial hH 96 (.keep (.keep (.keep (.keep (pgo [] (pgo [] (.nil _ []))))))) ?_)
  clear hH
  intro w hH
  refine ⟨pcons (hH.blk 3 rfl) (pcons (hH.blk 4 rfl) (pcons (hH.blk 5 rfl) (pcons (hH.blk 6 rfl) pnil))), ?_⟩
  refine rx1k 8 (rpc 8 Tryz.func70 (fA_c (fA a.2.2.1 a.2.2.1) (fM a.2.2.2 b.2.2)) trivial hH 48 (.keep (.keep (pgo [] (pgo [] (.nil _ []))))) ?_)
  clear hH
  intro w hH
  refine ⟨pcons (hH.blk 3 rfl) (pcons (hH.blk 4 rfl) pnil), ?_⟩
  refine rx1k 11 (rpc 11 Tryz.func70 (fA_c (fM (fA a.2.1 a.1) b.2.1) (fM (fS a.2.1 a.1) b.1)) trivial hH 24 (pgo [] (pgo [] (.nil _ []))) ?_)
  clear hH
  intro w hH
  refine ⟨pnil, ?_⟩
  refine rx1k 12 (rpc 12 Tryz.func83 (plAt_c (fS (fM (fA a.2.1 a.1) b.2.1) (fM (fS a.2.1 a.1) b.1)) (fS (fA a.2.2.1 a.2.2.1) (fM a.2.2.2 b.2.2)) (fA (fA a.2.2.1 a.2.2.1) (fM a.2.2.2 b.2.2)) (fA (fM (fA a.2.1 a.1) b.2.1) (fM (fS a.2.1 a.1) b.1))) trivial hH 15 (.nil _ []) ?_)
  clear hH
  intro w hH
  refine ⟨pnil, ?_⟩
  refine rx1k 13 ?_
  refine re0 13 2 hH rfl (.sw cPl (fun _ => 0, fun _ => 0, fun _ => 0, fun _ => 0) (plAt (fS (fM (fA a.2.1 a.1) b.2.1) (fM (fS a.2.1 a.1) b.1)) (fS (fA a.2.2.1 a.2.2.1) (fM a.2.2.2 b.2.2)) (fA (fA a.2.2.1 a.2.2.1) (fM a.2.2.2 b.2.2)) (fA (fM (fA a.2.1 a.1) b.2.1) (fM (fS a.2.1 a.1) b.1)))) trivial (.nil _ []) ?_
  clear hH
  rintro _ _ w rfl hH
  refine ⟨pnil, ?_⟩
  refine rn ?_
  refine cxRet ?_
  refine qxRetC 1 (hH.blk 2 rfl) rfl rfl (by kernel_rfl) (Cod.size _ _) (by kernel_rfl) ?_
  exact ⟨rfl, HH.toBelow hH⟩

set_option maxHeartbeats 8000000 in
theorem ptD_c (a : Bt × Bt × Bt × Bt) : Pure Tryz.prog 67 #[(cPl.val a)] (fun _ => True) (cPl.val (ptD a)) := by
  refine pure_of (fn := Tryz.f67) Tryz.func67 rfl Tryz.ntmps67 (Nat.le_of_ble_eq_true rfl) rfl ?_
  intro w0 hH hR
  refine zr ?_
  refine zm hH (.bx cPl a) trivial 1 ?_
  clear hH
  rintro _ _ w ⟨g1, rfl, rfl⟩ hH
  refine zm hH (.al cPl (fun _ => 0, fun _ => 0, fun _ => 0, fun _ => 0)) trivial 0 ?_
  clear hH
  rintro _ _ w ⟨g2, rfl, rfl⟩ hH
  refine zn ?_
  refine zx ?_
  replace hH := hH.drew
  refine rxPg 0 [pv 0 9 [] [] fun G => (.pointer (some ⟨g1, 0, none⟩)), ldv 1 10 [0] [] [1000] fun G => ((cArr 32).val a.1), pv 2 11 [] [] fun G => (.pointer (some ⟨g1, 0, none⟩)), ldv 3 12 [2] [] [1000] fun G => ((cArr 32).val a.1), pv 4 13 [1, 3] [] fun G => ((cArr 32).val (fM a.1 a.1)), pv 5 14 [] [] fun G => (.pointer (some ⟨g1, 32, none⟩)), ldv 6 15 [5] [] [1000] fun G => ((cArr 32).val a.2.1), pv 7 16 [] [] fun G => (.pointer (some ⟨g1, 32, none⟩)), ldv 8 17 [7] [] [1000] fun G => ((cArr 32).val a.2.1), pv 9 18 [6, 8] [] fun G => ((cArr 32).val (fM a.2.1 a.2.1)), pv 10 19 [] [] fun G => (.pointer (some ⟨g1, 64, none⟩)), ldv 11 20 [10] [] [1000] fun G => ((cArr 32).val a.2.2.1), pv 12 21 [] [] fun G => (.pointer (some ⟨g1, 64, none⟩)), ldv 13 22 [12] [] [1000] fun G => ((cArr 32).val a.2.2.1), pv 14 23 [11, 13] [] fun G => ((cArr 32).val (fM a.2.2.1 a.2.2.1)), alv 15 3 [] [] fun G g => [bl g 23 ((cArr 32).enc (fun _ => 0))], alv 16 4 [] [] fun G g => [bl g 23 ((cArr 32).enc (fun _ => 0))], alv 17 5 [] [] fun G g => [bl g 23 ((cArr 32).enc (fun _ => 0))], stv 18 [4, 15] [15] 15 fun G => [bl (G 15).g 23 ((cArr 32).enc (fM a.1 a.1))], stv 19 [9, 16] [16] 16 fun G => [bl (G 16).g 23 ((cArr 32).enc (fM a.2.1 a.2.1))], stv 20 [14, 17] [17] 17 fun G => [bl (G 17).g 23 ((cArr 32).enc (fM a.2.2.1 a.2.2.1))]] (fun G => [(3, (.pointer (some ⟨(G 15).g, 0, none⟩))), (4, (.pointer (some ⟨(G 16).g, 0, none⟩))), (5, (.pointer (some ⟨(G 17).g, 0, none⟩))), (2, (.pointer (some ⟨g2, 0, none⟩))), (1, (.pointer (some ⟨g1, 0, none⟩)))]) (fun G => [[bl g1 81 (cPl.enc a)], [bl g2 81 (cPl.enc (fun _ => 0, fun _ => 0, fun _ => 0, fun _ => 0))], [bl (G 15).g 23 ((cArr 32).enc (fM a.1 a.1))], [bl (G 16).g 23 ((cArr 32).enc (fM a.2.1 a.2.1))], [bl (G 17).g 23 ((cArr 32).enc (fM a.2.2.1 a.2.2.1))]]) hH (.c (.v fun G => (.fld 0)) <| .c (.ld (fun G _ _ hH => (hH.q 0 rfl)) fun G => (.ld (cArr 32) a.1 (fun _ hS => (holds_blk0 hS).fst))) <| .c (.v fun G => (.fld 0)) <| .c (.ld (fun G _ _ hH => (hH.q 0 rfl)) fun G => (.ld (cArr 32) a.1 (fun _ hS => (holds_blk0 hS).fst))) <| .c (Sp.c Tryz.func54 (fun G => (fM_c a.1 a.1)) fun _ => trivial) <| .c (.v fun G => (.fld 32)) <| .c (.ld (fun G _ _ hH => (hH.q 0 rfl)) fun G => (.ld (cArr 32) a.2.1 (fun _ hS => ((holds_blk0 hS).snd).fst))) <| .c (.v fun G => (.fld 32)) <| .c (.ld (fun G _ _ hH => (hH.q 0 rfl)) fun G => (.ld (cArr 32) a.2.1 (fun _ hS => ((holds_blk0 hS).snd).fst))) <| .c (Sp.c Tryz.func54 (fun G => (fM_c a.2.1 a.2.1)) fun _ => trivial) <| .c (.v fun G => (.fld 64)) <| .c (.ld (fun G _ _ hH => (hH.q 0 rfl)) fun G => (.ld (cArr 32) a.2.2.1 (fun _ hS => (((holds_blk0 hS).snd).snd).fst))) <| .c (.v fun G => (.fld 64)) <| .c (.ld (fun G _ _ hH => (hH.q 0 rfl)) fun G => (.ld (cArr 32) a.2.2.1 (fun _ hS => (((holds_blk0 hS).snd).snd).fst))) <| .c (Sp.c Tryz.func54 (fun G => (fM_c a.2.2.1 a.2.2.1)) fun _ => trivial) <| .c (.a (fun _ _ _ _ => trivial) (fun G => (.al (cArr 32) (fun _ => 0))) fun _ _ _ h => h) <| .c (.a (fun _ _ _ _ => trivial) (fun G => (.al (cArr 32) (fun _ => 0))) fun _ _ _ h => h) <| .c (.a (fun _ _ _ _ => trivial) (fun G => (.al (cArr 32) (fun _ => 0))) fun _ _ _ h => h) <| .c (.tn (fun G => (.sw (cArr 32) (fun _ => 0) (fM a.1 a.1))) (fun _ _ _ _ => trivial) fun _ _ _ h => h) <| .c (.tn (fun G => (.sw (cArr 32) (fun _ => 0) (fM a.2.1 a.2.1))) (fun _ _ _ _ => trivial) fun _ _ _ h => h) <| .c (.tn (fun G => (.sw (cArr 32) (fun _ => 0) (fM a.2.2.1 a.2.2.1))) (fun _ _ _ _ => trivial) fun _ _ _ h => h) <| .nil) ?_
  clear hH
  rintro G w - hH
  revert hH
  generalize (G 15).g = g3
  generalize (G 16).g = g4
  generalize (G 17).g = g5
  intro hH
  refine rn ?_
  refine zr ?_
  refine zv (.fld 0) 0 ?_
  refine zs (hH.q 0 rfl) (.ld (cArr 32) a.1 (fun _ hS => (holds_blk0 hS).fst)) 1 ?_
  refine zv (.fld 32) 32 ?_
  refine zs (hH.q 0 rfl) (.ld (cArr 32) a.2.1 (fun _ hS => ((holds_blk0 hS).snd).fst)) 1 ?_
  refine zc Tryz.func70 (fA_c a.1 a.2.1) trivial hH 3 ?_
  clear hH
  intro w hH
  refine zm hH (.al (cArr 32) (fun _ => 0)) trivial 0 ?_
  clear hH
  rintro _ _ w ⟨g6, rfl, rfl⟩ hH
  refine ze0 5 hH rfl (.sw (cArr 32) (fun _ => 0) (fA a.1 a.2.1)) trivial ?_
  clear hH
  rintro _ _ w rfl hH
  refine zn ?_
  refine zx ?_
  replace hH := hH.drew
  refine rxPg 0 [ldv 0 29 [] [] [1002] fun G => ((cArr 32).val (fM a.1 a.1)), ldv 1 30 [] [] [1003] fun G => ((cArr 32).val (fM a.2.1 a.2.1)), pv 2 31 [0, 1] [] fun G => ((cArr 32).val (fA (fM a.1 a.1) (fM a.2.1 a.2.1))), ldv 3 32 [] [] [1002] fun G => ((cArr 32).val (fM a.1 a.1)), ldv 4 33 [] [] [1003] fun G => ((cArr 32).val (fM a.2.1 a.2.1)), pv 5 34 [3, 4] [] fun G => ((cArr 32).val (fS (fM a.1 a.1) (fM a.2.1 a.2.1))), alv 6 7 [] [] fun G g => [bl g 23 ((cArr 32).enc (fun _ => 0))], alv 7 8 [] [] fun G g => [bl g 23 ((cArr 32).enc (fun _ => 0))], stv 8 [2, 6] [6] 6 fun G => [bl (G 6).g 23 ((cArr 32).enc (fA (fM a.1 a.1) (fM a.2.1 a.2.1)))], stv 9 [5, 7] [7] 7 fun G => [bl (G 7).g 23 ((cArr 32).enc (fS (fM a.1 a.1) (fM a.2.1 a.2.1)))]] (fun G => [(7, (.pointer (some ⟨(G 6).g, 0, none⟩))), (8, (.pointer (some ⟨(G 7).g, 0, none⟩))), (6, (.pointer (some ⟨g6, 0, none⟩))), (5, (.pointer (some ⟨g5, 0, none⟩))), (2, (.pointer (some ⟨g2, 0, none⟩)))]) (fun G => [[bl g1 81 (cPl.enc a)], [bl g2 81 (cPl.enc (fun _ => 0, fun _ => 0, fun _ => 0, fun _ => 0))], [bl g3 23 ((cArr 32).enc (fM a.1 a.1))], [bl g4 23 ((cArr 32).enc (fM a.2.1 a.2.1))], [bl g5 23 ((cArr 32).enc (fM a.2.2.1 a.2.2.1))], [bl g6 23 ((cArr 32).enc (fA a.1 a.2.1))], [bl (G 6).g 23 ((cArr 32).enc (fA (fM a.1 a.1) (fM a.2.1 a.2.1)))], [bl (G 7).g 23 ((cArr 32).enc (fS (fM a.1 a.1) (fM a.2.1 a.2.1)))]]) hH (.c (.ld (fun G _ _ hH => (hH.q 0 rfl)) fun G => (.ld (cArr 32) (fM a.1 a.1) (fun _ hS => (holds_blk0 hS)))) <| .c (.ld (fun G _ _ hH => (hH.q 0 rfl)) fun G => (.ld (cArr 32) (fM a.2.1 a.2.1) (fun _ hS => (holds_blk0 hS)))) <| .c (Sp.c Tryz.func70 (fun G => (fA_c (fM a.1 a.1) (fM a.2.1 a.2.1))) fun _ => trivial) <| .c (.ld (fun G _ _ hH => (hH.q 0 rfl)) fun G => (.ld (cArr 32) (fM a.1 a.1) (fun _ hS => (holds_blk0 hS)))) <| .c (.ld (fun G _ _ hH => (hH.q 0 rfl)) fun G => (.ld (cArr 32) (fM a.2.1 a.2.1) (fun _ hS => (holds_blk0 hS)))) <| .c (Sp.c Tryz.func63 (fun G => (fS_c (fM a.1 a.1) (fM a.2.1 a.2.1))) fun _ => trivial) <| .c (.a (fun _ _ _ _ => trivial) (fun G => (.al (cArr 32) (fun _ => 0))) fun _ _ _ h => h) <| .c (.a (fun _ _ _ _ => trivial) (fun G => (.al (cArr 32) (fun _ => 0))) fun _ _ _ h => h) <| .c (.tn (fun G => (.sw (cArr 32) (fun _ => 0) (fA (fM a.1 a.1) (fM a.2.1 a.2.1)))) (fun _ _ _ _ => trivial) fun _ _ _ h => h) <| .c (.tn (fun G => (.sw (cArr 32) (fun _ => 0) (fS (fM a.1 a.1) (fM a.2.1 a.2.1)))) (fun _ _ _ _ => trivial) fun _ _ _ h => h) <| .nil) ?_
  clear hH
  rintro G w - hH
  revert hH
  generalize (G 6).g = g7
  generalize (G 7).g = g8
  intro hH
  refine rn ?_
  refine zx ?_
  replace hH := hH.drew
  refine rld 0 (hH.q 6 rfl) (.ld (cArr 32) (fA (fM a.1 a.1) (fM a.2.1 a.2.1)) (fun _ hS => (holds_blk0 hS))) 0 ?_
  refine rld 1 (hH.q 5 rfl) (.ld (cArr 32) (fA a.1 a.2.1) (fun _ hS => (holds_blk0 hS))) 0 ?_
  refine rld 2 (hH.q 5 rfl) (.ld (cArr 32) (fA a.1 a.2.1) (fun _ hS => (holds_blk0 hS))) 16 ?_
  refine rld 5 (hH.q 4 rfl) (.ld (cArr 32) (fM a.2.2.1 a.2.2.1) (fun _ hS => (holds_blk0 hS))) 0 ?_
  refine rld 6 (hH.q 4 rfl) (.ld (cArr 32) (fM a.2.2.1 a.2.2.1) (fun _ hS => (holds_blk0 hS))) 64 ?_
  refine rld 8 (hH.q 7 rfl) (.ld (cArr 32) (fS (fM a.1 a.1) (fM a.2.1 a.2.1)) (fun _ hS => (holds_blk0 hS))) 0 ?_
  refine rld 10 (hH.q 7 rfl) (.ld (cArr 32) (fS (fM a.1 a.1) (fM a.2.1 a.2.1)) (fun _ hS => (holds_blk0 hS))) 128 ?_
  refine rld 11 (hH.q 6 rfl) (.ld (cArr 32) (fA (fM a.1 a.1) (fM a.2.1 a.2.1)) (fun _ hS => (holds_blk0 hS))) 128 ?_
  refine rx1k 3 (rpc 3 Tryz.func54 (fM_c (fA a.1 a.2.1) (fA a.1 a.2.1)) trivial hH 96 (.keep (.keep (.keep (.keep (.keep (pgo [] (pgo [] (.keep (.nil _ []))))))))) ?_)
  clear hH
  intro w hH
  refine ⟨pcons (hH.blk 6 rfl) (pcons (hH.blk 7 rfl) (pcons (hH.blk 7 rfl) (pcons (hH.blk 4 rfl) (pcons (hH.blk 4 rfl) (pcons (hH.blk 6 rfl) pnil))))), ?_⟩
  refine rx1k 4 (rpc 4 Tryz.func63 (fS_c (fA (fM a.1 a.1) (fM a.2.1 a.2.1)) (fM (fA a.1 a.2.1) (fA a.1 a.2.1))) trivial hH 65 (.keep (.keep (.keep (.keep (.keep (pgo [] (.nil _ []))))))) ?_)
  clear hH
  intro w hH
  refine ⟨pcons (hH.blk 6 rfl) (pcons (hH.blk 7 rfl) (pcons (hH.blk 7 rfl) (pcons (hH.blk 4 rfl) (pcons (hH.blk 4 rfl) pnil)))), ?_⟩
  refine rx1k 7 (rpc 7 Tryz.func70 (fA_c (fM a.2.2.1 a.2.2.1) (fM a.2.2.1 a.2.2.1)) trivial hH 48 (.keep (.keep (.keep (pgo [] (pgo [] (.nil _ [])))))) ?_)
  clear hH
  intro w hH
  refine ⟨pcons (hH.blk 6 rfl) (pcons (hH.blk 7 rfl) (pcons (hH.blk 7 rfl) pnil)), ?_⟩
  refine rx1k 9 (rpc 9 Tryz.func70 (fA_c (fA (fM a.2.2.1 a.2.2.1) (fM a.2.2.1 a.2.2.1)) (fS (fM a.1 a.1) (fM a.2.1 a.2.1))) trivial hH 17 (.keep (.keep (pgo [] (.nil _ [])))) ?_)
  clear hH
  intro w hH
  refine ⟨pcons (hH.blk 6 rfl) (pcons (hH.blk 7 rfl) pnil), ?_⟩
  refine rx1k 12 (rpc 12 Tryz.func83 (plAt_c (fS (fA (fM a.1 a.1) (fM a.2.1 a.2.1)) (fM (fA a.1 a.2.1) (fA a.1 a.2.1))) (fA (fA (fM a.2.2.1 a.2.2.1) (fM a.2.2.1 a.2.2.1)) (fS (fM a.1 a.1) (fM a.2.1 a.2.1))) (fS (fM a.1 a.1) (fM a.2.1 a.2.1)) (fA (fM a.1 a.1) (fM a.2.1 a.2.1))) trivial hH 15 (pgo [] (pgo [] (.nil _ []))) ?_)
  clear hH
  intro w hH
  refine ⟨pnil, ?_⟩
  refine rx1k 13 ?_
  refine re0 13 1 hH rfl (.sw cPl (fun _ => 0, fun _ => 0, fun _ => 0, fun _ => 0) (plAt (fS (fA (fM a.1 a.1) (fM a.2.1 a.2.1)) (fM (fA a.1 a.2.1) (fA a.1 a.2.1))) (fA (fA (fM a.2.2.1 a.2.2.1) (fM a.2.2.1 a.2.2.1)) (fS (fM a.1 a.1) (fM a.2.1 a.2.1))) (fS (fM a.1 a.1) (fM a.2.1 a.2.1)) (fA (fM a.1 a.1) (fM a.2.1 a.2.1)))) trivial (.nil _ []) ?_
  clear hH
  rintro _ _ w rfl hH
  refine ⟨pnil, ?_⟩
  refine rn ?_
  refine cxRet ?_
  refine qxRetC 1 (hH.blk 1 rfl) rfl rfl (by kernel_rfl) (Cod.size _ _) (by kernel_rfl) ?_
  exact ⟨rfl, HH.toBelow hH⟩
end Go.Proofs.YtbbegnfopdihaaaGreatDoor

namespace Go.Proofs.YtbbegnfopdihaaaGreatDoor
open Go Go.RowKit

/-! ### Roots -/
def iN : Nat := 19681161376707505956807079304988542015446066515923890162744021073123829784752
/-- n to the power (p + 3) / 8; a number whose square is n, if there is one. -/
def rt1 (n : Nat) : Nat := tm (rs (o250 n) 2) (rs n 1)
theorem rt1_lt {n : Nat} (h : n < 2 ^ 256) : rt1 n < 2 ^ 256 := tm_lt (rs_lt (o250_lt h) 2) (rs_lt h 1)
theorem iN_lt : iN < 2 ^ 256 := by decide
def rt2 (n : Nat) : Nat := tm (rt1 n) iN
theorem rt2_lt {n : Nat} (h : n < 2 ^ 256) : rt2 n < 2 ^ 256 := tm_lt (rt1_lt h) iN_lt
def rtV (n : Nat) : Nat := if rs (rt1 n) 1 % pN = n % pN then rt1 n else rt2 n
theorem rtV_lt {n : Nat} (h : n < 2 ^ 256) : rtV n < 2 ^ 256 := by
  unfold rtV
  split
  · exact rt1_lt h
  · exact rt2_lt h
abbrev rtF (n : Nat) : Prop := rs (rt1 n) 1 % pN = n % pN ∨ rs (rt2 n) 1 % pN = n % pN
theorem words_pN {a b : Nat} : (∀ i, i < 4 → words (a % pN) i = words (b % pN) i) ↔ a % pN = b % pN := by
  constructor
  · intro h
    have k : ∀ x : Nat, x % pN < 2 ^ 256 := fun x => Nat.lt_trans (Nat.mod_lt _ (by decide)) (by decide)
    have h1 : ∀ i, i < 4 → wd (a % pN) i = wd (b % pN) i := fun i hi => by rw [← words_nat, ← words_nat, h i hi]
    rw [← wd_all (k a), ← wd_all (k b), h1 0 (by decide), h1 1 (by decide), h1 2 (by decide), h1 3 (by decide)]
  · intro h i _
    rw [h]
theorem canon_iff (a : Nat → UInt8) : lst 32 (byteN (lv a 32 % pN)) = lst 32 a ↔ lv a 32 < pN := by
  constructor
  · intro h
    have h1 : ∀ i, i < 32 → byteN (lv a 32 % pN) i = a i := fun i hi => by
      have := congrArg (fun l => l[i]?) h
      simpa [lst_get hi] using this
    have h2 := lv_congr (m := 32) h1
    rw [lv_bytes] at h2
    rw [← h2]
    exact Nat.mod_lt _ (by decide)
  · intro h
    rw [Nat.mod_eq_of_lt h]
    exact List.map_congr_left fun i hi => byteN_lv a 32 i (List.mem_range.1 hi)
/-- The even root, as bytes; whether there is one, as a number of an error. -/
def sqB (a : Nat → UInt8) : Nat → UInt8 := if ((byteN (rtV (lv a 32) % pN)) 0 &&& 1).toNat = 1 then byteN (mi 0 (rtV (lv a 32)) % pN) else byteN (rtV (lv a 32) % pN)
def sqX (a : Nat → UInt8) : Nat → UInt8 := if rtF (lv a 32) then sqB a else fun _ => 0
def sqE (a : Nat → UInt8) : Nat := if rtF (lv a 32) then 0 else 3
/-! ### Points by their bytes -/
def sqAt (y : Bt) : Bt := fM (fS (fM y y) oneB) (fI (fA (fM dB (fM y y)) oneB))
def yB (p : Bt) : Bt := stF p 31 (p 31 &&& ~~~128)
def z2 : Bt × Bt := (fun _ => 0, fun _ => 0)
def rd (p : Bt) : (Bt × Bt) × Nat :=
  if lv (yB p) 32 < pN then
    if sqE (sqAt (yB p)) ≠ 0 then (z2, 2)
    else if (p 31 &&& 128).toNat ≠ 0 then
      if lst 32 (sqX (sqAt (yB p))) = lst 32 (fun _ => 0) then (z2, 2) else ((fS (fun _ => 0) (sqX (sqAt (yB p))), yB p), 0)
    else ((sqX (sqAt (yB p)), yB p), 0)
  else (z2, 2)
def bOf (a : Bt × Bt × Bt × Bt) : Bt := stF (fM a.2.1 (fI a.2.2.1)) 31 (fM a.2.1 (fI a.2.2.1) 31 ||| sl8 (fM a.1 (fI a.2.2.1) 0) 7)
def mk8 (m : UInt8) (i : Nat) (f : Bt) : Bt := fun j => if j < i then f j &&& m else f j
theorem mk8_0 (m : UInt8) (f : Bt) : mk8 m 0 f = f := by funext j; simp [mk8]
theorem mk8_succ (m : UInt8) (i : Nat) (f : Bt) : stF (mk8 m i f) i (mk8 m i f i &&& m) = mk8 m (i + 1) f := by
  funext j
  unfold stF mk8
  by_cases h : j = i
  · subst h; simp
  · by_cases h2 : j < i
    · simp [h, h2, Nat.lt_succ_of_lt h2]
    · have h3 : ¬ j < i + 1 := by omega
      simp [h, h2, h3]
def stIf (t : UInt8) (b : Bt × Bt × Bt) : Bt × Bt × Bt :=
  (stF (mk8 (-t) 32 b.1) 0 (mk8 (-t) 32 b.1 0 ||| (1 - t)), stF (mk8 (-t) 32 b.2.1) 0 (mk8 (-t) 32 b.2.1 0 ||| (1 - t)), mk8 (-t) 32 b.2.2)
/-- Bit i of 32 bytes. -/
def bitB (n : Bt) (i : Nat) : UInt8 := sr8 (n (i / 8)) (i % 8) &&& 1
/-- The place behind k of the 256 bits, the highest first. -/
def tmsTo (n : Bt) (b : Bt × Bt × Bt) : Nat → Bt × Bt × Bt × Bt
  | 0 => plOf (fun _ => 0, oneB)
  | k + 1 => ptA (ptD (tmsTo n b k)) (stIf (bitB n (255 - k)) b)
def tms (n : Bt) (b : Bt × Bt × Bt) : Bt × Bt × Bt × Bt := tmsTo n b 256
def ptMul (n p : Bt) : Bt := if (rd p).2 ≠ 0 then fun _ => 0 else bOf (tms n (stOf (rd p).1))
def genTo (i : Nat) : Bt := fun j => if j < i then 102 else 0
theorem genTo_succ (i : Nat) : stF (genTo i) i 102 = genTo (i + 1) := by
  funext j
  unfold stF genTo
  by_cases h : j = i
  · subst h; simp
  · by_cases h2 : j < i
    · simp [h, h2, Nat.lt_succ_of_lt h2]
    · have h3 : ¬ j < i + 1 := by omega
      simp [h, h2, h3]
def genB : Bt := stF (genTo 32) 0 88
def ptBase (n : Bt) : Bt := ptMul n genB
end Go.Proofs.YtbbegnfopdihaaaGreatDoor

namespace Go.Proofs.YtbbegnfopdihaaaGreatDoor
open Go Go.RowKit
set_option maxRecDepth 100000

abbrev vNb (n : Nat) : Value := (cQs 4).val (words n)
theorem ftm_c (a b : Nat) (ha : a < 2 ^ 256) (hb : b < 2 ^ 256) : Pure Tryz.prog 74 #[vNb a, vNb b] (fun _ => True) (vNb (tm a b)) := fun w _ => times_c a b ha hb w
theorem fmi_c (a b : Nat) (ha : a < 2 ^ 256) (hb : b < 2 ^ 256) : Pure Tryz.prog 82 #[vNb a, vNb b] (fun _ => True) (vNb (mi a b)) := fun w _ => minus_c a b ha hb w
theorem frs_c (a k : Nat) (ha : a < 2 ^ 256) (hk : k < 1000000) : Pure Tryz.prog 90 #[vNb a, .int .i64 (k : Int)] (fun _ => True) (vNb (rs a k)) := fun w _ => raise_c a k ha hk w
theorem fo_c (a : Nat) (ha : a < 2 ^ 256) : Pure Tryz.prog 91 #[vNb a] (fun _ => True) (vNb (o250 a)) := fun w _ => ones_c a ha w
theorem fca_c (a : Nat) (ha : a < 2 ^ 256) : Pure Tryz.prog 85 #[vNb a] (fun _ => True) (vNb (a % pN)) := fun w _ => canonical_c a ha w
theorem fby_c (a : Nat) (ha : a < 2 ^ 256) : Pure Tryz.prog 73 #[vNb a] (fun _ => True) ((cArr 32).val (byteN (a % pN))) := fun w _ => bytesOf_c a ha w
theorem frd_c (b : Bt) : Pure Tryz.prog 75 #[(cArr 32).val b] (fun _ => True) (vNb (lv b 32)) := fun w _ => read_c b w

set_option maxHeartbeats 8000000 in
theorem rl_c  : Pure Tryz.prog 96 #[] (fun _ => True) ((cQs 4).val (words iN)) := by
  refine pure_of (fn := Tryz.f96) Tryz.func96 rfl Tryz.ntmps96 (Nat.le_of_ble_eq_true rfl) rfl ?_
  intro w0 hH hR
  refine zr ?_
  refine zm hH (.al (cQs 4) (words 0)) trivial 0 ?_
  clear hH
  rintro _ _ w ⟨g1, rfl, rfl⟩ hH
  refine zn ?_
  refine zr ?_
  refine zv (v := ((cQs 4).val (words iN))) (fun _ _ hF => opBuildP (cells := (cQs 4).enc (words iN)) (vals := [(0, (.int .u64 14190309331451158704)), (1, (.int .u64 3405592160176694392)), (2, (.int .u64 3120150775007532967)), (3, (.int .u64 3135389899092516619))]) rfl (EvP.cons rfl (EvP.cons rfl (EvP.cons rfl (EvP.cons rfl EvP.nil)))) (by kernel_rfl) _) 0 ?_
  refine ze0 0 hH rfl (.sw (cQs 4) (words 0) (words iN)) trivial ?_
  clear hH
  rintro _ _ w rfl hH
  refine zn ?_
  refine cxRet ?_
  refine qxRetC 1 (hH.blk 0 rfl) rfl rfl (by kernel_rfl) (Cod.size _ _) (by kernel_rfl) ?_
  exact ⟨rfl, HH.toBelow hH⟩

set_option maxHeartbeats 8000000 in
theorem sm_c (a b : Nat) (ha : a < 2 ^ 256) (hb : b < 2 ^ 256) : Pure Tryz.prog 95 #[((cQs 4).val (words a)), ((cQs 4).val (words b))] (fun _ => True) (.bool (decide (a % pN = b % pN))) := by
  refine pure_of (fn := Tryz.f95) Tryz.func95 rfl Tryz.ntmps95 (Nat.le_of_ble_eq_true rfl) rfl ?_
  intro w0 hH hR
  refine zr ?_
  refine zm hH (.bx (cQs 4) (words a)) trivial 1 ?_
  clear hH
  rintro _ _ w ⟨g1, rfl, rfl⟩ hH
  refine zm hH (.bx (cQs 4) (words b)) trivial 2 ?_
  clear hH
  rintro _ _ w ⟨g2, rfl, rfl⟩ hH
  refine zv .mv 0 ?_
  refine zn ?_
  refine zx ?_
  replace hH := hH.drew
  refine rld 0 (hH.q 0 rfl) (.ld (cQs 4) (words a) (fun _ hS => (holds_blk0 hS))) 4 ?_
  refine rld 2 (hH.q 1 rfl) (.ld (cQs 4) (words b) (fun _ hS => (holds_blk0 hS))) 4 ?_
  refine rx1k 1 (rpc 1 Tryz.func85 (fca_c a ha) trivial hH 2 (.keep (pgo [] (.nil _ []))) ?_)
  clear hH
  intro w hH
  refine ⟨pcons (hH.blk 1 rfl) pnil, ?_⟩
  refine rx1k 3 (rpc 3 Tryz.func85 (fca_c b hb) trivial hH 2 (pgo [] (.nil _ [])) ?_)
  clear hH
  intro w hH
  refine ⟨pnil, ?_⟩
  refine rv 4 (v := (.bool (decide (a % pN = b % pN)))) (fun _ _ hF => opEqQs (n := 4) (e := 45) (f := (words (a % pN))) (g := (words (b % pN))) rfl (by kernel_rfl) (by kernel_rfl) (by kernel_rfl) (hF.ev 1 rfl) (hF.ev 0 rfl) (by kernel_rfl) words_pN) 3 ?_
  refine rv 5 .mv 3 ?_
  refine rn ?_
  refine cxRet ?_
  refine qxRet1 0 rfl rfl ?_
  exact ⟨rfl, HH.toBelow hH⟩

set_option maxHeartbeats 8000000 in
theorem ro_c (n : Nat) (hn : n < 2 ^ 256) : Pure Tryz.prog 81 #[((cQs 4).val (words n))] (fun _ => True) (.tuple #[vNb (rtV n), .bool (decide (rtF n))]) := by
  refine pure_of (fn := Tryz.f81) Tryz.func81 rfl Tryz.ntmps81 (Nat.le_of_ble_eq_true rfl) rfl ?_
  intro w0 hH hR
  refine zr ?_
  refine zm hH (.bx (cQs 4) (words n)) trivial 1 ?_
  clear hH
  rintro _ _ w ⟨g1, rfl, rfl⟩ hH
  refine zm hH (.al (cQs 4) (words 0)) trivial 0 ?_
  clear hH
  rintro _ _ w ⟨g2, rfl, rfl⟩ hH
  refine zv .mv 0 ?_
  refine zn ?_
  refine zx ?_
  replace hH := hH.drew
  refine rxPg 0 [ldv 0 5 [] [] [1000] fun G => ((cQs 4).val (words n)), pv 1 6 [0] [] fun G => ((cQs 4).val (words (o250 n))), pv 2 7 [1] [] fun G => ((cQs 4).val (words (rs (o250 n) 2))), ldv 3 8 [] [] [1000] fun G => ((cQs 4).val (words n)), pv 4 9 [3] [] fun G => ((cQs 4).val (words (rs n 1))), pv 5 10 [2, 4] [] fun G => ((cQs 4).val (words (rt1 n))), alv 6 4 [] [] fun G g => [bl g 103 ((cQs 4).enc (words 0))], stv 7 [5, 6] [6] 6 fun G => [bl (G 6).g 103 ((cQs 4).enc (words (rt1 n)))]] (fun G => [(4, (.pointer (some ⟨(G 6).g, 0, none⟩))), (2, (.pointer (some ⟨g2, 0, none⟩))), (1, (.pointer (some ⟨g1, 0, none⟩)))]) (fun G => [[bl g1 103 ((cQs 4).enc (words n))], [bl g2 103 ((cQs 4).enc (words 0))], [bl (G 6).g 103 ((cQs 4).enc (words (rt1 n)))]]) hH (.c (.ld (fun G _ _ hH => (hH.q 0 rfl)) fun G => (.ld (cQs 4) (words n) (fun _ hS => (holds_blk0 hS)))) <| .c (Sp.c Tryz.func91 (fun G => (fo_c n hn)) fun _ => trivial) <| .c (Sp.c Tryz.func90 (fun G => (frs_c (o250 n) 2 (o250_lt hn) (by decide))) fun _ => trivial) <| .c (.ld (fun G _ _ hH => (hH.q 0 rfl)) fun G => (.ld (cQs 4) (words n) (fun _ hS => (holds_blk0 hS)))) <| .c (Sp.c Tryz.func90 (fun G => (frs_c n 1 hn (by decide))) fun _ => trivial) <| .c (Sp.c Tryz.func74 (fun G => (ftm_c (rs (o250 n) 2) (rs n 1) (rs_lt (o250_lt hn) 2) (rs_lt hn 1))) fun _ => trivial) <| .c (.a (fun _ _ _ _ => trivial) (fun G => (.al (cQs 4) (words 0))) fun _ _ _ h => h) <| .c (.tn (fun G => (.sw (cQs 4) (words 0) (words (rt1 n)))) (fun _ _ _ _ => trivial) fun _ _ _ h => h) <| .nil) ?_
  clear hH
  rintro G w - hH
  revert hH
  generalize (G 6).g = g3
  intro hH
  refine rn ?_
  refine cxSeq ?_
  refine zx ?_
  replace hH := hH.drew
  refine rld 0 (hH.q 2 rfl) (.ld (cQs 4) (words (rt1 n)) (fun _ hS => (holds_blk0 hS))) 0 ?_
  refine rld 2 (hH.q 0 rfl) (.ld (cQs 4) (words n) (fun _ hS => (holds_blk0 hS))) 0 ?_
  refine rx1k 1 (rpc 1 Tryz.func90 (frs_c (rt1 n) 1 (rt1_lt hn) (by decide)) trivial hH 2 (.keep (pgo [] (.nil _ []))) ?_)
  clear hH
  intro w hH
  refine ⟨pcons (hH.blk 0 rfl) pnil, ?_⟩
  refine rx1k 3 (rpc 3 Tryz.func95 (sm_c (rs (rt1 n) 1) n (rs_lt (rt1_lt hn) 1) hn) trivial hH 3 (pgo [] (.nil _ [])) ?_)
  clear hH
  intro w hH
  refine ⟨pnil, ?_⟩
  refine rn ?_
  refine zP (fun hc4 => ?_) (fun hc4 => ?_)
  refine zr ?_
  refine zs (hH.q 2 rfl) (.ld (cQs 4) (words (rt1 n)) (fun _ hS => (holds_blk0 hS))) 11 ?_
  refine ze0 1 hH rfl (.sw (cQs 4) (words 0) (words (rt1 n))) trivial ?_
  clear hH
  rintro _ _ w rfl hH
  refine zv .mv 1 ?_
  refine zn ?_
  refine cxRet ?_
  refine qxThenR ?_
  refine qxRetCT 1 0 (hH.blk 1 rfl) rfl rfl rfl (by kernel_rfl) (Cod.size _ _) (by kernel_rfl) ?_
  have e1 : rtV n = rt1 n := if_pos hc4
  exact ⟨by rw [e1, decide_eq_true (show rtF n from .inl hc4)]; rfl, HH.toBelow hH⟩
  refine cxSkip ?_
  refine qxThen ?_
  refine zx ?_
  replace hH := hH.drew
  refine rld 0 (hH.q 2 rfl) (.ld (cQs 4) (words (rt1 n)) (fun _ hS => (holds_blk0 hS))) 1 ?_
  refine rx1k 1 (rpc 1 Tryz.func96 (rl_c ) trivial hH 0 (.keep (.nil _ [])) ?_)
  clear hH
  intro w hH
  refine ⟨pcons (hH.blk 2 rfl) pnil, ?_⟩
  refine rx1k 2 (rpc 2 Tryz.func74 (ftm_c (rt1 n) iN (rt1_lt hn) iN_lt) trivial hH 3 (pgo [] (.nil _ [])) ?_)
  clear hH
  intro w hH
  refine ⟨pnil, ?_⟩
  refine rx1k 3 ?_
  refine re0 3 2 hH rfl (.sw (cQs 4) (words (rt1 n)) (words (rt2 n))) trivial (.nil _ []) ?_
  clear hH
  rintro _ _ w rfl hH
  refine ⟨pnil, ?_⟩
  refine rn ?_
  refine zx ?_
  replace hH := hH.drew
  refine rld 0 (hH.q 2 rfl) (.ld (cQs 4) (words (rt2 n)) (fun _ hS => (holds_blk0 hS))) 1 ?_
  refine rld 1 (hH.q 2 rfl) (.ld (cQs 4) (words (rt2 n)) (fun _ hS => (holds_blk0 hS))) 2 ?_
  refine rld 3 (hH.q 0 rfl) (.ld (cQs 4) (words n) (fun _ hS => (holds_blk0 hS))) 8 ?_
  refine rx1k 2 (rpc 2 Tryz.func90 (frs_c (rt2 n) 1 (rt2_lt hn) (by decide)) trivial hH 2 (.keep (pgo [] (.keep (.nil _ [])))) ?_)
  clear hH
  intro w hH
  refine ⟨pcons (hH.blk 0 rfl) (pcons (hH.blk 2 rfl) pnil), ?_⟩
  refine rx1k 4 (rpc 4 Tryz.func95 (sm_c (rs (rt2 n) 1) n (rs_lt (rt2_lt hn) 1) hn) trivial hH 3 (pgo [] (.keep (.nil _ []))) ?_)
  clear hH
  intro w hH
  refine ⟨pcons (hH.blk 2 rfl) pnil, ?_⟩
  refine rx1k 5 ?_
  refine re0 5 1 hH rfl (.sw (cQs 4) (words 0) (words (rt2 n))) trivial (pgo [] (.nil _ [])) ?_
  clear hH
  rintro _ _ w rfl hH
  refine ⟨pnil, ?_⟩
  refine rv 6 .mv 3 ?_
  refine rn ?_
  refine cxRet ?_
  refine qxRetCT 1 0 (hH.blk 1 rfl) rfl rfl rfl (by kernel_rfl) (Cod.size _ _) (by kernel_rfl) ?_
  have e1 : rtV n = rt2 n := if_neg hc4
  exact ⟨by rw [e1, show decide (rtF n) = decide (rs (rt2 n) 1 % pN = n % pN) from decide_eq_decide.2 (or_iff_right hc4)]; rfl, HH.toBelow hH⟩

set_option maxHeartbeats 8000000 in
theorem fC_c (a : Bt) : Pure Tryz.prog 60 #[((cArr 32).val a)] (fun _ => True) (.bool (decide (lv a 32 < pN))) := by
  refine pure_of (fn := Tryz.f60) Tryz.func60 rfl Tryz.ntmps60 (Nat.le_of_ble_eq_true rfl) rfl ?_
  intro w0 hH hR
  refine zr ?_
  refine zm hH (.bx (cArr 32) a) trivial 1 ?_
  clear hH
  rintro _ _ w ⟨g1, rfl, rfl⟩ hH
  refine zv .mv 0 ?_
  refine zn ?_
  refine zx ?_
  replace hH := hH.drew
  refine rld 0 (hH.q 0 rfl) (.ld (cArr 32) a (fun _ hS => (holds_blk0 hS))) 0 ?_
  refine rld 3 (hH.q 0 rfl) (.ld (cArr 32) a (fun _ hS => (holds_blk0 hS))) 4 ?_
  refine rx1k 1 (rpc 1 Tryz.func75 (frd_c a) trivial hH 2 (.keep (pgo [] (.nil _ []))) ?_)
  clear hH
  intro w hH
  refine ⟨pcons (hH.blk 0 rfl) pnil, ?_⟩
  refine rx1k 2 (rpc 2 Tryz.func73 (fby_c (lv a 32) (lv_lt32 a)) trivial hH 1 (.keep (.nil _ [])) ?_)
  clear hH
  intro w hH
  refine ⟨pcons (hH.blk 0 rfl) pnil, ?_⟩
  refine rv 4 (v := (.bool (decide (lv a 32 < pN)))) (fun _ _ hF => opEqA (n := 32) (e := 5) (f := (byteN ((lv a 32) % pN))) (g := a) rfl (by kernel_rfl) (by kernel_rfl) (by kernel_rfl) (hF.ev 0 rfl) (hF.ev 1 rfl) (by kernel_rfl) (canon_iff a)) 3 ?_
  refine rv 5 .mv 3 ?_
  refine rn ?_
  refine cxRet ?_
  refine qxRet1 0 rfl rfl ?_
  exact ⟨rfl, HH.toBelow hH⟩

set_option maxHeartbeats 8000000 in
theorem fQ_c (a : Bt) : Pure Tryz.prog 61 #[((cArr 32).val a)] (fun _ => True) (.tuple #[(cArr 32).val (sqX a), .int .i64 (sqE a : Int)]) := by
  refine pure_of (fn := Tryz.f61) Tryz.func61 rfl Tryz.ntmps61 (Nat.le_of_ble_eq_true rfl) rfl ?_
  intro w0 hH hR
  refine zr ?_
  refine zm hH (.bx (cArr 32) a) trivial 1 ?_
  clear hH
  rintro _ _ w ⟨g1, rfl, rfl⟩ hH
  refine zm hH (.al (cArr 32) (fun _ => 0)) trivial 0 ?_
  clear hH
  rintro _ _ w ⟨g2, rfl, rfl⟩ hH
  refine zv .mv 0 ?_
  refine zn ?_
  refine zr ?_
  refine zs (hH.q 0 rfl) (.ld (cArr 32) a (fun _ hS => (holds_blk0 hS))) 5 ?_
  refine zc Tryz.func75 (frd_c a) trivial hH 1 ?_
  clear hH
  intro w hH
  refine zm hH (.al (cQs 4) (words 0)) trivial 0 ?_
  clear hH
  rintro _ _ w ⟨g3, rfl, rfl⟩ hH
  refine ze0 2 hH rfl (.sw (cQs 4) (words 0) (words (lv a 32))) trivial ?_
  clear hH
  rintro _ _ w rfl hH
  refine zn ?_
  refine zr ?_
  refine zs (hH.q 2 rfl) (.ld (cQs 4) (words (lv a 32)) (fun _ hS => (holds_blk0 hS))) 3 ?_
  refine zc Tryz.func81 (ro_c (lv a 32) (lv_lt32 a)) trivial hH 1 ?_
  clear hH
  intro w hH
  refine zv .mv 1 ?_
  refine zv .ext 0 ?_
  refine zv .ext 2 ?_
  refine zm hH (.al (cQs 4) (words 0)) trivial 0 ?_
  clear hH
  rintro _ _ w ⟨g4, rfl, rfl⟩ hH
  refine ze0 3 hH rfl (.sw (cQs 4) (words 0) (words (rtV (lv a 32)))) trivial ?_
  clear hH
  rintro _ _ w rfl hH
  refine zv .mv 6 ?_
  refine zn ?_
  refine cxSeq ?_
  refine zr ?_
  refine zv .mv 1 ?_
  refine zv (v := (.bool (decide (¬ (rtF (lv a 32)))))) (fun _ _ hF => opNot rfl (hF.ev 0 rfl) decide_not.symm) 1 ?_
  refine zn ?_
  refine zP (fun hc5 => ?_) (fun hc5 => ?_)
  refine zr ?_
  refine zv (v := ((cArr 32).val (fun _ => 0))) (fun _ _ hF => opBuildP (cells := (cArr 32).enc (fun _ => 0)) (vals := []) rfl EvP.nil (by kernel_rfl) _) 3 ?_
  refine ze0 1 hH rfl (.sw (cArr 32) (fun _ => 0) (fun _ => 0)) trivial ?_
  clear hH
  rintro _ _ w rfl hH
  refine zv .mv 1 ?_
  refine zn ?_
  refine cxRet ?_
  refine qxThenR ?_
  refine qxRetCT 1 0 (hH.blk 1 rfl) rfl rfl rfl (by kernel_rfl) (Cod.size _ _) (by kernel_rfl) ?_
  have h1 : ¬ rtF (lv a 32) := hc5
  exact ⟨by rw [show sqX a = fun _ => 0 from if_neg h1, show sqE a = 3 from if_neg h1]; rfl, HH.toBelow hH⟩
  refine cxSkip ?_
  refine qxThen ?_
  refine zr ?_
  refine zs (hH.q 3 rfl) (.ld (cQs 4) (words (rtV (lv a 32))) (fun _ hS => (holds_blk0 hS))) 1 ?_
  refine zc Tryz.func73 (fby_c (rtV (lv a 32)) (rtV_lt (lv_lt32 a))) trivial hH 1 ?_
  clear hH
  intro w hH
  refine zm hH (.al (cArr 32) (fun _ => 0)) trivial 0 ?_
  clear hH
  rintro _ _ w ⟨g6, rfl, rfl⟩ hH
  refine ze0 4 hH rfl (.sw (cArr 32) (fun _ => 0) (byteN ((rtV (lv a 32)) % pN))) trivial ?_
  clear hH
  rintro _ _ w rfl hH
  refine zn ?_
  refine cxSeq ?_
  refine zr ?_
  have hi7 : 0 < 32 := by omega
  refine zv (.ia 1 32 0 (hi := hi7)) 2 ?_
  refine zs (hH.q 4 rfl) (.ld cByte ((byteN ((rtV (lv a 32)) % pN)) 0) (fun _ hS => ((holds_blk0 hS).elt hi7))) 1 ?_
  refine zv (.ab (((byteN ((rtV (lv a 32)) % pN)) 0) &&& (1 : UInt8)) (u := ((byteN ((rtV (lv a 32)) % pN)) 0)) (v := (1 : UInt8))) 1 ?_
  refine zv (.eq ((((byteN ((rtV (lv a 32)) % pN)) 0) &&& (1 : UInt8)).toNat = 1)) 1 ?_
  refine zn ?_
  refine zP (fun hc8 => ?_) (fun hc8 => ?_)
  refine cxReg ?_
  refine zv (v := ((cQs 4).val (words 0))) (fun _ _ hF => opBuildP (cells := (cQs 4).enc (words 0)) (vals := []) rfl EvP.nil (by kernel_rfl) _) 1 ?_
  refine zs (hH.q 3 rfl) (.ld (cQs 4) (words (rtV (lv a 32))) (fun _ hS => (holds_blk0 hS))) 4 ?_
  refine zc Tryz.func82 (fmi_c 0 (rtV (lv a 32)) (by decide) (rtV_lt (lv_lt32 a))) trivial hH 3 ?_
  clear hH
  intro w hH
  refine zc Tryz.func73 (fby_c (mi 0 (rtV (lv a 32))) (mi_facts 0 _ (by decide) (rtV_lt (lv_lt32 a))).2.1) trivial hH 1 ?_
  clear hH
  intro w hH
  refine ze0 4 hH rfl (.sw (cArr 32) (byteN ((rtV (lv a 32)) % pN)) (byteN ((mi 0 (rtV (lv a 32))) % pN))) trivial ?_
  clear hH
  rintro _ _ w rfl hH
  refine zn ?_
  refine zr ?_
  refine zs (hH.q 4 rfl) (.ld (cArr 32) (byteN ((mi 0 (rtV (lv a 32))) % pN)) (fun _ hS => (holds_blk0 hS))) 3 ?_
  refine ze0 1 hH rfl (.sw (cArr 32) (fun _ => 0) (byteN ((mi 0 (rtV (lv a 32))) % pN))) trivial ?_
  clear hH
  rintro _ _ w rfl hH
  refine zv .mv 1 ?_
  refine zn ?_
  refine cxRet ?_
  refine qxRetCT 1 0 (hH.blk 1 rfl) rfl rfl rfl (by kernel_rfl) (Cod.size _ _) (by kernel_rfl) ?_
  have h2 : rtF (lv a 32) := Decidable.of_not_not hc5
  have e1 : sqX a = byteN (mi 0 (rtV (lv a 32)) % pN) := (if_pos h2).trans (if_pos hc8)
  exact ⟨by rw [e1, show sqE a = 0 from if_pos h2]; rfl, HH.toBelow hH⟩
  refine cxSkip ?_
  refine qxThen ?_
  refine zr ?_
  refine zs (hH.q 4 rfl) (.ld (cArr 32) (byteN ((rtV (lv a 32)) % pN)) (fun _ hS => (holds_blk0 hS))) 7 ?_
  refine ze0 1 hH rfl (.sw (cArr 32) (fun _ => 0) (byteN ((rtV (lv a 32)) % pN))) trivial ?_
  clear hH
  rintro _ _ w rfl hH
  refine zv .mv 1 ?_
  refine zn ?_
  refine cxRet ?_
  refine qxRetCT 1 0 (hH.blk 1 rfl) rfl rfl rfl (by kernel_rfl) (Cod.size _ _) (by kernel_rfl) ?_
  have h2 : rtF (lv a 32) := Decidable.of_not_not hc5
  have e1 : sqX a = byteN (rtV (lv a 32) % pN) := (if_pos h2).trans (if_neg hc8)
  exact ⟨by rw [e1, show sqE a = 0 from if_pos h2]; rfl, HH.toBelow hH⟩
end Go.Proofs.YtbbegnfopdihaaaGreatDoor

namespace Go.Proofs.YtbbegnfopdihaaaGreatDoor
open Go Go.RowKit
set_option maxRecDepth 100000

set_option maxHeartbeats 8000000 in
theorem sqAt_c (y : Bt) : Pure Tryz.prog 62 #[((cArr 32).val y)] (fun _ => True) ((cArr 32).val (sqAt y)) := by
  refine pure_of (fn := Tryz.f62) Tryz.func62 rfl Tryz.ntmps62 (Nat.le_of_ble_eq_true rfl) rfl ?_
  intro w0 hH hR
  refine zr ?_
  refine zm hH (.bx (cArr 32) y) trivial 1 ?_
  clear hH
  rintro _ _ w ⟨g1, rfl, rfl⟩ hH
  refine zm hH (.al (cArr 32) (fun _ => 0)) trivial 0 ?_
  clear hH
  rintro _ _ w ⟨g2, rfl, rfl⟩ hH
  refine zn ?_
  refine zr ?_
  refine zs (hH.q 0 rfl) (.ld (cArr 32) y (fun _ hS => (holds_blk0 hS))) 0 ?_
  refine zs (hH.q 0 rfl) (.ld (cArr 32) y (fun _ hS => (holds_blk0 hS))) 4 ?_
  refine zc Tryz.func54 (fM_c y y) trivial hH 3 ?_
  clear hH
  intro w hH
  refine zm hH (.al (cArr 32) (fun _ => 0)) trivial 0 ?_
  clear hH
  rintro _ _ w ⟨g3, rfl, rfl⟩ hH
  refine ze0 2 hH rfl (.sw (cArr 32) (fun _ => 0) (fM y y)) trivial ?_
  clear hH
  rintro _ _ w rfl hH
  refine zn ?_
  refine zx ?_
  replace hH := hH.drew
  refine rld 0 (hH.q 2 rfl) (.ld (cArr 32) (fM y y) (fun _ hS => (holds_blk0 hS))) 2 ?_
  refine rld 4 (hH.q 2 rfl) (.ld (cArr 32) (fM y y) (fun _ hS => (holds_blk0 hS))) 2 ?_
  refine rx1k 1 (rpc 1 Tryz.func65 (one_c ) trivial hH 0 (.keep (.keep (.nil _ []))) ?_)
  clear hH
  intro w hH
  refine ⟨pcons (hH.blk 2 rfl) (pcons (hH.blk 2 rfl) pnil), ?_⟩
  refine rx1k 2 (rpc 2 Tryz.func63 (fS_c (fM y y) oneB) trivial hH 5 (.keep (pgo [] (.nil _ []))) ?_)
  clear hH
  intro w hH
  refine ⟨pcons (hH.blk 2 rfl) pnil, ?_⟩
  refine rx1k 3 (rpc 3 Tryz.func69 (dB_c ) trivial hH 0 (.keep (.nil _ [])) ?_)
  clear hH
  intro w hH
  refine ⟨pcons (hH.blk 2 rfl) pnil, ?_⟩
  refine rx1k 5 (rpc 5 Tryz.func54 (fM_c dB (fM y y)) trivial hH 5 (pgo [] (.nil _ [])) ?_)
  clear hH
  intro w hH
  refine ⟨pnil, ?_⟩
  refine rx1k 6 (rpc 6 Tryz.func65 (one_c ) trivial hH 0 (.nil _ []) ?_)
  clear hH
  intro w hH
  refine ⟨pnil, ?_⟩
  refine rx1k 7 (rpc 7 Tryz.func70 (fA_c (fM dB (fM y y)) oneB) trivial hH 3 (.nil _ []) ?_)
  clear hH
  intro w hH
  refine ⟨pnil, ?_⟩
  refine rx1k 8 (rpc 8 Tryz.func55 (fI_c (fA (fM dB (fM y y)) oneB)) trivial hH 1 (.nil _ []) ?_)
  clear hH
  intro w hH
  refine ⟨pnil, ?_⟩
  refine rx1k 9 (rpc 9 Tryz.func54 (fM_c (fS (fM y y) oneB) (fI (fA (fM dB (fM y y)) oneB))) trivial hH 3 (.nil _ []) ?_)
  clear hH
  intro w hH
  refine ⟨pnil, ?_⟩
  refine rx1k 10 ?_
  refine re0 10 1 hH rfl (.sw (cArr 32) (fun _ => 0) (fM (fS (fM y y) oneB) (fI (fA (fM dB (fM y y)) oneB)))) trivial (.nil _ []) ?_
  clear hH
  rintro _ _ w rfl hH
  refine ⟨pnil, ?_⟩
  refine rn ?_
  refine cxRet ?_
  refine qxRetC 1 (hH.blk 1 rfl) rfl rfl (by kernel_rfl) (Cod.size _ _) (by kernel_rfl) ?_
  exact ⟨rfl, HH.toBelow hH⟩

set_option maxHeartbeats 8000000 in
theorem bOf_c (a : Bt × Bt × Bt × Bt) : Pure Tryz.prog 48 #[(cPl.val a)] (fun _ => True) ((cArr 32).val (bOf a)) := by
  refine pure_of (fn := Tryz.f48) Tryz.func48 rfl Tryz.ntmps48 (Nat.le_of_ble_eq_true rfl) rfl ?_
  intro w0 hH hR
  refine zr ?_
  refine zm hH (.bx cPl a) trivial 1 ?_
  clear hH
  rintro _ _ w ⟨g1, rfl, rfl⟩ hH
  refine zm hH (.al (cArr 32) (fun _ => 0)) trivial 0 ?_
  clear hH
  rintro _ _ w ⟨g2, rfl, rfl⟩ hH
  refine zn ?_
  refine zr ?_
  refine zv (.fld 64) 0 ?_
  refine zs (hH.q 0 rfl) (.ld (cArr 32) a.2.2.1 (fun _ hS => (((holds_blk0 hS).snd).snd).fst)) 1 ?_
  refine zc Tryz.func55 (fI_c a.2.2.1) trivial hH 1 ?_
  clear hH
  intro w hH
  refine zm hH (.al (cArr 32) (fun _ => 0)) trivial 0 ?_
  clear hH
  rintro _ _ w ⟨g3, rfl, rfl⟩ hH
  refine ze0 2 hH rfl (.sw (cArr 32) (fun _ => 0) (fI a.2.2.1)) trivial ?_
  clear hH
  rintro _ _ w rfl hH
  refine zn ?_
  refine zx ?_
  replace hH := hH.drew
  refine rxPg 0 [pv 0 9 [] [] fun G => (.pointer (some ⟨g1, 0, none⟩)), ldv 1 10 [0] [] [1000] fun G => ((cArr 32).val a.1), ldv 2 11 [] [] [1002] fun G => ((cArr 32).val (fI a.2.2.1)), pv 3 12 [1, 2] [] fun G => ((cArr 32).val (fM a.1 (fI a.2.2.1))), pv 4 13 [] [] fun G => (.pointer (some ⟨g1, 32, none⟩)), ldv 5 14 [4] [] [1000] fun G => ((cArr 32).val a.2.1), ldv 6 15 [] [] [1002] fun G => ((cArr 32).val (fI a.2.2.1)), pv 7 16 [5, 6] [] fun G => ((cArr 32).val (fM a.2.1 (fI a.2.2.1))), alv 8 4 [] [] fun G g => [bl g 23 ((cArr 32).enc (fun _ => 0))], alv 9 5 [] [] fun G g => [bl g 23 ((cArr 32).enc (fun _ => 0))], stv 10 [3, 8] [8] 8 fun G => [bl (G 8).g 23 ((cArr 32).enc (fM a.1 (fI a.2.2.1)))], stv 11 [7, 9] [9] 9 fun G => [bl (G 9).g 23 ((cArr 32).enc (fM a.2.1 (fI a.2.2.1)))]] (fun G => [(4, (.pointer (some ⟨(G 8).g, 0, none⟩))), (5, (.pointer (some ⟨(G 9).g, 0, none⟩))), (2, (.pointer (some ⟨g2, 0, none⟩)))]) (fun G => [[bl g1 81 (cPl.enc a)], [bl g2 23 ((cArr 32).enc (fun _ => 0))], [bl g3 23 ((cArr 32).enc (fI a.2.2.1))], [bl (G 8).g 23 ((cArr 32).enc (fM a.1 (fI a.2.2.1)))], [bl (G 9).g 23 ((cArr 32).enc (fM a.2.1 (fI a.2.2.1)))]]) hH (.c (.v fun G => (.fld 0)) <| .c (.ld (fun G _ _ hH => (hH.q 0 rfl)) fun G => (.ld (cArr 32) a.1 (fun _ hS => (holds_blk0 hS).fst))) <| .c (.ld (fun G _ _ hH => (hH.q 0 rfl)) fun G => (.ld (cArr 32) (fI a.2.2.1) (fun _ hS => (holds_blk0 hS)))) <| .c (Sp.c Tryz.func54 (fun G => (fM_c a.1 (fI a.2.2.1))) fun _ => trivial) <| .c (.v fun G => (.fld 32)) <| .c (.ld (fun G _ _ hH => (hH.q 0 rfl)) fun G => (.ld (cArr 32) a.2.1 (fun _ hS => ((holds_blk0 hS).snd).fst))) <| .c (.ld (fun G _ _ hH => (hH.q 0 rfl)) fun G => (.ld (cArr 32) (fI a.2.2.1) (fun _ hS => (holds_blk0 hS)))) <| .c (Sp.c Tryz.func54 (fun G => (fM_c a.2.1 (fI a.2.2.1))) fun _ => trivial) <| .c (.a (fun _ _ _ _ => trivial) (fun G => (.al (cArr 32) (fun _ => 0))) fun _ _ _ h => h) <| .c (.a (fun _ _ _ _ => trivial) (fun G => (.al (cArr 32) (fun _ => 0))) fun _ _ _ h => h) <| .c (.tn (fun G => (.sw (cArr 32) (fun _ => 0) (fM a.1 (fI a.2.2.1)))) (fun _ _ _ _ => trivial) fun _ _ _ h => h) <| .c (.tn (fun G => (.sw (cArr 32) (fun _ => 0) (fM a.2.1 (fI a.2.2.1)))) (fun _ _ _ _ => trivial) fun _ _ _ h => h) <| .nil) ?_
  clear hH
  rintro G w - hH
  revert hH
  generalize (G 8).g = g4
  generalize (G 9).g = g5
  intro hH
  refine rn ?_
  refine zr ?_
  have hi6 : 31 < 32 := by omega
  refine zv (.ia 1 32 31 (hi := hi6)) 0 ?_
  refine zs (hH.q 4 rfl) (.ld cByte ((fM a.2.1 (fI a.2.2.1)) 31) (fun _ hS => ((holds_blk0 hS).elt hi6))) 1 ?_
  have hi7 : 0 < 32 := by omega
  refine zv (.ia 1 32 0 (hi := hi7)) 2 ?_
  refine zs (hH.q 3 rfl) (.ld cByte ((fM a.1 (fI a.2.2.1)) 0) (fun _ hS => ((holds_blk0 hS).elt hi7))) 1 ?_
  refine zv (.lb 7 (u := ((fM a.1 (fI a.2.2.1)) 0))) 1 ?_
  refine zv (.ob (((fM a.2.1 (fI a.2.2.1)) 31) ||| (sl8 ((fM a.1 (fI a.2.2.1)) 0) 7)) (u := ((fM a.2.1 (fI a.2.2.1)) 31)) (v := (sl8 ((fM a.1 (fI a.2.2.1)) 0) 7))) 3 ?_
  have hi8 : 31 < 32 := by omega
  refine zv (.ia 1 32 31 (hi := hi8)) 0 ?_
  refine ze0 4 hH rfl (.st cByte (((fM a.2.1 (fI a.2.2.1)) 31) ||| (sl8 ((fM a.1 (fI a.2.2.1)) 0) 7)) (room_1 (S := sBy) (C := (cArr 32)) rfl hi8) (arr_set0 (fM a.2.1 (fI a.2.2.1)) (((fM a.2.1 (fI a.2.2.1)) 31) ||| (sl8 ((fM a.1 (fI a.2.2.1)) 0) 7)) hi8)) trivial ?_
  clear hH
  rintro _ _ w rfl hH
  refine zn ?_
  refine zr ?_
  refine zs (hH.q 4 rfl) (.ld (cArr 32) (stF (fM a.2.1 (fI a.2.2.1)) 31 (((fM a.2.1 (fI a.2.2.1)) 31) ||| (sl8 ((fM a.1 (fI a.2.2.1)) 0) 7))) (fun _ hS => (holds_blk0 hS))) 7 ?_
  refine ze0 1 hH rfl (.sw (cArr 32) (fun _ => 0) (stF (fM a.2.1 (fI a.2.2.1)) 31 (((fM a.2.1 (fI a.2.2.1)) 31) ||| (sl8 ((fM a.1 (fI a.2.2.1)) 0) 7)))) trivial ?_
  clear hH
  rintro _ _ w rfl hH
  refine zn ?_
  refine cxRet ?_
  refine qxRetC 1 (hH.blk 1 rfl) rfl rfl (by kernel_rfl) (Cod.size _ _) (by kernel_rfl) ?_
  exact ⟨rfl, HH.toBelow hH⟩

set_option maxHeartbeats 8000000 in
theorem stIf_c (t : UInt8) (b : Bt × Bt × Bt) : Pure Tryz.prog 68 #[(.int .u8 (((t.toNat) : Nat) : Int)), (cSt.val b)] (fun _ => True) (cSt.val (stIf t b)) := by
  refine pure_of (fn := Tryz.f68) Tryz.func68 rfl Tryz.ntmps68 (Nat.le_of_ble_eq_true rfl) rfl ?_
  intro w0 hH hR
  refine zr ?_
  refine zm hH (.bx cSt b) trivial 2 ?_
  clear hH
  rintro _ _ w ⟨g1, rfl, rfl⟩ hH
  refine zm hH (.al cSt (fun _ => 0, fun _ => 0, fun _ => 0)) trivial 0 ?_
  clear hH
  rintro _ _ w ⟨g2, rfl, rfl⟩ hH
  refine zn ?_
  refine zr ?_
  refine zv .mv 0 ?_
  refine zv (.gb (u := t)) 1 ?_
  refine zv .mv 1 ?_
  refine zn ?_
  refine cxSeq ?_
  replace hH : HH w0 [] [[bl g1 84 (cSt.enc ((mk8 (-t) 0 b.1), (mk8 (-t) 0 b.2.1), (mk8 (-t) 0 b.2.2)))], [bl g2 84 (cSt.enc (fun _ => 0, fun _ => 0, fun _ => 0))]] w := by simp only [mk8_0]; exact hH
  refine zr ?_
  refine zv .mv 0 ?_
  refine zn ?_
  refine cxBlock ?_
  refine zL1 (fun (i : Nat) => [(9, (.int .i64 (((i) : Nat) : Int))), (5, (.int .u8 ((((-t).toNat) : Nat) : Int))), (4, (.pointer (some ⟨g2, 0, none⟩))), (3, (.pointer (some ⟨g1, 0, none⟩))), (0, (.int .u8 (((t.toNat) : Nat) : Int)))]) (fun i w => HH w0 [] [[bl g1 84 (cSt.enc ((mk8 (-t) i b.1), (mk8 (-t) i b.2.1), (mk8 (-t) i b.2.2)))], [bl g2 84 (cSt.enc (fun _ => 0, fun _ => 0, fun _ => 0))]] w ∧ (i ≤ 32)) (fun i => 32 - i) 0 ⟨hH, (Nat.zero_le _)⟩ ?_
  clear hH
  rintro i w ⟨hH, hi⟩
  refine zr ?_
  refine zv (.lt (i < 32)) 0 ?_
  refine zn ?_
  refine cxSeq ?_
  refine zP (fun hc3 => ?_) (fun hc3 => ?_)
  refine cxSkip ?_
  refine qxThen ?_
  refine cxSeq ?_
  refine cxBlock ?_
  refine zr ?_
  refine zv .mv 1 ?_
  refine zv .mv 1 ?_
  refine zn ?_
  refine zr ?_
  refine zv .mv 0 ?_
  refine zv (.fld 0) 0 ?_
  have hi4 : i < 32 := by omega
  refine zv (.ia 1 32 i (hi := hi4)) 1 ?_
  refine zs (hH.q 0 rfl) (.ld cByte ((mk8 (-t) i b.1) i) (fun _ hS => ((holds_blk0 hS).fst.elt hi4))) 1 ?_
  refine zv .mv 0 ?_
  refine zv (.ab (((mk8 (-t) i b.1) i) &&& (-t)) (u := ((mk8 (-t) i b.1) i)) (v := (-t))) 3 ?_
  refine zv (.fld 0) 0 ?_
  have hi5 : i < 32 := by omega
  refine zv (.ia 1 32 i (hi := hi5)) 5 ?_
  refine ze0 0 hH rfl (.st cByte (((mk8 (-t) i b.1) i) &&& (-t)) (by rw [Cod.size]; show 0 + i * 1 + 1 ≤ 96; omega) (put_fst (arr_set0 (mk8 (-t) i b.1) (((mk8 (-t) i b.1) i) &&& (-t)) hi5) (by show 0 + i * 1 + 1 ≤ 32; omega))) trivial ?_
  clear hH
  rintro _ _ w rfl hH
  refine zn ?_
  replace hH : HH w0 [] [[bl g1 84 (cSt.enc ((mk8 (-t) (i + 1) b.1), (mk8 (-t) i b.2.1), (mk8 (-t) i b.2.2)))], [bl g2 84 (cSt.enc (fun _ => 0, fun _ => 0, fun _ => 0))]] w := by rw [mk8_succ] at hH; exact hH
  refine zr ?_
  refine zv .mv 3 ?_
  refine zv (.fld 32) 0 ?_
  have hi6 : i < 32 := by omega
  refine zv (.ia 1 32 i (hi := hi6)) 1 ?_
  refine zs (hH.q 0 rfl) (.ld cByte ((mk8 (-t) i b.2.1) i) (fun _ hS => (((holds_blk0 hS).snd).fst.elt hi6))) 1 ?_
  refine zv .mv 0 ?_
  refine zv (.ab (((mk8 (-t) i b.2.1) i) &&& (-t)) (u := ((mk8 (-t) i b.2.1) i)) (v := (-t))) 3 ?_
  refine zv (.fld 32) 0 ?_
  have hi7 : i < 32 := by omega
  refine zv (.ia 1 32 i (hi := hi7)) 5 ?_
  refine ze0 0 hH rfl (.st cByte (((mk8 (-t) i b.2.1) i) &&& (-t)) (by rw [Cod.size]; show 32 + i * 1 + 1 ≤ 96; omega) (put_snA (a := 32) (o := 32 + i * 1) (put_fst (arr_set0 (mk8 (-t) i b.2.1) (((mk8 (-t) i b.2.1) i) &&& (-t)) hi7) (by show 0 + i * 1 + 1 ≤ 32; omega)) (by omega))) trivial ?_
  clear hH
  rintro _ _ w rfl hH
  refine zn ?_
  replace hH : HH w0 [] [[bl g1 84 (cSt.enc ((mk8 (-t) (i + 1) b.1), (mk8 (-t) (i + 1) b.2.1), (mk8 (-t) i b.2.2)))], [bl g2 84 (cSt.enc (fun _ => 0, fun _ => 0, fun _ => 0))]] w := by rw [mk8_succ] at hH; exact hH
  refine cxReg ?_
  refine zv .mv 7 ?_
  refine zv (.fld 64) 0 ?_
  have hi8 : i < 32 := by omega
  refine zv (.ia 1 32 i (hi := hi8)) 1 ?_
  refine zs (hH.q 0 rfl) (.ld cByte ((mk8 (-t) i b.2.2) i) (fun _ hS => (((holds_blk0 hS).snd).snd.elt hi8))) 1 ?_
  refine zv .mv 0 ?_
  refine zv (.ab (((mk8 (-t) i b.2.2) i) &&& (-t)) (u := ((mk8 (-t) i b.2.2) i)) (v := (-t))) 3 ?_
  refine zv (.fld 64) 0 ?_
  have hi9 : i < 32 := by omega
  refine zv (.ia 1 32 i (hi := hi9)) 5 ?_
  refine ze0 0 hH rfl (.st cByte (((mk8 (-t) i b.2.2) i) &&& (-t)) (by rw [Cod.size]; show 64 + i * 1 + 1 ≤ 96; omega) (put_snA (a := 32) (o := 64 + i * 1) (put_snA (a := 32) (o := 32 + i * 1) (arr_set0 (mk8 (-t) i b.2.2) (((mk8 (-t) i b.2.2) i) &&& (-t)) hi9) (by omega)) (by omega))) trivial ?_
  clear hH
  rintro _ _ w rfl hH
  refine pxEnd ?_
  refine qxInN ?_
  refine qxThen ?_
  replace hH : HH w0 [] [[bl g1 84 (cSt.enc ((mk8 (-t) (i + 1) b.1), (mk8 (-t) (i + 1) b.2.1), (mk8 (-t) (i + 1) b.2.2)))], [bl g2 84 (cSt.enc (fun _ => 0, fun _ => 0, fun _ => 0))]] w := by rw [mk8_succ] at hH; exact hH
  refine cxReg ?_
  refine zv (.add ((i + 1 : Nat) : Int)) 7 ?_
  refine zv .mv 1 ?_
  refine pxEnd ?_
  exact zR1 (i + 1) ⟨hH, (by omega)⟩ (by omega)
  refine cxExit ?_
  refine qxThenE ?_
  refine qxThenE ?_
  refine qxInE ?_
  refine qxThen ?_
  obtain rfl : i = 32 := by omega
  refine zr ?_
  refine zv (.fld 0) 7 ?_
  have hi10 : 0 < 32 := by omega
  refine zv (.ia 1 32 0 (hi := hi10)) 1 ?_
  refine zs (hH.q 0 rfl) (.ld cByte ((mk8 (-t) 32 b.1) 0) (fun _ hS => ((holds_blk0 hS).fst.elt hi10))) 1 ?_
  refine zv .mv 0 ?_
  refine zv (.mb ((1 : UInt8) - t) (u := (1 : UInt8)) (v := t)) 1 ?_
  refine zv (.ob (((mk8 (-t) 32 b.1) 0) ||| ((1 : UInt8) - t)) (u := ((mk8 (-t) 32 b.1) 0)) (v := ((1 : UInt8) - t))) 3 ?_
  refine zv (.fld 0) 0 ?_
  have hi11 : 0 < 32 := by omega
  refine zv (.ia 1 32 0 (hi := hi11)) 1 ?_
  refine ze0 0 hH rfl (.st cByte (((mk8 (-t) 32 b.1) 0) ||| ((1 : UInt8) - t)) (by rw [Cod.size]; show 0 + 0 * 1 + 1 ≤ 96; omega) (put_fst (arr_set0 (mk8 (-t) 32 b.1) (((mk8 (-t) 32 b.1) 0) ||| ((1 : UInt8) - t)) hi11) (by show 0 + 0 * 1 + 1 ≤ 32; omega))) trivial ?_
  clear hH
  rintro _ _ w rfl hH
  refine zn ?_
  refine zr ?_
  refine zv (.fld 32) 3 ?_
  have hi12 : 0 < 32 := by omega
  refine zv (.ia 1 32 0 (hi := hi12)) 1 ?_
  refine zs (hH.q 0 rfl) (.ld cByte ((mk8 (-t) 32 b.2.1) 0) (fun _ hS => (((holds_blk0 hS).snd).fst.elt hi12))) 1 ?_
  refine zv .mv 8 ?_
  refine zv (.mb ((1 : UInt8) - t) (u := (1 : UInt8)) (v := t)) 1 ?_
  refine zv (.ob (((mk8 (-t) 32 b.2.1) 0) ||| ((1 : UInt8) - t)) (u := ((mk8 (-t) 32 b.2.1) 0)) (v := ((1 : UInt8) - t))) 3 ?_
  refine zv (.fld 32) 0 ?_
  have hi13 : 0 < 32 := by omega
  refine zv (.ia 1 32 0 (hi := hi13)) 1 ?_
  refine ze0 0 hH rfl (.st cByte (((mk8 (-t) 32 b.2.1) 0) ||| ((1 : UInt8) - t)) (by rw [Cod.size]; show 32 + 0 * 1 + 1 ≤ 96; omega) (put_snA (a := 32) (o := 32 + 0 * 1) (put_fst (arr_set0 (mk8 (-t) 32 b.2.1) (((mk8 (-t) 32 b.2.1) 0) ||| ((1 : UInt8) - t)) hi13) (by show 0 + 0 * 1 + 1 ≤ 32; omega)) (by omega))) trivial ?_
  clear hH
  rintro _ _ w rfl hH
  refine zn ?_
  refine zr ?_
  refine zs (hH.q 0 rfl) (.ld cSt ((stF (mk8 (-t) 32 b.1) 0 (((mk8 (-t) 32 b.1) 0) ||| ((1 : UInt8) - t))), (stF (mk8 (-t) 32 b.2.1) 0 (((mk8 (-t) 32 b.2.1) 0) ||| ((1 : UInt8) - t))), (mk8 (-t) 32 b.2.2)) (fun _ hS => (holds_blk0 hS))) 11 ?_
  refine ze0 1 hH rfl (.sw cSt (fun _ => 0, fun _ => 0, fun _ => 0) ((stF (mk8 (-t) 32 b.1) 0 (((mk8 (-t) 32 b.1) 0) ||| ((1 : UInt8) - t))), (stF (mk8 (-t) 32 b.2.1) 0 (((mk8 (-t) 32 b.2.1) 0) ||| ((1 : UInt8) - t))), (mk8 (-t) 32 b.2.2))) trivial ?_
  clear hH
  rintro _ _ w rfl hH
  refine zn ?_
  refine cxRet ?_
  refine qxRetC 1 (hH.blk 1 rfl) rfl rfl (by kernel_rfl) (Cod.size _ _) (by kernel_rfl) ?_
  exact ⟨rfl, HH.toBelow hH⟩

set_option maxHeartbeats 8000000 in
theorem tms_c (n : Bt) (b : Bt × Bt × Bt) : Pure Tryz.prog 49 #[((cArr 32).val n), (cSt.val b)] (fun _ => True) (cPl.val (tms n b)) := by
  refine pure_of (fn := Tryz.f49) Tryz.func49 rfl Tryz.ntmps49 (Nat.le_of_ble_eq_true rfl) rfl ?_
  intro w0 hH hR
  refine zr ?_
  refine zm hH (.bx (cArr 32) n) trivial 1 ?_
  clear hH
  rintro _ _ w ⟨g1, rfl, rfl⟩ hH
  refine zm hH (.bx cSt b) trivial 2 ?_
  clear hH
  rintro _ _ w ⟨g2, rfl, rfl⟩ hH
  refine zm hH (.al cPl (fun _ => 0, fun _ => 0, fun _ => 0, fun _ => 0)) trivial 0 ?_
  clear hH
  rintro _ _ w ⟨g3, rfl, rfl⟩ hH
  refine zn ?_
  refine zr ?_
  refine zc Tryz.func65 (one_c ) trivial hH 0 ?_
  clear hH
  intro w hH
  refine zv (v := (cPr.val (fun _ => 0, oneB))) (fun _ _ hF => opBuildP (cells := cPr.enc (fun _ => 0, oneB)) (vals := [(1, ((cArr 32).val oneB))]) rfl (EvP.cons (v := ((cArr 32).val oneB)) (hF.ev 0 rfl) EvP.nil) (by kernel_rfl) _) 1 ?_
  refine zc Tryz.func64 (plOf_c (fun _ => 0, oneB)) trivial hH 1 ?_
  clear hH
  intro w hH
  refine zm hH (.al cPl (fun _ => 0, fun _ => 0, fun _ => 0, fun _ => 0)) trivial 0 ?_
  clear hH
  rintro _ _ w ⟨g4, rfl, rfl⟩ hH
  refine ze0 3 hH rfl (.sw cPl (fun _ => 0, fun _ => 0, fun _ => 0, fun _ => 0) (plOf (fun _ => 0, oneB))) trivial ?_
  clear hH
  rintro _ _ w rfl hH
  refine zn ?_
  refine cxSeq ?_
  replace hH : HH w0 [] [[bl g1 23 ((cArr 32).enc n)], [bl g2 84 (cSt.enc b)], [bl g3 81 (cPl.enc (fun _ => 0, fun _ => 0, fun _ => 0, fun _ => 0))], [bl g4 81 (cPl.enc (tmsTo n b 0))]] w := by rw [show (tmsTo n b 0) = plOf (fun _ => 0, oneB) from rfl]; exact hH
  refine zr ?_
  refine zv .mv 2 ?_
  refine zn ?_
  refine cxBlock ?_
  refine zL1 (fun (k : Nat) => [(6, (.int .i64 (255 - (k : Int)))), (5, (.pointer (some ⟨g4, 0, none⟩))), (4, (.pointer (some ⟨g3, 0, none⟩))), (3, (.pointer (some ⟨g2, 0, none⟩))), (2, (.pointer (some ⟨g1, 0, none⟩)))]) (fun k w => HH w0 [] [[bl g1 23 ((cArr 32).enc n)], [bl g2 84 (cSt.enc b)], [bl g3 81 (cPl.enc (fun _ => 0, fun _ => 0, fun _ => 0, fun _ => 0))], [bl g4 81 (cPl.enc (tmsTo n b k))]] w ∧ (k ≤ 256)) (fun k => 256 - k) 0 ⟨hH, (Nat.zero_le _)⟩ ?_
  clear hH
  rintro k w ⟨hH, hk⟩
  refine cxSeq ?_
  refine zr ?_
  refine zv .mv 0 ?_
  refine zv (v := (.bool (decide ((255 - (k : Int)) ≥ 0)))) (fun _ _ hF => opGeq rfl (hF.ev 0 rfl) rfl rfl) 1 ?_
  refine zn ?_
  refine zP (fun hc5 => ?_) (fun hc5 => ?_)
  refine cxSkip ?_
  refine qxThen ?_
  refine cxSeq ?_
  refine cxBlock ?_
  rw [show (255 : Int) - (k : Int) = ((255 - k : Nat) : Int) by omega]
  refine zr ?_
  refine zv .mv 1 ?_
  refine zv (v := (.int .i64 ((((255 - k) / 8) : Nat) : Int))) (fun _ _ hF => opQuo (z := (((255 - k) / 8 : Nat) : Int)) rfl (hF.ev 0 rfl) rfl (by omega) (wI quoN (by omega) (by omega))) 1 ?_
  have hi6 : (255 - k) / 8 < 32 := by omega
  refine zv (.ia 1 32 ((255 - k) / 8) (hi := hi6)) 1 ?_
  refine zs (hH.q 0 rfl) (.ld cByte (n ((255 - k) / 8)) (fun _ hS => ((holds_blk0 hS).elt hi6))) 1 ?_
  refine zv .mv 0 ?_
  refine zv (v := (.int .i64 ((((255 - k) % 8) : Nat) : Int))) (fun _ _ hF => opRem (z := (((255 - k) % 8 : Nat) : Int)) rfl (hF.ev 0 rfl) rfl (by omega) remN) 1 ?_
  refine zv (.rb ((255 - k) % 8) (u := (n ((255 - k) / 8)))) 3 ?_
  refine zv (.ab ((sr8 (n ((255 - k) / 8)) ((255 - k) % 8)) &&& (1 : UInt8)) (u := (sr8 (n ((255 - k) / 8)) ((255 - k) % 8))) (v := (1 : UInt8))) 1 ?_
  refine zv .mv 1 ?_
  refine zn ?_
  refine cxRegX mixedOrders (by kernel_rfl) ?_
  replace hH := hH.drew
  refine rld 0 (hH.q 3 rfl) (.ld cPl (tmsTo n b k) (fun _ hS => (holds_blk0 hS))) 0 ?_
  refine rv 2 .mv 2 ?_
  refine rld 3 (hH.q 1 rfl) (.ld cSt b (fun _ hS => (holds_blk0 hS))) 0 ?_
  refine rx1k 1 (rpc 1 Tryz.func67 (ptD_c (tmsTo n b k)) trivial hH 4 (.keep (pgo [] (.nil _ []))) ?_)
  clear hH
  intro w hH
  refine ⟨pcons (hH.blk 1 rfl) pnil, ?_⟩
  refine rx1k 4 (rpc 4 Tryz.func68 (stIf_c ((sr8 (n ((255 - k) / 8)) ((255 - k) % 8)) &&& (1 : UInt8)) b) trivial hH 6 (pgo [] (.nil _ [])) ?_)
  clear hH
  intro w hH
  refine ⟨pnil, ?_⟩
  refine rx1k 5 (rpc 5 Tryz.func66 (ptA_c (ptD (tmsTo n b k)) (stIf ((sr8 (n ((255 - k) / 8)) ((255 - k) % 8)) &&& (1 : UInt8)) b)) trivial hH 3 (.nil _ []) ?_)
  clear hH
  intro w hH
  refine ⟨pnil, ?_⟩
  refine rx1k 6 ?_
  refine re0 6 3 hH rfl (.sw cPl (tmsTo n b k) (ptA (ptD (tmsTo n b k)) (stIf ((sr8 (n ((255 - k) / 8)) ((255 - k) % 8)) &&& (1 : UInt8)) b))) trivial (.nil _ []) ?_
  clear hH
  rintro _ _ w rfl hH
  refine ⟨pnil, ?_⟩
  refine rxEnd (by kernel_rfl) ?_
  refine qxInN ?_
  refine qxThen ?_
  replace hH : HH w0 [] [[bl g1 23 ((cArr 32).enc n)], [bl g2 84 (cSt.enc b)], [bl g3 81 (cPl.enc (fun _ => 0, fun _ => 0, fun _ => 0, fun _ => 0))], [bl g4 81 (cPl.enc (tmsTo n b (k + 1)))]] w := by rw [show (tmsTo n b (k + 1)) = ptA (ptD (tmsTo n b k)) (stIf (bitB n (255 - k)) b) from rfl]; exact hH
  rw [show ((255 - k : Nat) : Int) = (255 : Int) - (k : Int) by omega]
  refine cxReg ?_
  refine zv .mv 3 ?_
  refine zv (.sub (255 - ((k + 1 : Nat) : Int))) 1 ?_
  refine zv .mv 1 ?_
  refine pxEnd ?_
  exact zR1 (k + 1) ⟨hH, (by omega)⟩ (by omega)
  refine cxExit ?_
  refine qxThenE ?_
  refine qxThenE ?_
  refine qxInE ?_
  refine qxThen ?_
  obtain rfl : k = 256 := by omega
  replace hH : HH w0 [] [[bl g1 23 ((cArr 32).enc n)], [bl g2 84 (cSt.enc b)], [bl g3 81 (cPl.enc (fun _ => 0, fun _ => 0, fun _ => 0, fun _ => 0))], [bl g4 81 (cPl.enc (tms n b))]] w := by rw [show (tms n b) = tmsTo n b 256 from rfl]; exact hH
  refine zr ?_
  refine zs (hH.q 3 rfl) (.ld cPl (tms n b) (fun _ hS => (holds_blk0 hS))) 55 ?_
  refine ze0 2 hH rfl (.sw cPl (fun _ => 0, fun _ => 0, fun _ => 0, fun _ => 0) (tms n b)) trivial ?_
  clear hH
  rintro _ _ w rfl hH
  refine zn ?_
  refine cxRet ?_
  refine qxRetC 1 (hH.blk 2 rfl) rfl rfl (by kernel_rfl) (Cod.size _ _) (by kernel_rfl) ?_
  exact ⟨rfl, HH.toBelow hH⟩

set_option maxHeartbeats 8000000 in
theorem gen_c  : Pure Tryz.prog 38 #[] (fun _ => True) ((cArr 32).val genB) := by
  refine pure_of (fn := Tryz.f38) Tryz.func38 rfl Tryz.ntmps38 (Nat.le_of_ble_eq_true rfl) rfl ?_
  intro w0 hH hR
  refine zr ?_
  refine zm hH (.al (cArr 32) (fun _ => 0)) trivial 0 ?_
  clear hH
  rintro _ _ w ⟨g1, rfl, rfl⟩ hH
  refine zn ?_
  refine zr ?_
  refine zm hH (.al (cArr 32) (fun _ => 0)) trivial 0 ?_
  clear hH
  rintro _ _ w ⟨g2, rfl, rfl⟩ hH
  refine zn ?_
  refine cxSeq ?_
  replace hH : HH w0 [] [[bl g1 23 ((cArr 32).enc (fun _ => 0))], [bl g2 23 ((cArr 32).enc (genTo 0))]] w := hH
  refine zr ?_
  refine zv .mv 0 ?_
  refine zn ?_
  refine cxBlock ?_
  refine zL1 (fun (i : Nat) => [(3, (.int .i64 (((i) : Nat) : Int))), (1, (.pointer (some ⟨g2, 0, none⟩))), (0, (.pointer (some ⟨g1, 0, none⟩)))]) (fun i w => HH w0 [] [[bl g1 23 ((cArr 32).enc (fun _ => 0))], [bl g2 23 ((cArr 32).enc (genTo i))]] w ∧ (i ≤ 32)) (fun i => 32 - i) 0 ⟨hH, (Nat.zero_le _)⟩ ?_
  clear hH
  rintro i w ⟨hH, hi⟩
  refine zr ?_
  refine zv (.lt (i < 32)) 0 ?_
  refine zn ?_
  refine cxSeq ?_
  refine zP (fun hc3 => ?_) (fun hc3 => ?_)
  refine cxSkip ?_
  refine qxThen ?_
  refine cxSeq ?_
  refine cxBlock ?_
  refine zr ?_
  refine zv .mv 1 ?_
  refine zv .mv 1 ?_
  refine zn ?_
  refine cxReg ?_
  refine zv .mv 1 ?_
  have hi4 : i < 32 := by omega
  refine zv (.ia 1 32 i (hi := hi4)) 1 ?_
  refine ze0 1 hH rfl (.st cByte 102 (room_1 (S := sBy) (C := (cArr 32)) rfl hi4) (arr_set0 (genTo i) 102 hi4)) trivial ?_
  clear hH
  rintro _ _ w rfl hH
  refine pxEnd ?_
  refine qxInN ?_
  refine qxThen ?_
  refine cxReg ?_
  refine zv (.add ((i + 1 : Nat) : Int)) 3 ?_
  refine zv .mv 1 ?_
  refine pxEnd ?_
  replace hH : HH w0 [] [[bl g1 23 ((cArr 32).enc (fun _ => 0))], [bl g2 23 ((cArr 32).enc (genTo (i + 1)))]] w := by rw [genTo_succ] at hH; exact hH
  exact zR1 (i + 1) ⟨hH, (by omega)⟩ (by omega)
  refine cxExit ?_
  refine qxThenE ?_
  refine qxThenE ?_
  refine qxInE ?_
  refine qxThen ?_
  obtain rfl : i = 32 := by omega
  refine zr ?_
  have hi5 : 0 < 32 := by omega
  refine zv (.ia 1 32 0 (hi := hi5)) 3 ?_
  refine ze0 1 hH rfl (.st cByte 88 (room_1 (S := sBy) (C := (cArr 32)) rfl hi5) (arr_set0 (genTo 32) 88 hi5)) trivial ?_
  clear hH
  rintro _ _ w rfl hH
  refine zn ?_
  refine zr ?_
  refine zs (hH.q 1 rfl) (.ld (cArr 32) (stF (genTo 32) 0 88) (fun _ hS => (holds_blk0 hS))) 3 ?_
  refine ze0 0 hH rfl (.sw (cArr 32) (fun _ => 0) (stF (genTo 32) 0 88)) trivial ?_
  clear hH
  rintro _ _ w rfl hH
  refine zn ?_
  refine cxRet ?_
  refine qxRetC 1 (hH.blk 0 rfl) rfl rfl (by kernel_rfl) (Cod.size _ _) (by kernel_rfl) ?_
  exact ⟨rfl, HH.toBelow hH⟩

theorem gen_q {q : Bt} (hq : q = genB) : Pure Tryz.prog 38 #[] (fun _ => True) ((cArr 32).val q) := hq ▸ gen_c

set_option maxHeartbeats 8000000 in
theorem rd_c (p : Bt) : Pure Tryz.prog 47 #[((cArr 32).val p)] (fun _ => True) (.tuple #[cPr.val (rd p).1, .int .i64 ((rd p).2 : Int)]) := by
  refine pure_of (fn := Tryz.f47) Tryz.func47 rfl Tryz.ntmps47 (Nat.le_of_ble_eq_true rfl) rfl ?_
  intro w0 hH hR
  refine zr ?_
  refine zm hH (.bx (cArr 32) p) trivial 1 ?_
  clear hH
  rintro _ _ w ⟨g1, rfl, rfl⟩ hH
  refine zm hH (.al cPr (fun _ => 0, fun _ => 0)) trivial 0 ?_
  clear hH
  rintro _ _ w ⟨g2, rfl, rfl⟩ hH
  refine zv .mv 0 ?_
  refine zn ?_
  refine zr ?_
  have hi3 : 31 < 32 := by omega
  refine zv (.ia 1 32 31 (hi := hi3)) 1 ?_
  refine zs (hH.q 0 rfl) (.ld cByte (p 31) (fun _ hS => ((holds_blk0 hS).elt hi3))) 1 ?_
  refine zv (.ab ((p 31) &&& (128 : UInt8)) (u := (p 31)) (v := (128 : UInt8))) 1 ?_
  refine zv (.ne (((p 31) &&& (128 : UInt8)).toNat ≠ 0)) 1 ?_
  refine zv .mv 1 ?_
  refine zn ?_
  refine zr ?_
  refine zs (hH.q 0 rfl) (.ld (cArr 32) p (fun _ hS => (holds_blk0 hS))) 4 ?_
  refine zm hH (.al (cArr 32) (fun _ => 0)) trivial 0 ?_
  clear hH
  rintro _ _ w ⟨g4, rfl, rfl⟩ hH
  refine ze0 2 hH rfl (.sw (cArr 32) (fun _ => 0) p) trivial ?_
  clear hH
  rintro _ _ w rfl hH
  refine zn ?_
  refine zr ?_
  have hi5 : 31 < 32 := by omega
  refine zv (.ia 1 32 31 (hi := hi5)) 2 ?_
  refine zs (hH.q 2 rfl) (.ld cByte (p 31) (fun _ hS => ((holds_blk0 hS).elt hi5))) 1 ?_
  refine zv (.nb ((p 31) &&& ~~~(128 : UInt8)) (u := (p 31)) (v := (128 : UInt8))) 1 ?_
  have hi6 : 31 < 32 := by omega
  refine zv (.ia 1 32 31 (hi := hi6)) 0 ?_
  refine ze0 2 hH rfl (.st cByte ((p 31) &&& ~~~(128 : UInt8)) (room_1 (S := sBy) (C := (cArr 32)) rfl hi6) (arr_set0 p ((p 31) &&& ~~~(128 : UInt8)) hi6)) trivial ?_
  clear hH
  rintro _ _ w rfl hH
  refine zn ?_
  refine cxSeq ?_
  refine zr ?_
  refine zs (hH.q 2 rfl) (.ld (cArr 32) (stF p 31 ((p 31) &&& ~~~(128 : UInt8))) (fun _ hS => (holds_blk0 hS))) 3 ?_
  refine zc Tryz.func60 (fC_c (stF p 31 ((p 31) &&& ~~~(128 : UInt8)))) trivial hH 1 ?_
  clear hH
  intro w hH
  refine zv (v := (.bool (decide (¬ (lv (stF p 31 ((p 31) &&& ~~~(128 : UInt8))) 32 < pN))))) (fun _ _ hF => opNot rfl (hF.ev 0 rfl) decide_not.symm) 1 ?_
  refine zn ?_
  refine zP (fun hc7 => ?_) (fun hc7 => ?_)
  refine zr ?_
  refine zv (v := (cPr.val z2)) (fun _ _ hF => opBuildP (cells := cPr.enc z2) (vals := []) rfl EvP.nil (by kernel_rfl) _) 7 ?_
  refine ze0 1 hH rfl (.sw cPr (fun _ => 0, fun _ => 0) z2) trivial ?_
  clear hH
  rintro _ _ w rfl hH
  refine zv .mv 1 ?_
  refine zn ?_
  refine cxRet ?_
  refine qxThenR ?_
  refine qxRetCT 1 0 (hH.blk 1 rfl) rfl rfl rfl (by kernel_rfl) (Cod.size _ _) (by kernel_rfl) ?_
  have e1 := (show rd p = _ from if_neg hc7)
  exact ⟨by rw [e1]; rfl, HH.toBelow hH⟩
  refine cxSkip ?_
  refine qxThen ?_
  refine zr ?_
  refine zs (hH.q 2 rfl) (.ld (cArr 32) (stF p 31 ((p 31) &&& ~~~(128 : UInt8))) (fun _ hS => (holds_blk0 hS))) 1 ?_
  refine zc Tryz.func62 (sqAt_c (stF p 31 ((p 31) &&& ~~~(128 : UInt8)))) trivial hH 1 ?_
  clear hH
  intro w hH
  refine zc Tryz.func61 (fQ_c (sqAt (stF p 31 ((p 31) &&& ~~~(128 : UInt8))))) trivial hH 1 ?_
  clear hH
  intro w hH
  refine zv .mv 1 ?_
  refine zv .ext 0 ?_
  refine zv .ext 2 ?_
  refine zm hH (.al (cArr 32) (fun _ => 0)) trivial 0 ?_
  clear hH
  rintro _ _ w ⟨g8, rfl, rfl⟩ hH
  refine ze0 3 hH rfl (.sw (cArr 32) (fun _ => 0) (sqX (sqAt (stF p 31 ((p 31) &&& ~~~(128 : UInt8)))))) trivial ?_
  clear hH
  rintro _ _ w rfl hH
  refine zv .mv 6 ?_
  refine zn ?_
  refine cxSeq ?_
  refine zr ?_
  refine zv .mv 1 ?_
  refine zv (.ne (sqE (sqAt (stF p 31 ((p 31) &&& ~~~(128 : UInt8)))) ≠ 0)) 1 ?_
  refine zn ?_
  refine zP (fun hc9 => ?_) (fun hc9 => ?_)
  refine zr ?_
  refine zv (v := (cPr.val z2)) (fun _ _ hF => opBuildP (cells := cPr.enc z2) (vals := []) rfl EvP.nil (by kernel_rfl) _) 15 ?_
  refine ze0 1 hH rfl (.sw cPr (fun _ => 0, fun _ => 0) z2) trivial ?_
  clear hH
  rintro _ _ w rfl hH
  refine zv .mv 1 ?_
  refine zn ?_
  refine cxRet ?_
  refine qxThenR ?_
  refine qxRetCT 1 0 (hH.blk 1 rfl) rfl rfl rfl (by kernel_rfl) (Cod.size _ _) (by kernel_rfl) ?_
  have e1 := (show rd p = _ from (if_pos (Decidable.of_not_not hc7)).trans (if_pos hc9))
  exact ⟨by rw [e1]; rfl, HH.toBelow hH⟩
  refine cxSkip ?_
  refine qxThen ?_
  refine cxSeq ?_
  refine zr ?_
  refine zv .mv 9 ?_
  refine zv (v := (.bool (decide (¬ (((p 31) &&& (128 : UInt8)).toNat ≠ 0))))) (fun _ _ hF => opNot rfl (hF.ev 0 rfl) decide_not.symm) 1 ?_
  refine zn ?_
  refine zP (fun hc10 => ?_) (fun hc10 => ?_)
  refine zr ?_
  refine zs (hH.q 3 rfl) (.ld (cArr 32) (sqX (sqAt (stF p 31 ((p 31) &&& ~~~(128 : UInt8))))) (fun _ hS => (holds_blk0 hS))) 3 ?_
  refine zs (hH.q 2 rfl) (.ld (cArr 32) (stF p 31 ((p 31) &&& ~~~(128 : UInt8))) (fun _ hS => (holds_blk0 hS))) 2 ?_
  refine zv (v := (cPr.val ((sqX (sqAt (stF p 31 ((p 31) &&& ~~~(128 : UInt8))))), (stF p 31 ((p 31) &&& ~~~(128 : UInt8)))))) (fun _ _ hF => opBuildP (cells := cPr.enc ((sqX (sqAt (stF p 31 ((p 31) &&& ~~~(128 : UInt8))))), (stF p 31 ((p 31) &&& ~~~(128 : UInt8))))) rfl (EvP.cons (v := ((cArr 32).val (sqX (sqAt (stF p 31 ((p 31) &&& ~~~(128 : UInt8))))))) (hF.ev 1 rfl) (EvP.cons (v := ((cArr 32).val (stF p 31 ((p 31) &&& ~~~(128 : UInt8))))) (hF.ev 0 rfl) EvP.nil)) (built_pair (x := (((sqX (sqAt (stF p 31 ((p 31) &&& ~~~(128 : UInt8))))), (stF p 31 ((p 31) &&& ~~~(128 : UInt8)))) : Bt × Bt)) (by kernel_rfl) rfl rfl) _) 3 ?_
  refine ze0 1 hH rfl (.sw cPr (fun _ => 0, fun _ => 0) ((sqX (sqAt (stF p 31 ((p 31) &&& ~~~(128 : UInt8))))), (stF p 31 ((p 31) &&& ~~~(128 : UInt8))))) trivial ?_
  clear hH
  rintro _ _ w rfl hH
  refine zv .mv 1 ?_
  refine zn ?_
  refine cxRet ?_
  refine qxThenR ?_
  refine qxRetCT 1 0 (hH.blk 1 rfl) rfl rfl rfl (by kernel_rfl) (Cod.size _ _) (by kernel_rfl) ?_
  have e1 := (show rd p = _ from (if_pos (Decidable.of_not_not hc7)).trans ((if_neg hc9).trans (if_neg hc10)))
  exact ⟨by rw [e1]; rfl, HH.toBelow hH⟩
  refine cxSkip ?_
  refine qxThen ?_
  refine cxSeq ?_
  refine zr ?_
  refine zs (hH.q 3 rfl) (.ld (cArr 32) (sqX (sqAt (stF p 31 ((p 31) &&& ~~~(128 : UInt8))))) (fun _ hS => (holds_blk0 hS))) 1 ?_
  refine zv (v := ((cArr 32).val (fun _ => 0))) (fun _ _ hF => opBuildP (cells := (cArr 32).enc (fun _ => 0)) (vals := []) rfl EvP.nil (by kernel_rfl) _) 0 ?_
  refine zv (v := (.bool (decide (lst 32 (sqX (sqAt (stF p 31 ((p 31) &&& ~~~(128 : UInt8))))) = lst 32 (fun _ => 0))))) (fun _ _ hF => opEqA (n := 32) (e := 5) (f := (sqX (sqAt (stF p 31 ((p 31) &&& ~~~(128 : UInt8)))))) (g := (fun _ => 0)) rfl (by kernel_rfl) (by kernel_rfl) (by kernel_rfl) (hF.ev 1 rfl) (hF.ev 0 rfl) (by kernel_rfl) Iff.rfl) 3 ?_
  refine zn ?_
  refine zP (fun hc11 => ?_) (fun hc11 => ?_)
  refine zr ?_
  refine zv (v := (cPr.val z2)) (fun _ _ hF => opBuildP (cells := cPr.enc z2) (vals := []) rfl EvP.nil (by kernel_rfl) _) 7 ?_
  refine ze0 1 hH rfl (.sw cPr (fun _ => 0, fun _ => 0) z2) trivial ?_
  clear hH
  rintro _ _ w rfl hH
  refine zv .mv 1 ?_
  refine zn ?_
  refine cxRet ?_
  refine qxThenR ?_
  refine qxRetCT 1 0 (hH.blk 1 rfl) rfl rfl rfl (by kernel_rfl) (Cod.size _ _) (by kernel_rfl) ?_
  have e1 := (show rd p = _ from (if_pos (Decidable.of_not_not hc7)).trans ((if_neg hc9).trans ((if_pos (Decidable.of_not_not hc10)).trans (if_pos hc11))))
  exact ⟨by rw [e1]; rfl, HH.toBelow hH⟩
  refine cxSkip ?_
  refine qxThen ?_
  refine zx ?_
  replace hH := hH.drew
  refine rv 0 (v := ((cArr 32).val (fun _ => 0))) (fun _ _ hF => opBuildP (cells := (cArr 32).enc (fun _ => 0)) (vals := []) rfl EvP.nil (by kernel_rfl) _) 1 ?_
  refine rld 1 (hH.q 3 rfl) (.ld (cArr 32) (sqX (sqAt (stF p 31 ((p 31) &&& ~~~(128 : UInt8))))) (fun _ hS => (holds_blk0 hS))) 2 ?_
  refine rld 3 (hH.q 2 rfl) (.ld (cArr 32) (stF p 31 ((p 31) &&& ~~~(128 : UInt8))) (fun _ hS => (holds_blk0 hS))) 4 ?_
  refine rx1k 2 (rpc 2 Tryz.func63 (fS_c (fun _ => 0) (sqX (sqAt (stF p 31 ((p 31) &&& ~~~(128 : UInt8)))))) trivial hH 6 (.keep (pgo [] (.nil _ []))) ?_)
  clear hH
  intro w hH
  refine ⟨pcons (hH.blk 2 rfl) pnil, ?_⟩
  refine rv 4 (v := (cPr.val ((fS (fun _ => 0) (sqX (sqAt (stF p 31 ((p 31) &&& ~~~(128 : UInt8)))))), (stF p 31 ((p 31) &&& ~~~(128 : UInt8)))))) (fun _ _ hF => opBuildP (cells := cPr.enc ((fS (fun _ => 0) (sqX (sqAt (stF p 31 ((p 31) &&& ~~~(128 : UInt8)))))), (stF p 31 ((p 31) &&& ~~~(128 : UInt8))))) rfl (EvP.cons (v := ((cArr 32).val (fS (fun _ => 0) (sqX (sqAt (stF p 31 ((p 31) &&& ~~~(128 : UInt8)))))))) (hF.ev 0 rfl) (EvP.cons (v := ((cArr 32).val (stF p 31 ((p 31) &&& ~~~(128 : UInt8))))) (hF.ev 1 rfl) EvP.nil)) (built_pair (x := (((fS (fun _ => 0) (sqX (sqAt (stF p 31 ((p 31) &&& ~~~(128 : UInt8)))))), (stF p 31 ((p 31) &&& ~~~(128 : UInt8)))) : Bt × Bt)) (by kernel_rfl) rfl rfl) _) 3 ?_
  refine rx1k 5 ?_
  refine re0 5 1 hH rfl (.sw cPr (fun _ => 0, fun _ => 0) ((fS (fun _ => 0) (sqX (sqAt (stF p 31 ((p 31) &&& ~~~(128 : UInt8)))))), (stF p 31 ((p 31) &&& ~~~(128 : UInt8))))) trivial (pgo [] (.nil _ [])) ?_
  clear hH
  rintro _ _ w rfl hH
  refine ⟨pnil, ?_⟩
  refine rv 6 .mv 1 ?_
  refine rn ?_
  refine cxRet ?_
  refine qxRetCT 1 0 (hH.blk 1 rfl) rfl rfl rfl (by kernel_rfl) (Cod.size _ _) (by kernel_rfl) ?_
  have e1 := (show rd p = _ from (if_pos (Decidable.of_not_not hc7)).trans ((if_neg hc9).trans ((if_pos (Decidable.of_not_not hc10)).trans (if_neg hc11))))
  exact ⟨by rw [e1]; rfl, HH.toBelow hH⟩

set_option maxHeartbeats 8000000 in
theorem ptMul_c (n p : Bt) : Pure Tryz.prog 37 #[((cArr 32).val n), ((cArr 32).val p)] (fun _ => True) (.tuple #[(cArr 32).val (ptMul n p), .int .i64 ((rd p).2 : Int)]) := by
  refine pure_of (fn := Tryz.f37) Tryz.func37 rfl Tryz.ntmps37 (Nat.le_of_ble_eq_true rfl) rfl ?_
  intro w0 hH hR
  refine zr ?_
  refine zm hH (.bx (cArr 32) n) trivial 1 ?_
  clear hH
  rintro _ _ w ⟨g1, rfl, rfl⟩ hH
  refine zm hH (.bx (cArr 32) p) trivial 2 ?_
  clear hH
  rintro _ _ w ⟨g2, rfl, rfl⟩ hH
  refine zm hH (.al (cArr 32) (fun _ => 0)) trivial 0 ?_
  clear hH
  rintro _ _ w ⟨g3, rfl, rfl⟩ hH
  refine zv .mv 0 ?_
  refine zn ?_
  refine zr ?_
  refine zs (hH.q 1 rfl) (.ld (cArr 32) p (fun _ hS => (holds_blk0 hS))) 5 ?_
  refine zc Tryz.func47 (rd_c p) trivial hH 1 ?_
  clear hH
  intro w hH
  refine zv .mv 1 ?_
  refine zv .ext 0 ?_
  refine zv .ext 2 ?_
  refine zm hH (.al cPr (fun _ => 0, fun _ => 0)) trivial 0 ?_
  clear hH
  rintro _ _ w ⟨g4, rfl, rfl⟩ hH
  refine ze0 3 hH rfl (.sw cPr (fun _ => 0, fun _ => 0) ((rd p).1)) trivial ?_
  clear hH
  rintro _ _ w rfl hH
  refine zv .mv 6 ?_
  refine zn ?_
  refine cxSeq ?_
  refine zr ?_
  refine zv .mv 0 ?_
  refine zv (.ne ((rd p).2 ≠ 0)) 1 ?_
  refine zn ?_
  refine zP (fun hc5 => ?_) (fun hc5 => ?_)
  refine zr ?_
  refine zv (v := ((cArr 32).val (fun _ => 0))) (fun _ _ hF => opBuildP (cells := (cArr 32).enc (fun _ => 0)) (vals := []) rfl EvP.nil (by kernel_rfl) _) 21 ?_
  refine zv .mv 2 ?_
  refine ze0 2 hH rfl (.sw (cArr 32) (fun _ => 0) (fun _ => 0)) trivial ?_
  clear hH
  rintro _ _ w rfl hH
  refine zv .mv 3 ?_
  refine zn ?_
  refine cxRet ?_
  refine qxThenR ?_
  refine qxRetCT 1 0 (hH.blk 2 rfl) rfl rfl rfl (by kernel_rfl) (Cod.size _ _) (by kernel_rfl) ?_
  exact ⟨by rw [show ptMul n p = fun _ => 0 from if_pos hc5]; rfl, HH.toBelow hH⟩
  refine cxSkip ?_
  refine qxThen ?_
  refine zx ?_
  replace hH := hH.drew
  refine rld 0 (hH.q 0 rfl) (.ld (cArr 32) n (fun _ hS => (holds_blk0 hS))) 19 ?_
  refine rld 1 (hH.q 3 rfl) (.ld cPr ((rd p).1) (fun _ hS => (holds_blk0 hS))) 2 ?_
  refine rx1k 2 (rpc 2 Tryz.func50 (stOf_c ((rd p).1)) trivial hH 1 (pgo [] (.keep (.nil _ []))) ?_)
  clear hH
  intro w hH
  refine ⟨pcons (hH.blk 0 rfl) pnil, ?_⟩
  refine rx1k 3 (rpc 3 Tryz.func49 (tms_c n (stOf ((rd p).1))) trivial hH 3 (pgo [] (.nil _ [])) ?_)
  clear hH
  intro w hH
  refine ⟨pnil, ?_⟩
  refine rx1k 4 (rpc 4 Tryz.func48 (bOf_c (tms n (stOf ((rd p).1)))) trivial hH 1 (.nil _ []) ?_)
  clear hH
  intro w hH
  refine ⟨pnil, ?_⟩
  refine rx1k 5 ?_
  refine re0 5 2 hH rfl (.sw (cArr 32) (fun _ => 0) (bOf (tms n (stOf ((rd p).1))))) trivial (.nil _ []) ?_
  clear hH
  rintro _ _ w rfl hH
  refine ⟨pnil, ?_⟩
  refine rv 6 .mv 1 ?_
  refine rn ?_
  refine cxRet ?_
  refine qxRetCT 1 0 (hH.blk 2 rfl) rfl rfl rfl (by kernel_rfl) (Cod.size _ _) (by kernel_rfl) ?_
  have e2 : (rd p).2 = 0 := Decidable.of_not_not hc5
  exact ⟨by rw [show ptMul n p = bOf (tms n (stOf (rd p).1)) from if_neg hc5, e2]; rfl, HH.toBelow hH⟩

set_option maxHeartbeats 8000000 in
theorem ptBase_q (n q : Bt) (hq : q = genB) : Pure Tryz.prog 31 #[((cArr 32).val n)] (fun _ => True) ((cArr 32).val (ptMul n q)) := by
  refine pure_of (fn := Tryz.f31) Tryz.func31 rfl Tryz.ntmps31 (Nat.le_of_ble_eq_true rfl) rfl ?_
  intro w0 hH hR
  refine zr ?_
  refine zm hH (.bx (cArr 32) n) trivial 1 ?_
  clear hH
  rintro _ _ w ⟨g1, rfl, rfl⟩ hH
  refine zm hH (.al (cArr 32) (fun _ => 0)) trivial 0 ?_
  clear hH
  rintro _ _ w ⟨g2, rfl, rfl⟩ hH
  refine zn ?_
  refine zx ?_
  replace hH := hH.drew
  refine rxPg 0 [ldv 0 6 [] [] [1000] fun G => ((cArr 32).val n), pv 1 7 [] [] fun G => ((cArr 32).val q), pv 2 8 [0, 1] [] fun G => (.tuple #[((cArr 32).val (ptMul n q)), (.int .i64 ((((rd q).2) : Nat) : Int))]), pv 3 5 [2] [] fun G => (.tuple #[((cArr 32).val (ptMul n q)), (.int .i64 ((((rd q).2) : Nat) : Int))]), pv 4 9 [3] [] fun G => ((cArr 32).val (ptMul n q)), pv 5 10 [3] [] fun G => (.int .i64 ((((rd q).2) : Nat) : Int)), alv 6 3 [] [] fun G g => [bl g 23 ((cArr 32).enc (fun _ => 0))], stv 7 [4, 6] [6] 6 fun G => [bl (G 6).g 23 ((cArr 32).enc (ptMul n q))], pv 8 4 [5] [] fun G => (.int .i64 ((((rd q).2) : Nat) : Int))] (fun G => [(3, (.pointer (some ⟨(G 6).g, 0, none⟩))), (2, (.pointer (some ⟨g2, 0, none⟩)))]) (fun G => [[bl g1 23 ((cArr 32).enc n)], [bl g2 23 ((cArr 32).enc (fun _ => 0))], [bl (G 6).g 23 ((cArr 32).enc (ptMul n q))]]) hH (.c (.ld (fun G _ _ hH => (hH.q 0 rfl)) fun G => (.ld (cArr 32) n (fun _ hS => (holds_blk0 hS)))) <| .c (Sp.c Tryz.func38 (fun G => ((gen_q hq) )) fun _ => trivial) <| .c (Sp.c Tryz.func37 (fun G => (ptMul_c n q)) fun _ => trivial) <| .c (.v fun G => .mv) <| .c (.v fun G => .ext) <| .c (.v fun G => .ext) <| .c (.a (fun _ _ _ _ => trivial) (fun G => (.al (cArr 32) (fun _ => 0))) fun _ _ _ h => h) <| .c (.tn (fun G => (.sw (cArr 32) (fun _ => 0) (ptMul n q))) (fun _ _ _ _ => trivial) fun _ _ _ h => h) <| .c (.v fun G => .mv) <| .nil) ?_
  clear hH
  rintro G w - hH
  revert hH
  generalize (G 6).g = g3
  intro hH
  refine rn ?_
  refine zr ?_
  refine zs (hH.q 2 rfl) (.ld (cArr 32) (ptMul n q) (fun _ hS => (holds_blk0 hS))) 1 ?_
  refine ze0 1 hH rfl (.sw (cArr 32) (fun _ => 0) (ptMul n q)) trivial ?_
  clear hH
  rintro _ _ w rfl hH
  refine zn ?_
  refine cxRet ?_
  refine qxRetC 1 (hH.blk 1 rfl) rfl rfl (by kernel_rfl) (Cod.size _ _) (by kernel_rfl) ?_
  exact ⟨rfl, HH.toBelow hH⟩

theorem ptBase_c (n : Bt) : Pure Tryz.prog 31 #[(cArr 32).val n] (fun _ => True) ((cArr 32).val (ptBase n)) := ptBase_q n _ rfl
end Go.Proofs.YtbbegnfopdihaaaGreatDoor

namespace Go.Proofs.YtbbegnfopdihaaaGreatDoor
open Go Go.RowKit
set_option maxRecDepth 100000

set_option maxHeartbeats 8000000 in
theorem rotlq_c (x : UInt64) (n : Nat) (h0 : 0 < n) (h64 : n < 64) : Pure Tryz.prog 102 #[(.int .u64 (((x.toNat) : Nat) : Int)), (.int .i64 (-(n : Int)))] (fun _ => True) (.int .u64 ((((rr64 x n).toNat) : Nat) : Int)) := by
  refine pure_of (fn := Tryz.f102) Tryz.func102 rfl Tryz.ntmps102 (Nat.le_of_ble_eq_true rfl) rfl ?_
  intro w0 hH hR
  refine zr ?_
  refine zv .mv 0 ?_
  refine zn ?_
  refine zr ?_
  refine zv .mv 5 ?_
  refine zv (v := (.int .u64 (((18446744073709551616 - n) : Nat) : Int))) (fun _ _ hF => opConvI (k' := .u64) rfl (by kernel_rfl) (by kernel_rfl) (hF.ev 0 rfl) (wrap_neg64 h0 (by omega))) 1 ?_
  refine zv (v := (.int .u64 (((64 - n) : Nat) : Int))) (fun _ _ hF => opAndU (m := 18446744073709551616 - n) (j := 63) (z := (64 - n)) rfl rfl (hF.ev 0 rfl) rfl (by show _ < 18446744073709551616; omega) (by decide) (by rw [show (63 : Nat) = 2 ^ 6 - 1 from rfl, and_mask]; omega)) 1 ?_
  refine zv .mv 1 ?_
  refine zn ?_
  refine zr ?_
  refine zv .mv 0 ?_
  refine zv .mv 0 ?_
  refine zv (.lq (64 - n)) 3 ?_
  refine zv .mv 4 ?_
  refine zv .mv 4 ?_
  refine zv (v := (.int .u64 (((n) : Nat) : Int))) (fun _ _ hF => opSubU (m := 64) (j := 64 - n) (z := n) rfl rfl rfl (hF.ev 0 rfl) (by show 64 - n ≤ 18446744073709551616; omega) (by show (64 + (18446744073709551616 - (64 - n))) % 18446744073709551616 = _; omega)) 1 ?_
  refine zv (.rq n) 3 ?_
  refine zv (.oq (rr64 x n) (hz := rr64_or x n)) 3 ?_
  refine zv .mv 1 ?_
  refine zn ?_
  refine cxRet ?_
  refine qxRet1 0 rfl rfl ?_
  exact ⟨rfl, HH.toBelow hH⟩

set_option maxHeartbeats 8000000 in
theorem rotrq_c (x : UInt64) (n : Nat) (h0 : 0 < n) (h64 : n < 64) : Pure Tryz.prog 94 #[(.int .u64 (((x.toNat) : Nat) : Int)), (.int .i64 (((n) : Nat) : Int))] (fun _ => True) (.int .u64 ((((rr64 x n).toNat) : Nat) : Int)) := by
  refine pure_of (fn := Tryz.f94) Tryz.func94 rfl Tryz.ntmps94 (Nat.le_of_ble_eq_true rfl) rfl ?_
  intro w0 hH hR
  refine zr ?_
  refine zv .mv 0 ?_
  refine zn ?_
  refine zr ?_
  refine zv .mv 3 ?_
  refine zv .mv 2 ?_
  refine zv (v := (.int .i64 (-(((n) : Nat) : Int)))) (fun _ _ hF => opNegI rfl (hF.ev 0 rfl) (wI (by omega) (by omega) (by omega))) 1 ?_
  refine zc Tryz.func102 (rotlq_c x n h0 h64) trivial hH 3 ?_
  clear hH
  intro w hH
  refine zv .mv 1 ?_
  refine zn ?_
  refine cxRet ?_
  refine qxRet1 0 rfl rfl ?_
  exact ⟨rfl, HH.toBelow hH⟩

set_option maxHeartbeats 8000000 in
theorem big0_64_c (x : UInt64) : Pure Tryz.prog 80 #[(.int .u64 (((x.toNat) : Nat) : Int))] (fun _ => True) (.int .u64 ((((big0_64 x).toNat) : Nat) : Int)) := by
  refine pure_of (fn := Tryz.f80) Tryz.func80 rfl Tryz.ntmps80 (Nat.le_of_ble_eq_true rfl) rfl ?_
  intro w0 hH hR
  refine zr ?_
  refine zv .mv 0 ?_
  refine zn ?_
  refine zr ?_
  refine zv .mv 1 ?_
  refine zc Tryz.func94 (rotrq_c x 28 (ltb rfl) (ltb rfl)) trivial hH 1 ?_
  clear hH
  intro w hH
  refine zv .mv 0 ?_
  refine zc Tryz.func94 (rotrq_c x 34 (ltb rfl) (ltb rfl)) trivial hH 1 ?_
  clear hH
  intro w hH
  refine zv (.xq (xo64 (rr64 x 28) (rr64 x 34))) 3 ?_
  refine zv .mv 2 ?_
  refine zc Tryz.func94 (rotrq_c x 39 (ltb rfl) (ltb rfl)) trivial hH 1 ?_
  clear hH
  intro w hH
  refine zv (.xq (xo64 (xo64 (rr64 x 28) (rr64 x 34)) (rr64 x 39))) 3 ?_
  refine zv .mv 1 ?_
  refine zn ?_
  refine cxRet ?_
  refine qxRet1 0 rfl rfl ?_
  exact ⟨rfl, HH.toBelow hH⟩

set_option maxHeartbeats 8000000 in
theorem big1_64_c (x : UInt64) : Pure Tryz.prog 79 #[(.int .u64 (((x.toNat) : Nat) : Int))] (fun _ => True) (.int .u64 ((((big1_64 x).toNat) : Nat) : Int)) := by
  refine pure_of (fn := Tryz.f79) Tryz.func79 rfl Tryz.ntmps79 (Nat.le_of_ble_eq_true rfl) rfl ?_
  intro w0 hH hR
  refine zr ?_
  refine zv .mv 0 ?_
  refine zn ?_
  refine zr ?_
  refine zv .mv 1 ?_
  refine zc Tryz.func94 (rotrq_c x 14 (ltb rfl) (ltb rfl)) trivial hH 1 ?_
  clear hH
  intro w hH
  refine zv .mv 0 ?_
  refine zc Tryz.func94 (rotrq_c x 18 (ltb rfl) (ltb rfl)) trivial hH 1 ?_
  clear hH
  intro w hH
  refine zv (.xq (xo64 (rr64 x 14) (rr64 x 18))) 3 ?_
  refine zv .mv 2 ?_
  refine zc Tryz.func94 (rotrq_c x 41 (ltb rfl) (ltb rfl)) trivial hH 1 ?_
  clear hH
  intro w hH
  refine zv (.xq (xo64 (xo64 (rr64 x 14) (rr64 x 18)) (rr64 x 41))) 3 ?_
  refine zv .mv 1 ?_
  refine zn ?_
  refine cxRet ?_
  refine qxRet1 0 rfl rfl ?_
  exact ⟨rfl, HH.toBelow hH⟩

set_option maxHeartbeats 8000000 in
theorem sml0_64_c (x : UInt64) : Pure Tryz.prog 93 #[(.int .u64 (((x.toNat) : Nat) : Int))] (fun _ => True) (.int .u64 ((((sml0_64 x).toNat) : Nat) : Int)) := by
  refine pure_of (fn := Tryz.f93) Tryz.func93 rfl Tryz.ntmps93 (Nat.le_of_ble_eq_true rfl) rfl ?_
  intro w0 hH hR
  refine zr ?_
  refine zv .mv 0 ?_
  refine zn ?_
  refine zr ?_
  refine zv .mv 1 ?_
  refine zc Tryz.func94 (rotrq_c x 1 (ltb rfl) (ltb rfl)) trivial hH 1 ?_
  clear hH
  intro w hH
  refine zv .mv 0 ?_
  refine zc Tryz.func94 (rotrq_c x 8 (ltb rfl) (ltb rfl)) trivial hH 1 ?_
  clear hH
  intro w hH
  refine zv (.xq (xo64 (rr64 x 1) (rr64 x 8))) 3 ?_
  refine zv .mv 2 ?_
  refine zv (.rq 7) 1 ?_
  refine zv (.xq (xo64 (xo64 (rr64 x 1) (rr64 x 8)) (sr64 x 7))) 3 ?_
  refine zv .mv 1 ?_
  refine zn ?_
  refine cxRet ?_
  refine qxRet1 0 rfl rfl ?_
  exact ⟨rfl, HH.toBelow hH⟩

set_option maxHeartbeats 8000000 in
theorem sml1_64_c (x : UInt64) : Pure Tryz.prog 92 #[(.int .u64 (((x.toNat) : Nat) : Int))] (fun _ => True) (.int .u64 ((((sml1_64 x).toNat) : Nat) : Int)) := by
  refine pure_of (fn := Tryz.f92) Tryz.func92 rfl Tryz.ntmps92 (Nat.le_of_ble_eq_true rfl) rfl ?_
  intro w0 hH hR
  refine zr ?_
  refine zv .mv 0 ?_
  refine zn ?_
  refine zr ?_
  refine zv .mv 1 ?_
  refine zc Tryz.func94 (rotrq_c x 19 (ltb rfl) (ltb rfl)) trivial hH 1 ?_
  clear hH
  intro w hH
  refine zv .mv 0 ?_
  refine zc Tryz.func94 (rotrq_c x 61 (ltb rfl) (ltb rfl)) trivial hH 1 ?_
  clear hH
  intro w hH
  refine zv (.xq (xo64 (rr64 x 19) (rr64 x 61))) 3 ?_
  refine zv .mv 2 ?_
  refine zv (.rq 6) 1 ?_
  refine zv (.xq (xo64 (xo64 (rr64 x 19) (rr64 x 61)) (sr64 x 6))) 3 ?_
  refine zv .mv 1 ?_
  refine zn ?_
  refine cxRet ?_
  refine qxRet1 0 rfl rfl ?_
  exact ⟨rfl, HH.toBelow hH⟩

set_option maxHeartbeats 8000000 in
theorem wordsq_c (b : Nat → UInt8) : Pure Tryz.prog 78 #[((cArr 128).val b)] (fun _ => True) ((cQs 80).val (W64 b)) := by
  refine pure_of (fn := Tryz.f78) Tryz.func78 rfl Tryz.ntmps78 (Nat.le_of_ble_eq_true rfl) rfl ?_
  intro w0 hH hR
  refine zr ?_
  refine zm hH (.bx (cArr 128) b) trivial 1 ?_
  clear hH
  rintro _ _ w ⟨g1, rfl, rfl⟩ hH
  refine zm hH (.al (cQs 80) (fun _ => 0)) trivial 0 ?_
  clear hH
  rintro _ _ w ⟨g2, rfl, rfl⟩ hH
  refine zn ?_
  refine zr ?_
  refine zm hH (.al (cQs 80) (fun _ => 0)) trivial 0 ?_
  clear hH
  rintro _ _ w ⟨g3, rfl, rfl⟩ hH
  refine zn ?_
  refine cxSeq ?_
  have he4 : (cQs 80).enc (pr64 b 0) = (cQs 80).enc (fun _ => 0) := vec_congr (fun i _ => by rw [pr64_zero])
  replace hH : HH w0 [] [[bl g1 94 ((cArr 128).enc b)], [bl g2 107 ((cQs 80).enc (fun _ => 0))], [bl g3 107 ((cQs 80).enc (pr64 b 0))]] w := by rw [he4]; exact hH
  refine zr ?_
  refine zs (hH.q 0 rfl) (.ld (cArr 128) b (fun _ hS => (holds_blk0 hS))) 4 ?_
  refine zv .mv 0 ?_
  refine zn ?_
  refine cxBlock ?_
  refine zL1 (fun (m : Nat) => [(8, (.int .i64 (((m) : Nat) : Int))), (7, ((cArr 128).val b)), (3, (.pointer (some ⟨g3, 0, none⟩))), (2, (.pointer (some ⟨g2, 0, none⟩)))]) (fun m w => HH w0 [] [[bl g1 94 ((cArr 128).enc b)], [bl g2 107 ((cQs 80).enc (fun _ => 0))], [bl g3 107 ((cQs 80).enc (pr64 b m))]] w ∧ (m ≤ 128)) (fun m => 128 - m) 0 ⟨hH, (Nat.zero_le _)⟩ ?_
  clear hH
  rintro m w ⟨hH, hm⟩
  refine zr ?_
  refine zv (.lt (m < 128)) 0 ?_
  refine zn ?_
  refine cxSeq ?_
  refine zP (fun hc5 => ?_) (fun hc5 => ?_)
  refine cxSkip ?_
  refine qxThen ?_
  refine cxSeq ?_
  refine cxBlock ?_
  refine zr ?_
  refine zv .mv 1 ?_
  have hi6 : m < 128 := by omega
  refine zv (v := (.int .u8 ((((b m).toNat) : Nat) : Int))) (fun _ _ hF => opIdxA (S := sBy) (e := 5) (n := 128) (i := m) (f := b) rfl (by kernel_rfl) (by kernel_rfl) (hF.ev 2 rfl) (hF.ev 1 rfl) rfl hi6) 0 ?_
  refine zv .mv 2 ?_
  refine zv .mv 2 ?_
  refine zn ?_
  refine cxReg ?_
  refine zv .mv 0 ?_
  refine zv (v := (.int .i64 (((m / 8) : Nat) : Int))) (fun _ _ hF => opQuo (z := ((m / 8 : Nat) : Int)) rfl (hF.ev 0 rfl) rfl (by omega) (wI quoN (by omega) (by omega))) 1 ?_
  refine zv .mv 4 ?_
  refine zv (v := (.int .i64 (((m / 8) : Nat) : Int))) (fun _ _ hF => opQuo (z := ((m / 8 : Nat) : Int)) rfl (hF.ev 0 rfl) rfl (by omega) (wI quoN (by omega) (by omega))) 1 ?_
  have hi7 : m / 8 < 80 := by omega
  refine zv (.ia 1 80 (m / 8) (hi := hi7)) 1 ?_
  refine zs (hH.q 2 rfl) (.ld cWq ((pr64 b m) (m / 8)) (fun _ hS => ((holds_blk0 hS).eltV hi7))) 1 ?_
  refine zv (.lq 8) 1 ?_
  refine zv .mv 4 ?_
  refine zv (v := (.int .u64 ((((UInt64.ofNat (b m).toNat).toNat) : Nat) : Int))) (fun _ _ hF => opConvQ (z := UInt64.ofNat (b m).toNat) rfl rfl (by kernel_rfl) (hF.ev 0 rfl) rfl) 1 ?_
  refine zv (.oq (pr64 b (m + 1) (m / 8)) (hz := pr64_step b m (m / 8) rfl)) 3 ?_
  have hi8 : m / 8 < 80 := by omega
  refine zv (.ia 1 80 (m / 8) (hi := hi8)) 2 ?_
  refine ze0 2 hH rfl (.st cWq (pr64 b (m + 1) (m / 8)) (room_1 (S := sWq) (C := (cQs 80)) rfl hi8) (vec_set0 (pr64 b m) (pr64 b (m + 1) (m / 8)) hi8)) trivial ?_
  clear hH
  rintro _ _ w rfl hH
  refine pxEnd ?_
  refine qxInN ?_
  refine qxThen ?_
  refine cxReg ?_
  refine zv (.add ((m + 1 : Nat) : Int)) 7 ?_
  refine zv .mv 1 ?_
  refine pxEnd ?_
  have he9 : (cQs 80).enc (pr64 b (m + 1)) = (cQs 80).enc (stF (pr64 b m) (m / 8) (pr64 b (m + 1) (m / 8))) := vec_congr (fun i _ => (congrFun (pr64_set b m (m / 8) _ rfl rfl) i).symm)
  replace hH : HH w0 [] [[bl g1 94 ((cArr 128).enc b)], [bl g2 107 ((cQs 80).enc (fun _ => 0))], [bl g3 107 ((cQs 80).enc (pr64 b (m + 1)))]] w := by rw [he9]; exact hH
  exact zR1 (m + 1) ⟨hH, (by omega)⟩ (by omega)
  refine cxExit ?_
  refine qxThenE ?_
  refine qxThenE ?_
  refine qxInE ?_
  refine qxThen ?_
  refine cxSeq ?_
  obtain rfl : m = 128 := by omega
  have he10 : (cQs 80).enc (upF 16 (W64 b) (pr64 b 128)) = (cQs 80).enc (pr64 b 128) := vec_congr (fun i _ => by rw [up_firstQ])
  replace hH : HH w0 [] [[bl g1 94 ((cArr 128).enc b)], [bl g2 107 ((cQs 80).enc (fun _ => 0))], [bl g3 107 ((cQs 80).enc (upF 16 (W64 b) (pr64 b 128)))]] w := by rw [he10]; exact hH
  refine zr ?_
  refine zv .mv 7 ?_
  refine zn ?_
  refine cxBlock ?_
  refine zL1 (fun (t : Nat) => [(6, (.int .i64 (((t) : Nat) : Int))), (3, (.pointer (some ⟨g3, 0, none⟩))), (2, (.pointer (some ⟨g2, 0, none⟩)))]) (fun t w => HH w0 [] [[bl g1 94 ((cArr 128).enc b)], [bl g2 107 ((cQs 80).enc (fun _ => 0))], [bl g3 107 ((cQs 80).enc (upF t (W64 b) (pr64 b 128)))]] w ∧ (16 ≤ t) ∧ (t ≤ 80)) (fun t => 80 - t) 16 ⟨hH, (Nat.le_refl _), (by decide)⟩ ?_
  clear hH
  rintro t w ⟨hH, h16, ht⟩
  refine cxSeq ?_
  refine zr ?_
  refine zv .mv 0 ?_
  refine zv (.lt (t < 80)) 1 ?_
  refine zn ?_
  refine zP (fun hc11 => ?_) (fun hc11 => ?_)
  refine cxSkip ?_
  refine qxThen ?_
  refine cxSeq ?_
  refine cxBlock ?_
  refine cxRegX mixedOrders (by kernel_rfl) ?_
  replace hH := hH.drew
  refine rv 0 .mv 1 ?_
  refine rv 1 .mv 0 ?_
  refine rv 2 (.sub (((t - 2) : Nat) : Int)) 1 ?_
  have hi12 : t - 2 < 80 := by omega
  refine rv 3 (.ia 1 80 (t - 2) (hi := hi12)) 1 ?_
  refine rld 4 (hH.q 2 rfl) (.ld cWq ((upF t (W64 b) (pr64 b 128)) (t - 2)) (fun _ hS => ((holds_blk0 hS).eltV hi12))) 1 ?_
  refine rv 6 .mv 0 ?_
  refine rv 7 (.sub (((t - 7) : Nat) : Int)) 1 ?_
  have hi13 : t - 7 < 80 := by omega
  refine rv 8 (.ia 1 80 (t - 7) (hi := hi13)) 1 ?_
  refine rld 9 (hH.q 2 rfl) (.ld cWq ((upF t (W64 b) (pr64 b 128)) (t - 7)) (fun _ hS => ((holds_blk0 hS).eltV hi13))) 1 ?_
  refine rv 11 .mv 0 ?_
  refine rv 12 (.sub (((t - 15) : Nat) : Int)) 1 ?_
  have hi14 : t - 15 < 80 := by omega
  refine rv 13 (.ia 1 80 (t - 15) (hi := hi14)) 1 ?_
  refine rld 14 (hH.q 2 rfl) (.ld cWq ((upF t (W64 b) (pr64 b 128)) (t - 15)) (fun _ hS => ((holds_blk0 hS).eltV hi14))) 1 ?_
  refine rv 17 .mv 0 ?_
  refine rv 18 (.sub (((t - 16) : Nat) : Int)) 1 ?_
  have hi15 : t - 16 < 80 := by omega
  refine rv 19 (.ia 1 80 (t - 16) (hi := hi15)) 1 ?_
  refine rld 20 (hH.q 2 rfl) (.ld cWq ((upF t (W64 b) (pr64 b 128)) (t - 16)) (fun _ hS => ((holds_blk0 hS).eltV hi15))) 1 ?_
  refine rx1k 5 (rpc 5 Tryz.func92 (sml1_64_c ((upF t (W64 b) (pr64 b 128)) (t - 2))) trivial hH 8 (.keep (.keep (.keep (pgo [] (.nil _ []))))) ?_)
  clear hH
  intro w hH
  refine ⟨pcons (hH.blk 2 rfl) (pcons (hH.blk 2 rfl) (pcons (hH.blk 2 rfl) pnil)), ?_⟩
  refine rv 10 (.aq (pl64 (sml1_64 ((upF t (W64 b) (pr64 b 128)) (t - 2))) ((upF t (W64 b) (pr64 b 128)) (t - 7)))) 9 ?_
  refine rx1k 15 (rpc 15 Tryz.func93 (sml0_64_c ((upF t (W64 b) (pr64 b 128)) (t - 15))) trivial hH 4 (.keep (pgo [] (.keep (.nil _ [])))) ?_)
  clear hH
  intro w hH
  refine ⟨pcons (hH.blk 2 rfl) (pcons (hH.blk 2 rfl) pnil), ?_⟩
  refine rv 16 (.aq (pl64 (pl64 (sml1_64 ((upF t (W64 b) (pr64 b 128)) (t - 2))) ((upF t (W64 b) (pr64 b 128)) (t - 7))) (sml0_64 ((upF t (W64 b) (pr64 b 128)) (t - 15))))) 3 ?_
  refine rv 21 (.aq (pl64 (pl64 (pl64 (sml1_64 ((upF t (W64 b) (pr64 b 128)) (t - 2))) ((upF t (W64 b) (pr64 b 128)) (t - 7))) (sml0_64 ((upF t (W64 b) (pr64 b 128)) (t - 15)))) ((upF t (W64 b) (pr64 b 128)) (t - 16)))) 3 ?_
  have hi16 : t < 80 := by omega
  refine rv 22 (.ia 1 80 t (hi := hi16)) 2 ?_
  refine rx1k 23 ?_
  refine re0 23 2 hH rfl (.st cWq (pl64 (pl64 (pl64 (sml1_64 ((upF t (W64 b) (pr64 b 128)) (t - 2))) ((upF t (W64 b) (pr64 b 128)) (t - 7))) (sml0_64 ((upF t (W64 b) (pr64 b 128)) (t - 15)))) ((upF t (W64 b) (pr64 b 128)) (t - 16))) (room_1 (S := sWq) (C := (cQs 80)) rfl hi16) (vec_set0 (upF t (W64 b) (pr64 b 128)) (pl64 (pl64 (pl64 (sml1_64 ((upF t (W64 b) (pr64 b 128)) (t - 2))) ((upF t (W64 b) (pr64 b 128)) (t - 7))) (sml0_64 ((upF t (W64 b) (pr64 b 128)) (t - 15)))) ((upF t (W64 b) (pr64 b 128)) (t - 16))) hi16)) trivial (pgo [] (pgo [] (.nil _ []))) ?_
  clear hH
  rintro _ _ w rfl hH
  refine ⟨pnil, ?_⟩
  refine rxEnd (by kernel_rfl) ?_
  refine qxInN ?_
  refine qxThen ?_
  refine cxReg ?_
  refine zv .mv 7 ?_
  refine zv (.add ((t + 1 : Nat) : Int)) 1 ?_
  refine zv .mv 1 ?_
  refine pxEnd ?_
  have he17 : (cQs 80).enc (upF (t + 1) (W64 b) (pr64 b 128)) = (cQs 80).enc (stF (upF t (W64 b) (pr64 b 128)) t (pl64 (pl64 (pl64 (sml1_64 ((upF t (W64 b) (pr64 b 128)) (t - 2))) ((upF t (W64 b) (pr64 b 128)) (t - 7))) (sml0_64 ((upF t (W64 b) (pr64 b 128)) (t - 15)))) ((upF t (W64 b) (pr64 b 128)) (t - 16)))) := vec_congr (fun i _ => (congrFun (upF_step t (W64 b) (pr64 b 128) (up_wordQ h16)) i).symm)
  replace hH : HH w0 [] [[bl g1 94 ((cArr 128).enc b)], [bl g2 107 ((cQs 80).enc (fun _ => 0))], [bl g3 107 ((cQs 80).enc (upF (t + 1) (W64 b) (pr64 b 128)))]] w := by rw [he17]; exact hH
  exact zR1 (t + 1) ⟨hH, (by omega), (by omega)⟩ (by omega)
  refine cxExit ?_
  refine qxThenE ?_
  refine qxThenE ?_
  refine qxInE ?_
  refine qxThen ?_
  obtain rfl : t = 80 := by omega
  have he18 : (cQs 80).enc (W64 b) = (cQs 80).enc (upF 80 (W64 b) (pr64 b 128)) := vec_congr (fun i hi => (upF_lt _ _ hi).symm)
  replace hH : HH w0 [] [[bl g1 94 ((cArr 128).enc b)], [bl g2 107 ((cQs 80).enc (fun _ => 0))], [bl g3 107 ((cQs 80).enc (W64 b))]] w := by rw [he18]; exact hH
  refine zr ?_
  refine zs (hH.q 2 rfl) (.ld (cQs 80) (W64 b) (fun _ hS => (holds_blk0 hS))) 7 ?_
  refine ze0 1 hH rfl (.sw (cQs 80) (fun _ => 0) (W64 b)) trivial ?_
  clear hH
  rintro _ _ w rfl hH
  refine zn ?_
  refine cxRet ?_
  refine qxRetC 1 (hH.blk 1 rfl) rfl rfl (by kernel_rfl) (Cod.size _ _) (by kernel_rfl) ?_
  exact ⟨rfl, HH.toBelow hH⟩

set_option maxHeartbeats 8000000 in
theorem bytesq_c (s : Nat → UInt64) : Pure Tryz.prog 45 #[((cQs 8).val s)] (fun _ => True) ((cArr 64).val (out64 s)) := by
  refine pure_of (fn := Tryz.f45) Tryz.func45 rfl Tryz.ntmps45 (Nat.le_of_ble_eq_true rfl) rfl ?_
  intro w0 hH hR
  refine zr ?_
  refine zm hH (.bx (cQs 8) s) trivial 1 ?_
  clear hH
  rintro _ _ w ⟨g1, rfl, rfl⟩ hH
  refine zm hH (.al (cArr 64) (fun _ => 0)) trivial 0 ?_
  clear hH
  rintro _ _ w ⟨g2, rfl, rfl⟩ hH
  refine zn ?_
  refine zr ?_
  refine zm hH (.al (cArr 64) (fun _ => 0)) trivial 0 ?_
  clear hH
  rintro _ _ w ⟨g3, rfl, rfl⟩ hH
  refine zn ?_
  refine cxSeq ?_
  have he4 : (cArr 64).enc (upF 0 (out64 s) (fun _ => 0)) = (cArr 64).enc (fun _ => 0) := arr_congr (fun i _ => by rw [upF_zero])
  replace hH : HH w0 [] [[bl g1 73 ((cQs 8).enc s)], [bl g2 60 ((cArr 64).enc (fun _ => 0))], [bl g3 60 ((cArr 64).enc (upF 0 (out64 s) (fun _ => 0)))]] w := by rw [he4]; exact hH
  refine zr ?_
  refine zv .mv 0 ?_
  refine zn ?_
  refine cxBlock ?_
  refine zL1 (fun (m : Nat) => [(5, (.int .i64 (((m) : Nat) : Int))), (3, (.pointer (some ⟨g3, 0, none⟩))), (2, (.pointer (some ⟨g2, 0, none⟩))), (1, (.pointer (some ⟨g1, 0, none⟩)))]) (fun m w => HH w0 [] [[bl g1 73 ((cQs 8).enc s)], [bl g2 60 ((cArr 64).enc (fun _ => 0))], [bl g3 60 ((cArr 64).enc (upF m (out64 s) (fun _ => 0)))]] w ∧ (m ≤ 64)) (fun m => 64 - m) 0 ⟨hH, (Nat.zero_le _)⟩ ?_
  clear hH
  rintro m w ⟨hH, hm⟩
  refine zr ?_
  refine zv (.lt (m < 64)) 0 ?_
  refine zn ?_
  refine cxSeq ?_
  refine zP (fun hc5 => ?_) (fun hc5 => ?_)
  refine cxSkip ?_
  refine qxThen ?_
  refine cxSeq ?_
  refine cxBlock ?_
  refine zr ?_
  refine zv .mv 1 ?_
  refine zv .mv 1 ?_
  refine zn ?_
  refine cxReg ?_
  refine zv .mv 0 ?_
  refine zv .mv 0 ?_
  refine zv (v := (.int .i64 (((m / 8) : Nat) : Int))) (fun _ _ hF => opQuo (z := ((m / 8 : Nat) : Int)) rfl (hF.ev 0 rfl) rfl (by omega) (wI quoN (by omega) (by omega))) 1 ?_
  have hi6 : m / 8 < 8 := by omega
  refine zv (.ia 1 8 (m / 8) (hi := hi6)) 1 ?_
  refine zs (hH.q 0 rfl) (.ld cWq (s (m / 8)) (fun _ hS => ((holds_blk0 hS).eltV hi6))) 1 ?_
  refine zv .mv 4 ?_
  refine zv (v := (.int .i64 (((m % 8) : Nat) : Int))) (fun _ _ hF => opRem (z := ((m % 8 : Nat) : Int)) rfl (hF.ev 0 rfl) rfl (by omega) remN) 1 ?_
  refine zv (.mul (((m % 8) * 8 : Nat) : Int)) 1 ?_
  refine zv (.sub (((56 - m % 8 * 8) : Nat) : Int)) 1 ?_
  refine zv (.rq (56 - m % 8 * 8)) 3 ?_
  refine zv .cb 1 ?_
  have hi7 : m < 64 := by omega
  refine zv (.ia 1 64 m (hi := hi7)) 2 ?_
  refine ze0 2 hH rfl (.st cByte (UInt8.ofNat ((sr64 (s (m / 8)) (56 - m % 8 * 8)).toNat)) (room_1 (S := sBy) (C := (cArr 64)) rfl hi7) (arr_set0 (upF m (out64 s) (fun _ => 0)) (UInt8.ofNat ((sr64 (s (m / 8)) (56 - m % 8 * 8)).toNat)) hi7)) trivial ?_
  clear hH
  rintro _ _ w rfl hH
  refine pxEnd ?_
  refine qxInN ?_
  refine qxThen ?_
  refine cxReg ?_
  refine zv (.add ((m + 1 : Nat) : Int)) 7 ?_
  refine zv .mv 1 ?_
  refine pxEnd ?_
  have he8 : (cArr 64).enc (upF (m + 1) (out64 s) (fun _ => 0)) = (cArr 64).enc (stF (upF m (out64 s) (fun _ => 0)) m (UInt8.ofNat ((sr64 (s (m / 8)) (56 - m % 8 * 8)).toNat))) := arr_congr (fun i _ => (congrFun (upF_step m (out64 s) (fun _ => 0) (out64_at s m)) i).symm)
  replace hH : HH w0 [] [[bl g1 73 ((cQs 8).enc s)], [bl g2 60 ((cArr 64).enc (fun _ => 0))], [bl g3 60 ((cArr 64).enc (upF (m + 1) (out64 s) (fun _ => 0)))]] w := by rw [he8]; exact hH
  exact zR1 (m + 1) ⟨hH, (by omega)⟩ (by omega)
  refine cxExit ?_
  refine qxThenE ?_
  refine qxThenE ?_
  refine qxInE ?_
  refine qxThen ?_
  obtain rfl : m = 64 := by omega
  have he9 : (cArr 64).enc (out64 s) = (cArr 64).enc (upF 64 (out64 s) (fun _ => 0)) := arr_congr (fun i hi => (upF_lt _ _ hi).symm)
  replace hH : HH w0 [] [[bl g1 73 ((cQs 8).enc s)], [bl g2 60 ((cArr 64).enc (fun _ => 0))], [bl g3 60 ((cArr 64).enc (out64 s))]] w := by rw [he9]; exact hH
  refine zr ?_
  refine zs (hH.q 2 rfl) (.ld (cArr 64) (out64 s) (fun _ hS => (holds_blk0 hS))) 23 ?_
  refine ze0 1 hH rfl (.sw (cArr 64) (fun _ => 0) (out64 s)) trivial ?_
  clear hH
  rintro _ _ w rfl hH
  refine zn ?_
  refine cxRet ?_
  refine qxRetC 1 (hH.blk 1 rfl) rfl rfl (by kernel_rfl) (Cod.size _ _) (by kernel_rfl) ?_
  exact ⟨rfl, HH.toBelow hH⟩
end Go.Proofs.YtbbegnfopdihaaaGreatDoor

namespace Go.Proofs.YtbbegnfopdihaaaGreatDoor
open Go Go.RowKit
set_option maxRecDepth 100000

set_option maxHeartbeats 8000000 in
theorem oneq_c (s : Nat → UInt64) (b : Nat → UInt8) : Pure Tryz.prog 59 #[((cQs 8).val s), ((cArr 128).val b)] (fun w => w.heap[3]? = some (.cells ((cQs 80).enc K64) 107 (0, 0))) ((cQs 8).val (comp64 b s)) := by
  refine pure_of (fn := Tryz.f59) Tryz.func59 rfl Tryz.ntmps59 (Nat.le_of_ble_eq_true rfl) rfl ?_
  intro w0 hH hR
  refine zr ?_
  refine zm hH (.bx (cQs 8) s) trivial 1 ?_
  clear hH
  rintro _ _ w ⟨g1, rfl, rfl⟩ hH
  refine zm hH (.bx (cArr 128) b) trivial 2 ?_
  clear hH
  rintro _ _ w ⟨g2, rfl, rfl⟩ hH
  refine zm hH (.al (cQs 8) (fun _ => 0)) trivial 0 ?_
  clear hH
  rintro _ _ w ⟨g3, rfl, rfl⟩ hH
  refine zn ?_
  refine zr ?_
  refine zs (hH.q 1 rfl) (.ld (cArr 128) b (fun _ hS => (holds_blk0 hS))) 2 ?_
  refine zc Tryz.func78 (wordsq_c b) trivial hH 1 ?_
  clear hH
  intro w hH
  refine zm hH (.al (cQs 80) (fun _ => 0)) trivial 0 ?_
  clear hH
  rintro _ _ w ⟨g4, rfl, rfl⟩ hH
  refine ze0 3 hH rfl (.sw (cQs 80) (fun _ => 0) (W64 b)) trivial ?_
  clear hH
  rintro _ _ w rfl hH
  refine zn ?_
  refine zx ?_
  replace hH := hH.drew
  have hi5 : 0 < 8 := by omega
  refine rv 0 (.ia 1 8 0 (hi := hi5)) 2 ?_
  refine rld 1 (hH.q 0 rfl) (.ld cWq (s 0) (fun _ hS => ((holds_blk0 hS).eltV hi5))) 1 ?_
  have hi6 : 1 < 8 := by omega
  refine rv 2 (.ia 1 8 1 (hi := hi6)) 0 ?_
  refine rld 3 (hH.q 0 rfl) (.ld cWq (s 1) (fun _ hS => ((holds_blk0 hS).eltV hi6))) 1 ?_
  have hi7 : 2 < 8 := by omega
  refine rv 4 (.ia 1 8 2 (hi := hi7)) 0 ?_
  refine rld 5 (hH.q 0 rfl) (.ld cWq (s 2) (fun _ hS => ((holds_blk0 hS).eltV hi7))) 1 ?_
  have hi8 : 3 < 8 := by omega
  refine rv 6 (.ia 1 8 3 (hi := hi8)) 0 ?_
  refine rld 7 (hH.q 0 rfl) (.ld cWq (s 3) (fun _ hS => ((holds_blk0 hS).eltV hi8))) 1 ?_
  have hi9 : 4 < 8 := by omega
  refine rv 8 (.ia 1 8 4 (hi := hi9)) 0 ?_
  refine rld 9 (hH.q 0 rfl) (.ld cWq (s 4) (fun _ hS => ((holds_blk0 hS).eltV hi9))) 1 ?_
  have hi10 : 5 < 8 := by omega
  refine rv 10 (.ia 1 8 5 (hi := hi10)) 0 ?_
  refine rld 11 (hH.q 0 rfl) (.ld cWq (s 5) (fun _ hS => ((holds_blk0 hS).eltV hi10))) 1 ?_
  have hi11 : 6 < 8 := by omega
  refine rv 12 (.ia 1 8 6 (hi := hi11)) 0 ?_
  refine rld 13 (hH.q 0 rfl) (.ld cWq (s 6) (fun _ hS => ((holds_blk0 hS).eltV hi11))) 1 ?_
  have hi12 : 7 < 8 := by omega
  refine rv 14 (.ia 1 8 7 (hi := hi12)) 0 ?_
  refine rld 15 (hH.q 0 rfl) (.ld cWq (s 7) (fun _ hS => ((holds_blk0 hS).eltV hi12))) 1 ?_
  refine rv 16 .mv 128 ?_
  refine rv 17 .mv 128 ?_
  refine rv 18 .mv 128 ?_
  refine rv 19 .mv 128 ?_
  refine rv 20 .mv 128 ?_
  refine rv 21 .mv 128 ?_
  refine rv 22 .mv 128 ?_
  refine rv 23 .mv 128 ?_
  refine rn ?_
  refine cxSeq ?_
  refine zr ?_
  refine zv .mv 0 ?_
  refine zn ?_
  refine cxBlock ?_
  refine zL1 (fun (m : Nat) => [(37, (.int .i64 (((m) : Nat) : Int))), (13, (.int .u64 ((((rnd64 b s m 7).toNat) : Nat) : Int))), (12, (.int .u64 ((((rnd64 b s m 6).toNat) : Nat) : Int))), (11, (.int .u64 ((((rnd64 b s m 5).toNat) : Nat) : Int))), (10, (.int .u64 ((((rnd64 b s m 4).toNat) : Nat) : Int))), (9, (.int .u64 ((((rnd64 b s m 3).toNat) : Nat) : Int))), (8, (.int .u64 ((((rnd64 b s m 2).toNat) : Nat) : Int))), (7, (.int .u64 ((((rnd64 b s m 1).toNat) : Nat) : Int))), (6, (.int .u64 ((((rnd64 b s m 0).toNat) : Nat) : Int))), (5, (.pointer (some ⟨g4, 0, none⟩))), (4, (.pointer (some ⟨g3, 0, none⟩))), (2, (.pointer (some ⟨g1, 0, none⟩)))]) (fun m w => HH w0 [] [[bl g1 73 ((cQs 8).enc s)], [bl g2 94 ((cArr 128).enc b)], [bl g3 73 ((cQs 8).enc (fun _ => 0))], [bl g4 107 ((cQs 80).enc (W64 b))]] w ∧ (m ≤ 80)) (fun m => 80 - m) 0 ⟨hH, (Nat.zero_le _)⟩ ?_
  clear hH
  rintro m w ⟨hH, hm⟩
  refine zr ?_
  refine zv (.lt (m < 80)) 0 ?_
  refine zn ?_
  refine cxSeq ?_
  refine zP (fun hc13 => ?_) (fun hc13 => ?_)
  refine cxSkip ?_
  refine qxThen ?_
  refine cxSeq ?_
  refine cxBlock ?_
  refine zr ?_
  refine zv .mv 1 ?_
  refine zv .mv 1 ?_
  refine zn ?_
  refine zx ?_
  replace hH := hH.drew
  refine rv 0 .mv 4 ?_
  refine rv 1 .mv 0 ?_
  refine rv 4 .mv 0 ?_
  refine rv 5 .mv 0 ?_
  refine rv 6 (.nq (and64 (rnd64 b s m 4) (rnd64 b s m 5))) 3 ?_
  refine rv 7 .mv 0 ?_
  refine rv 8 .cq 1 ?_
  refine rv 9 .mv 0 ?_
  refine rv 10 (.nq (and64 (not64 (rnd64 b s m 4)) (rnd64 b s m 6))) 3 ?_
  refine rv 11 (.xq (xo64 (and64 (rnd64 b s m 4) (rnd64 b s m 5)) (and64 (not64 (rnd64 b s m 4)) (rnd64 b s m 6)))) 3 ?_
  refine rv 13 .mv 0 ?_
  have hi14 : m < 80 := by omega
  refine rv 14 (.ia 1 80 m (hi := hi14)) 1 ?_
  refine rld 15 (hH.ob hR) (.ld cWq (K64 m) (fun _ hS => ((holds_blk0 hS).eltV hi14))) 1 ?_
  refine rv 17 .mv 16 ?_
  have hi15 : m < 80 := by omega
  refine rv 18 (.ia 1 80 m (hi := hi15)) 1 ?_
  refine rld 19 (hH.q 3 rfl) (.ld cWq ((W64 b) m) (fun _ hS => ((holds_blk0 hS).eltV hi15))) 1 ?_
  refine rx1k 2 (rpc 2 Tryz.func79 (big1_64_c (rnd64 b s m 4)) trivial hH 8 (.keep (.keep (.nil _ []))) ?_)
  clear hH
  intro w hH
  refine ⟨pcons (hH.blk 3 rfl) (pcons (hH.oldBlk hR (by simp)) pnil), ?_⟩
  refine rv 3 (.aq (pl64 (rnd64 b s m 7) (big1_64 (rnd64 b s m 4)))) 17 ?_
  refine rv 12 (.aq (pl64 (pl64 (rnd64 b s m 7) (big1_64 (rnd64 b s m 4))) (xo64 (and64 (rnd64 b s m 4) (rnd64 b s m 5)) (and64 (not64 (rnd64 b s m 4)) (rnd64 b s m 6))))) 9 ?_
  refine rv 16 (.aq (pl64 (pl64 (pl64 (rnd64 b s m 7) (big1_64 (rnd64 b s m 4))) (xo64 (and64 (rnd64 b s m 4) (rnd64 b s m 5)) (and64 (not64 (rnd64 b s m 4)) (rnd64 b s m 6)))) (K64 m))) 5 ?_
  refine rv 20 (.aq (pl64 (pl64 (pl64 (pl64 (rnd64 b s m 7) (big1_64 (rnd64 b s m 4))) (xo64 (and64 (rnd64 b s m 4) (rnd64 b s m 5)) (and64 (not64 (rnd64 b s m 4)) (rnd64 b s m 6)))) (K64 m)) ((W64 b) m))) 3 ?_
  refine rv 21 .mv 1 ?_
  refine rn ?_
  refine zr ?_
  refine zv .mv 0 ?_
  refine zc Tryz.func80 (big0_64_c (rnd64 b s m 0)) trivial hH 1 ?_
  clear hH
  intro w hH
  refine zv .mv 0 ?_
  refine zv .mv 0 ?_
  refine zv (.nq (and64 (rnd64 b s m 0) (rnd64 b s m 1))) 3 ?_
  refine zv .mv 0 ?_
  refine zv .mv 0 ?_
  refine zv (.nq (and64 (rnd64 b s m 0) (rnd64 b s m 2))) 3 ?_
  refine zv (.xq (xo64 (and64 (rnd64 b s m 0) (rnd64 b s m 1)) (and64 (rnd64 b s m 0) (rnd64 b s m 2)))) 3 ?_
  refine zv .mv 0 ?_
  refine zv .mv 0 ?_
  refine zv (.nq (and64 (rnd64 b s m 1) (rnd64 b s m 2))) 3 ?_
  refine zv (.xq (xo64 (xo64 (and64 (rnd64 b s m 0) (rnd64 b s m 1)) (and64 (rnd64 b s m 0) (rnd64 b s m 2))) (and64 (rnd64 b s m 1) (rnd64 b s m 2)))) 3 ?_
  refine zv (.aq (pl64 (big0_64 (rnd64 b s m 0)) (xo64 (xo64 (and64 (rnd64 b s m 0) (rnd64 b s m 1)) (and64 (rnd64 b s m 0) (rnd64 b s m 2))) (and64 (rnd64 b s m 1) (rnd64 b s m 2))))) 3 ?_
  refine zv .mv 1 ?_
  refine zn ?_
  refine cxReg ?_
  refine zv .mv 0 ?_
  refine zv .mv 2 ?_
  refine zv (.aq (pl64 (pl64 (pl64 (pl64 (pl64 (rnd64 b s m 7) (big1_64 (rnd64 b s m 4))) (xo64 (and64 (rnd64 b s m 4) (rnd64 b s m 5)) (and64 (not64 (rnd64 b s m 4)) (rnd64 b s m 6)))) (K64 m)) ((W64 b) m)) (pl64 (big0_64 (rnd64 b s m 0)) (xo64 (xo64 (and64 (rnd64 b s m 0) (rnd64 b s m 1)) (and64 (rnd64 b s m 0) (rnd64 b s m 2))) (and64 (rnd64 b s m 1) (rnd64 b s m 2)))))) 3 ?_
  refine zv .mv 512 ?_
  refine zv .mv 512 ?_
  refine zv .mv 512 ?_
  refine zv .mv 512 ?_
  refine zv .mv 32 ?_
  refine zv (.aq (pl64 (rnd64 b s m 3) (pl64 (pl64 (pl64 (pl64 (rnd64 b s m 7) (big1_64 (rnd64 b s m 4))) (xo64 (and64 (rnd64 b s m 4) (rnd64 b s m 5)) (and64 (not64 (rnd64 b s m 4)) (rnd64 b s m 6)))) (K64 m)) ((W64 b) m)))) 3 ?_
  refine zv .mv 256 ?_
  refine zv .mv 256 ?_
  refine zv .mv 256 ?_
  refine zv .mv 128 ?_
  refine zv .mv 128 ?_
  refine zv .mv 128 ?_
  refine zv .mv 128 ?_
  refine zv .mv 128 ?_
  refine zv .mv 128 ?_
  refine zv .mv 128 ?_
  refine zv .mv 128 ?_
  refine pxEnd ?_
  refine qxInN ?_
  refine qxThen ?_
  refine cxReg ?_
  refine zv (.add ((m + 1 : Nat) : Int)) 256 ?_
  refine zv .mv 1 ?_
  refine pxEnd ?_
  exact zR1 (m + 1) ⟨hH, (by omega)⟩ (by omega)
  refine cxExit ?_
  refine qxThenE ?_
  refine qxThenE ?_
  refine qxInE ?_
  refine qxThen ?_
  refine cxSeq ?_
  obtain rfl : m = 80 := by omega
  refine zr ?_
  refine zv .mv 1539 ?_
  refine zv .mv 128 ?_
  refine zv .mv 128 ?_
  refine zv .mv 128 ?_
  refine zv .mv 128 ?_
  refine zv .mv 128 ?_
  refine zv .mv 128 ?_
  refine zv .mv 128 ?_
  refine zv (v := ((cQs 8).val (rnd64 b s 80))) (fun _ _ hF => opBuildP (cells := (cQs 8).enc (rnd64 b s 80)) (vals := [(0, (.int .u64 ((((rnd64 b s 80 0).toNat) : Nat) : Int))), (1, (.int .u64 ((((rnd64 b s 80 1).toNat) : Nat) : Int))), (2, (.int .u64 ((((rnd64 b s 80 2).toNat) : Nat) : Int))), (3, (.int .u64 ((((rnd64 b s 80 3).toNat) : Nat) : Int))), (4, (.int .u64 ((((rnd64 b s 80 4).toNat) : Nat) : Int))), (5, (.int .u64 ((((rnd64 b s 80 5).toNat) : Nat) : Int))), (6, (.int .u64 ((((rnd64 b s 80 6).toNat) : Nat) : Int))), (7, (.int .u64 ((((rnd64 b s 80 7).toNat) : Nat) : Int)))]) rfl (EvP.cons (v := (.int .u64 ((((rnd64 b s 80 0).toNat) : Nat) : Int))) (hF.ev 7 rfl) (EvP.cons (v := (.int .u64 ((((rnd64 b s 80 1).toNat) : Nat) : Int))) (hF.ev 6 rfl) (EvP.cons (v := (.int .u64 ((((rnd64 b s 80 2).toNat) : Nat) : Int))) (hF.ev 5 rfl) (EvP.cons (v := (.int .u64 ((((rnd64 b s 80 3).toNat) : Nat) : Int))) (hF.ev 4 rfl) (EvP.cons (v := (.int .u64 ((((rnd64 b s 80 4).toNat) : Nat) : Int))) (hF.ev 3 rfl) (EvP.cons (v := (.int .u64 ((((rnd64 b s 80 5).toNat) : Nat) : Int))) (hF.ev 2 rfl) (EvP.cons (v := (.int .u64 ((((rnd64 b s 80 6).toNat) : Nat) : Int))) (hF.ev 1 rfl) (EvP.cons (v := (.int .u64 ((((rnd64 b s 80 7).toNat) : Nat) : Int))) (hF.ev 0 rfl) EvP.nil)))))))) (by kernel_rfl) _) 255 ?_
  have he16 : (cQs 8).enc (upF 0 (comp64 b s) s) = (cQs 8).enc s := vec_congr (fun i _ => by rw [upF_zero])
  replace hH : HH w0 [] [[bl g1 73 ((cQs 8).enc (upF 0 (comp64 b s) s))], [bl g2 94 ((cArr 128).enc b)], [bl g3 73 ((cQs 8).enc (fun _ => 0))], [bl g4 107 ((cQs 80).enc (W64 b))]] w := by rw [he16]; exact hH
  refine zv .mv 0 ?_
  refine zn ?_
  refine cxBlock ?_
  refine zL1 (fun (q : Nat) => [(97, (.int .i64 (((q) : Nat) : Int))), (96, ((cQs 8).val (rnd64 b s 80))), (4, (.pointer (some ⟨g3, 0, none⟩))), (2, (.pointer (some ⟨g1, 0, none⟩)))]) (fun q w => HH w0 [] [[bl g1 73 ((cQs 8).enc (upF q (comp64 b s) s))], [bl g2 94 ((cArr 128).enc b)], [bl g3 73 ((cQs 8).enc (fun _ => 0))], [bl g4 107 ((cQs 80).enc (W64 b))]] w ∧ (q ≤ 8)) (fun q => 8 - q) 0 ⟨hH, (Nat.zero_le _)⟩ ?_
  clear hH
  rintro q w ⟨hH, hq⟩
  refine zr ?_
  refine zv (.lt (q < 8)) 0 ?_
  refine zn ?_
  refine cxSeq ?_
  refine zP (fun hc17 => ?_) (fun hc17 => ?_)
  refine cxSkip ?_
  refine qxThen ?_
  refine cxSeq ?_
  refine cxBlock ?_
  refine zr ?_
  refine zv .mv 1 ?_
  have hi18 : q < 8 := by omega
  refine zv (v := (.int .u64 (((((rnd64 b s 80) q).toNat) : Nat) : Int))) (fun _ _ hF => opIdxA (S := sWq) (e := 45) (n := 8) (i := q) (f := (rnd64 b s 80)) rfl (by kernel_rfl) (by kernel_rfl) (hF.ev 2 rfl) (hF.ev 1 rfl) rfl hi18) 0 ?_
  refine zv .mv 2 ?_
  refine zv .mv 2 ?_
  refine zn ?_
  refine cxReg ?_
  refine zv .mv 2 ?_
  have hi19 : q < 8 := by omega
  refine zv (.ia 1 8 q (hi := hi19)) 0 ?_
  refine zs (hH.q 0 rfl) (.ld cWq ((upF q (comp64 b s) s) q) (fun _ hS => ((holds_blk0 hS).eltV hi19))) 1 ?_
  refine zv .mv 4 ?_
  refine zv (.aq (pl64 ((upF q (comp64 b s) s) q) ((rnd64 b s 80) q))) 3 ?_
  have hi20 : q < 8 := by omega
  refine zv (.ia 1 8 q (hi := hi20)) 2 ?_
  refine ze0 0 hH rfl (.st cWq (pl64 ((upF q (comp64 b s) s) q) ((rnd64 b s 80) q)) (room_1 (S := sWq) (C := (cQs 8)) rfl hi20) (vec_set0 (upF q (comp64 b s) s) (pl64 ((upF q (comp64 b s) s) q) ((rnd64 b s 80) q)) hi20)) trivial ?_
  clear hH
  rintro _ _ w rfl hH
  refine pxEnd ?_
  refine qxInN ?_
  refine qxThen ?_
  refine cxReg ?_
  refine zv (.add ((q + 1 : Nat) : Int)) 7 ?_
  refine zv .mv 1 ?_
  refine pxEnd ?_
  have he21 : (cQs 8).enc (upF (q + 1) (comp64 b s) s) = (cQs 8).enc (stF (upF q (comp64 b s) s) q (pl64 ((upF q (comp64 b s) s) q) ((rnd64 b s 80) q))) := vec_congr (fun i _ => (congrFun (upF_step q (comp64 b s) s (by rw [upF_at]; rfl)) i).symm)
  replace hH : HH w0 [] [[bl g1 73 ((cQs 8).enc (upF (q + 1) (comp64 b s) s))], [bl g2 94 ((cArr 128).enc b)], [bl g3 73 ((cQs 8).enc (fun _ => 0))], [bl g4 107 ((cQs 80).enc (W64 b))]] w := by rw [he21]; exact hH
  exact zR1 (q + 1) ⟨hH, (by omega)⟩ (by omega)
  refine cxExit ?_
  refine qxThenE ?_
  refine qxThenE ?_
  refine qxInE ?_
  refine qxThen ?_
  obtain rfl : q = 8 := by omega
  have he22 : (cQs 8).enc (comp64 b s) = (cQs 8).enc (upF 8 (comp64 b s) s) := vec_congr (fun i hi => (upF_lt _ _ hi).symm)
  replace hH : HH w0 [] [[bl g1 73 ((cQs 8).enc (comp64 b s))], [bl g2 94 ((cArr 128).enc b)], [bl g3 73 ((cQs 8).enc (fun _ => 0))], [bl g4 107 ((cQs 80).enc (W64 b))]] w := by rw [he22]; exact hH
  refine zr ?_
  refine zs (hH.q 0 rfl) (.ld (cQs 8) (comp64 b s) (fun _ hS => (holds_blk0 hS))) 23 ?_
  refine ze0 2 hH rfl (.sw (cQs 8) (fun _ => 0) (comp64 b s)) trivial ?_
  clear hH
  rintro _ _ w rfl hH
  refine zn ?_
  refine cxRet ?_
  refine qxRetC 1 (hH.blk 2 rfl) rfl rfl (by kernel_rfl) (Cod.size _ _) (by kernel_rfl) ?_
  exact ⟨rfl, HH.toBelow hH⟩
end Go.Proofs.YtbbegnfopdihaaaGreatDoor

namespace Go.Proofs.YtbbegnfopdihaaaGreatDoor
open Go Go.RowKit
set_option maxRecDepth 100000

theorem takeQ_step {F : Nat → UInt8} {k : Nat} {m : List UInt8} (hF : ∀ j z, m[j]? = some z → F (128 * k + j) = z) (h : 128 ≤ m.length) : ∀ i, i < 8 → comp64 (cutF m 0) (hs64 F k) i = hs64 F (k + 1) i :=
  comp64_congr (fun j hj => by
    have hi : j < m.length := by omega
    rw [hF j m[j] (List.getElem?_eq_getElem hi)]
    unfold cutF
    rw [Nat.zero_add, List.getD_eq_getElem?_getD, List.getElem?_eq_getElem hi]; rfl) fun _ _ => rfl

set_option maxHeartbeats 8000000 in
theorem paddingq_c (n L : Nat) (hL : L = 128 * nb64 n - n) (hn : n ≤ 1152921504606846976) : Does Tryz.prog 34 #[(.int .u64 (((n) : Nat) : Int)), (.int .i64 128), (.int .i64 16)] [] (fun _ => True) (fun v E' => OwnT cByte 5 v (pdQ n) E') := by
  refine does_of (fn := Tryz.f34) Tryz.func34 rfl Tryz.ntmps34 (Nat.le_of_ble_eq_true rfl) rfl ?_
  intro w0 hH hR
  replace hH : HH w0 [] [] w0 := hH.only [false]
  have hL2 : L = 128 - (n + 16) % 128 + 16 := by rw [hL]; unfold nb64; omega
  refine zr ?_
  refine zv .mv 0 ?_
  refine zn ?_
  refine zr ?_
  refine zv .mv 1 ?_
  refine zv .mv 0 ?_
  refine zv .mv 0 ?_
  refine zv (.cu .u64 (q := 16)) 1 ?_
  refine zv (v := (.int .u64 (((n + 16) : Nat) : Int))) (fun _ _ hF => opAddU (m := n) (j := 16) (z := (n + 16)) rfl rfl (hF.ev 1 rfl) (hF.ev 0 rfl) (Nat.mod_eq_of_lt (by show _ < 18446744073709551616; omega))) 3 ?_
  refine zv .mv 8 ?_
  refine zv (.cu .u64 (q := 128)) 1 ?_
  refine zv (v := (.int .u64 ((((n + 16) % 128) : Nat) : Int))) (fun _ _ hF => opRem (z := (((n + 16) % 128 : Nat) : Int)) rfl (hF.ev 1 rfl) (hF.ev 0 rfl) (by omega) remN) 3 ?_
  refine zv .ci 1 ?_
  refine zv (.sub (((128 - (n + 16) % 128) : Nat) : Int)) 3 ?_
  refine zv .mv 1 ?_
  refine zn ?_
  refine zr ?_
  refine zv .mv 1 ?_
  refine zv .mv 4 ?_
  refine zv (.add (((L) : Nat) : Int)) 3 ?_
  refine zm hH (fun _ hF => smMake (e := 5) (n := L) (sz := 1) (by_ := 1) (z := (.int .u8 0)) (cs := madeCells (cByte.enc (0 : UInt8)) (L * 1)) rfl (by kernel_rfl) (by kernel_rfl) (hF.ev 0 rfl) (hF.ev 0 rfl) rfl rfl (by omega) (by omega) rfl) trivial 1 ?_
  clear hH
  rintro _ _ w ⟨g1, rfl, rfl⟩ hH
  refine zv .mv 1 ?_
  refine zn ?_
  refine zr ?_
  refine zv .mv 0 ?_
  have hi2 : 0 < L := by omega
  have hj5 : 0 < (List.replicate L (0 : UInt8)).length := by rw [List.length_replicate]; omega
  obtain ⟨x3, hx4⟩ := get_at (List.replicate L (0 : UInt8)) 0 hj5
  have hb6 := UInt8.toNat_lt x3
  refine zv (.ix 1 0 (hi := hi2)) 1 ?_
  obtain ⟨cur8, hcs9, hB7⟩ : ∃ cs, putL (madeCells (cByte.enc (0 : UInt8)) (L * 1)) (0 + 0 * 1) (cByte.enc 128).toList = cs ∧ Bk cByte L cs ((List.replicate L (0 : UInt8)).set 0 128) := ⟨_, rfl, put_at (Bk.make (C := cByte) (0 : UInt8) L (ltb rfl) (by unfold maxLen; omega)) 0 hj5 128⟩
  refine ze0 0 hH rfl (fun _ hF => smStoreT (C := cByte) (z := 128) rfl (hF.ev 0 rfl) rfl rfl (by kernel_rfl) (room_at (Bk.make (C := cByte) (0 : UInt8) L (ltb rfl) (by unfold maxLen; omega)) hj5) hcs9) trivial ?_
  clear hH
  rintro _ _ w rfl hH
  refine zn ?_
  refine zr ?_
  refine zv .mv 5 ?_
  refine zv (v := (.int .u64 (((n * 8) : Nat) : Int))) (fun _ _ hF => opMulU (m := n) (j := 8) (z := (n * 8)) rfl rfl (hF.ev 0 rfl) rfl (Nat.mod_eq_of_lt (by show _ < 18446744073709551616; omega))) 1 ?_
  refine zv .mv 1 ?_
  refine zn ?_
  refine cxSeq ?_
  refine zr ?_
  refine zv .mv 0 ?_
  refine zn ?_
  refine cxBlock ?_
  refine zL2 (fun (m : Nat) (_ : Array Value) => [(29, (.int .i64 (((m) : Nat) : Int))), (9, (.int .u64 (((n * 8) : Nat) : Int))), (8, (.slice (some ⟨g1, 0, none⟩) L L))]) (fun m cur' w => HH w0 [] [[bl g1 5 cur']] w ∧ (m ≤ 8) ∧ (Bk cByte L cur' (lst L (pm32 L n m)))) (fun m _ => 8 - m) 0 cur8 ⟨hH, (Nat.zero_le _), (pm_begin (show 0 < L by omega) ▸ hB7)⟩ ?_
  clear hH
  rintro m cur' w ⟨hH, hm, hB'⟩
  refine zr ?_
  refine zv (.lt (m < 8)) 0 ?_
  refine zn ?_
  refine cxSeq ?_
  refine zP (fun hc10 => ?_) (fun hc10 => ?_)
  refine cxSkip ?_
  refine qxThen ?_
  refine cxSeq ?_
  refine cxBlock ?_
  refine zr ?_
  refine zv .mv 1 ?_
  refine zv .mv 1 ?_
  refine zn ?_
  refine cxReg ?_
  refine zv .mv 0 ?_
  refine zv .mv 0 ?_
  refine zv .len 1 ?_
  refine zv (.sub (((L - 1) : Nat) : Int)) 1 ?_
  refine zv .mv 0 ?_
  refine zv (.sub (((L - 1 - m) : Nat) : Int)) 3 ?_
  refine zv .mv 0 ?_
  refine zv .mv 8 ?_
  refine zv (.mul ((8 * m : Nat) : Int)) 1 ?_
  refine zv (v := (.int .u64 ((((n * 8) / 2 ^ (8 * m)) : Nat) : Int))) (fun _ _ hF => opShrU (n := 8 * m) (z := ((n * 8) / 2 ^ (8 * m))) rfl (hF.ev 1 rfl) (hF.ev 0 rfl) (by show _ ≤ 64; omega) (rfl)) 3 ?_
  refine zv .cb 1 ?_
  have hi11 : L - 1 - m < L := by omega
  have hj14 : L - 1 - m < (lst L (pm32 L n m)).length := by rw [lst_len]; omega
  obtain ⟨x12, hx13⟩ := get_at (lst L (pm32 L n m)) (L - 1 - m) hj14
  have hb15 := UInt8.toNat_lt x12
  refine zv (.ix 1 (L - 1 - m) (hi := hi11)) 6 ?_
  obtain ⟨cur17, hcs18, hB16⟩ : ∃ cs, putL cur' (0 + (L - 1 - m) * 1) (cByte.enc (UInt8.ofNat ((n * 8) / 2 ^ (8 * m)))).toList = cs ∧ Bk cByte L cs ((lst L (pm32 L n m)).set (L - 1 - m) (UInt8.ofNat ((n * 8) / 2 ^ (8 * m)))) := ⟨_, rfl, put_at hB' (L - 1 - m) hj14 (UInt8.ofNat ((n * 8) / 2 ^ (8 * m)))⟩
  refine ze0 0 hH rfl (fun _ hF => smStoreT (C := cByte) (z := (UInt8.ofNat ((n * 8) / 2 ^ (8 * m)))) rfl (hF.ev 0 rfl) (hF.ev 1 rfl) rfl (by kernel_rfl) (room_at hB' hj14) hcs18) trivial ?_
  clear hH
  rintro _ _ w rfl hH
  refine pxEnd ?_
  refine qxInN ?_
  refine qxThen ?_
  refine cxReg ?_
  refine zv (.add ((m + 1 : Nat) : Int)) 7 ?_
  refine zv .mv 1 ?_
  refine pxEnd ?_
  exact zR2 (m + 1) cur17 ⟨hH, (by omega), (pm_step (show m < L by omega) ▸ hB16)⟩ (by omega)
  refine cxExit ?_
  refine qxThenE ?_
  refine qxThenE ?_
  refine qxInE ?_
  refine qxThen ?_
  refine zr ?_
  refine zv .mv 15 ?_
  refine zv .mv 1 ?_
  refine zn ?_
  refine cxRet ?_
  refine qxRet1 0 rfl rfl ?_
  obtain rfl : m = 8 := by omega
  have he : lst L (pm32 L n 8) = pdQ n := by rw [hL]; rfl
  exact ⟨_, _, rfl, (he ▸ hB'.own 5 g1 (lst_len _ _)), hH.out1 [true] rfl⟩

set_option maxHeartbeats 8000000 in
theorem takeq_c (F : Nat → UInt8) (k q : Nat) (A : Option Addr) (n c : Nat) (m : List UInt8) (hF : ∀ j z, m[j]? = some z → F (128 * k + j) = z) (hn : n = 128 * q) (_hb : n ≤ 1152921504606846976) : Pure Tryz.prog 46 #[((cQs 8).val (hs64 F k)), (.slice A n c)] (fun w => w.heap[3]? = some (.cells ((cQs 80).enc K64) 107 (0, 0)) ∧ Vu cByte w A n c m) ((cQs 8).val (hs64 F (k + q))) := by
  refine pure_of (fn := Tryz.f46) Tryz.func46 rfl Tryz.ntmps46 (Nat.le_of_ble_eq_true rfl) rfl ?_
  intro w0 hH hR
  refine zr ?_
  refine zm hH (.bx (cQs 8) (hs64 F k)) trivial 1 ?_
  clear hH
  rintro _ _ w ⟨g1, rfl, rfl⟩ hH
  refine zm hH (.al (cQs 8) (fun _ => 0)) trivial 0 ?_
  clear hH
  rintro _ _ w ⟨g2, rfl, rfl⟩ hH
  refine zn ?_
  refine cxSeq ?_
  refine cxBlock ?_
  refine zL5 (fun (A1 : Option Addr) (n1 : Nat) (c1 : Nat) (_ : List UInt8) (_ : Nat) => [(4, (.pointer (some ⟨g2, 0, none⟩))), (2, (.pointer (some ⟨g1, 0, none⟩))), (1, (.slice A1 n1 c1))]) (fun A1 n1 c1 m1 k1 w => HH w0 [] [[bl g1 73 ((cQs 8).enc (hs64 F k1))], [bl g2 73 ((cQs 8).enc (fun _ => 0))]] w ∧ (Vu cByte w0 A1 n1 c1 m1) ∧ (∀ j z, m1[j]? = some z → F (128 * k1 + j) = z) ∧ (n1 + 128 * k1 = 128 * (k + q)) ∧ (k1 ≤ k + q)) (fun _ n1 _ _ _ => n1) A n c m k ⟨hH, hR.2, hF, (by omega), (by omega)⟩ ?_
  clear hH
  rintro A1 n1 c1 m1 k1 w ⟨hH, hV, hF1, hk, hkq⟩
  refine cxSeq ?_
  refine zr ?_
  refine zv .mv 0 ?_
  refine zv .len 1 ?_
  refine zv (.ge (n1 ≥ 128)) 1 ?_
  refine zn ?_
  refine zP (fun hc3 => ?_) (fun hc3 => ?_)
  refine cxSkip ?_
  refine qxThen ?_
  refine cxBlock ?_
  have hlm := hV.len; have hcm := hV.cap
  obtain ⟨b4, off5, rfl, hL6, hb7, hR8⟩ := hV.blk (by decide) (Off.nil _ _) (by omega)
  have := hV.cap
  refine zx ?_
  replace hH := hH.drew
  refine rld 0 (hH.q 0 rfl) (.ld (cQs 8) (hs64 F k1) (fun _ hS => (holds_blk0 hS))) 1 ?_
  refine rv 1 .mv 0 ?_
  refine rv 2 (v := (.pointer (some ⟨b4, off5, none⟩))) (fun _ _ hF => opToArray (m := 128) (e := 5) rfl (by kernel_rfl) (hF.ev 0 rfl) (by omega)) 1 ?_
  refine rld 3 (S := fun w => HoldsL cByte w b4 off5 m1) (hH.holdsL hL6 hb7 hR8) (.ld (cArr 128) (cutF m1 0) (fun _ hS => (hS.arr 0 128 (by first | omega | (simp only [List.length_drop, List.length_take]; omega))))) 1 ?_
  refine rx1k 4 (rpc 4 Tryz.func59 ((oneq_c (hs64 F k1) (cutF m1 0)).as (vec_val_congr (takeQ_step hF1 (by omega))) ) (hH.oldBlk hR.1 (by simp)) hH 3 (pgo [] (pgo [] (.nil _ []))) ?_)
  clear hH
  intro w hH
  refine ⟨pnil, ?_⟩
  refine rx1k 5 ?_
  refine re0 5 0 hH rfl (.sw (cQs 8) (hs64 F k1) (hs64 F (k1 + 1))) trivial (.nil _ []) ?_
  clear hH
  rintro _ _ w rfl hH
  refine ⟨pnil, ?_⟩
  refine rn ?_
  refine cxReg ?_
  refine zv .mv 9 ?_
  refine zv (v := (.slice (cutA (some ⟨b4, off5, none⟩) c1 128 1) (n1 - 128) (c1 - 128))) (fun _ _ hF => opCutL (k := 128) (e := 5) (sz := 1) rfl (by kernel_rfl) (by kernel_rfl) (hF.ev 0 rfl) rfl rfl (by omega)) 1 ?_
  refine zv .mv 1 ?_
  refine pxEnd ?_
  refine qxInN ?_
  exact zR5 (cutA (some ⟨b4, off5, none⟩) c1 128 1) (n1 - 128) (c1 - 128) (m1.drop 128) (k1 + 1) ⟨hH, (hV.from (show 128 ≤ n1 by omega)), (fun j z hz => by rw [Nat.mul_add, Nat.add_assoc]; exact hF1 _ _ (by rw [List.getElem?_drop] at hz; exact hz)), (by omega), (by omega)⟩ (by omega)
  refine cxExit ?_
  refine qxThenE ?_
  refine qxThenE ?_
  refine qxInE ?_
  refine qxThen ?_
  obtain rfl : k1 = k + q := by omega
  refine zr ?_
  refine zs (hH.q 0 rfl) (.ld (cQs 8) (hs64 F (k + q)) (fun _ hS => (holds_blk0 hS))) 13 ?_
  refine ze0 1 hH rfl (.sw (cQs 8) (fun _ => 0) (hs64 F (k + q))) trivial ?_
  clear hH
  rintro _ _ w rfl hH
  refine zn ?_
  refine cxRet ?_
  refine qxRetC 1 (hH.blk 1 rfl) rfl rfl (by kernel_rfl) (Cod.size _ _) (by kernel_rfl) ?_
  exact ⟨rfl, HH.toBelow hH⟩

set_option maxHeartbeats 8000000 in
theorem sumq_c (A : Option Addr) (n c : Nat) (l : List UInt8) (hb : n ≤ 140737488351232) : Pure Tryz.prog 36 #[(.slice A n c)] (fun w => w.heap[3]? = some (.cells ((cQs 80).enc K64) 107 (0, 0)) ∧ w.heap[2]? = some (.cells ((cQs 8).enc H64) 73 (0, 0)) ∧ Vu cByte w A n c l) ((cArr 64).val (shaQ l)) := by
  refine pure_of (fn := Tryz.f36) Tryz.func36 rfl Tryz.ntmps36 (Nat.le_of_ble_eq_true rfl) rfl ?_
  intro w0 hH hR
  have hn := hR.2.2.len; have hcap := hR.2.2.cap; have hnb := nb64_ge n
  obtain ⟨F, hF⟩ : ∃ F, F = pad64 n fun j => l.getD j 0 := ⟨_, rfl⟩
  have hF0 : ∀ j z, (l.take (128 * (n / 128)))[j]? = some z → F j = z := fun j z hz => by
    rw [List.getElem?_take] at hz
    split at hz
    · rw [hF, ← pad64_low n _ j (by omega)]
      show l.getD j 0 = z
      rw [List.getD_eq_getElem?_getD, hz]; rfl
    · cases hz
  have hF2 : ∀ j z, (l.drop (128 * (n / 128)) ++ pdQ n)[j]? = some z → F (128 * (0 + n / 128) + j) = z := fun j z hz => by
    have hl : (l.drop (128 * (n / 128))).length = n - 128 * (n / 128) := by rw [List.length_drop, hn]
    rw [Nat.zero_add, hF]
    by_cases h : j < n - 128 * (n / 128)
    · rw [List.getElem?_append_left (by omega), List.getElem?_drop] at hz
      rw [← pad64_low n _ _ (by omega)]
      show l.getD _ 0 = z
      rw [List.getD_eq_getElem?_getD, hz]; rfl
    · rw [List.getElem?_append_right (by omega), hl] at hz
      have := pdQ_at (n := n) (fun j => l.getD j 0) _ z hz
      rw [← this]
      congr 1
      omega
  refine zr ?_
  refine zm hH (.al (cArr 64) (fun _ => 0)) trivial 0 ?_
  clear hH
  rintro _ _ w ⟨g1, rfl, rfl⟩ hH
  refine zn ?_
  refine zr ?_
  refine zv .mv 0 ?_
  refine zv .len 1 ?_
  refine zv .mv 0 ?_
  refine zv .len 1 ?_
  refine zv (v := (.int .i64 (((n % 128) : Nat) : Int))) (fun _ _ hF => opRem (z := ((n % 128 : Nat) : Int)) rfl (hF.ev 0 rfl) rfl (by omega) remN) 1 ?_
  refine zv (.sub (((128 * (n / 128)) : Nat) : Int)) 3 ?_
  refine zv .mv 1 ?_
  refine zn ?_
  refine zr ?_
  refine zm hH (fun _ hF => smLit0 (e := 5) rfl (by kernel_rfl) (by kernel_rfl)) trivial 0 ?_
  clear hH
  rintro _ _ w ⟨g2, rfl, rfl⟩ hH
  refine zv .mv 0 ?_
  refine zv .mv 0 ?_
  refine zv (v := (.slice (cutA A c (128 * (n / 128)) 1) (n - (128 * (n / 128))) (c - (128 * (n / 128))))) (fun _ _ hF => opCutL (k := 128 * (n / 128)) (e := 5) (sz := 1) rfl (by kernel_rfl) (by kernel_rfl) (hF.ev 1 rfl) (hF.ev 0 rfl) rfl (by omega)) 3 ?_
  refine ze 1 hH rfl (fun _ hF => smAppT (C := cByte) (l := []) (m := (l.drop (128 * (n / 128)))) (e := 5) (z := (.int .u8 0)) (by_ := 1) rfl (by kernel_rfl) (by kernel_rfl) rfl (ltb rfl) (hF.ev 1 rfl) ((Bk.lit0 (C := cByte)).own 5 g2 rfl) (hF.ev 0 rfl) (by rw [List.length_drop]; omega) (fun h => by have h2 := (hR.2.2.from (k := 128 * (n / 128)) (by omega)); exact ⟨by have := h2.nil h; have := h2.cap; omega, h2.nil h⟩) (by rw [List.length_nil]; unfold maxLen; omega) (by rw [List.length_nil]; omega)) ((hH.vu hR.2.2 (by decide) (Off.nil _ _)).from (k := 128 * (n / 128)) (by omega)) 3 ?_
  clear hH
  rintro v5 E6 w ⟨hO7, _⟩ hH
  replace hO7 : OwnT cByte 5 v5 (l.drop (128 * (n / 128))) E6 := hO7
  obtain ⟨A3, c4, rfl⟩ := hO7.slice
  refine zv .mv 1 ?_
  refine zn ?_
  refine zr ?_
  refine zv .mv 1 ?_
  refine zv .mv 0 ?_
  refine zv .len 1 ?_
  refine zv (.cu .u64) 1 ?_
  refine zm hH (.call Tryz.func34 ((paddingq_c n _ rfl (by omega)))) trivial 1 ?_
  clear hH
  rintro v12 E8 w hO9 hH
  obtain ⟨A10, c11, rfl⟩ := hO9.slice
  refine ze 1 hH rfl (fun _ hF => smAppT (C := cByte) (l := (l.drop (128 * (n / 128)))) (m := (pdQ n)) (e := 5) (z := (.int .u8 0)) (by_ := 1) rfl (by kernel_rfl) (by kernel_rfl) rfl (ltb rfl) (hF.ev 1 rfl) hO7 (hF.ev 0 rfl) rfl hO9.nilA (by rw [List.length_drop, pdQ_len]; unfold maxLen; omega) (by rw [List.length_drop, pdQ_len]; omega)) (hO9.vuAt (hH.has 2 rfl)) 3 ?_
  clear hH
  rintro v16 E17 w ⟨hO18, _⟩ hH
  replace hO18 : OwnT cByte 5 v16 ((l.drop (128 * (n / 128))) ++ (pdQ n)) E17 := hO18
  obtain ⟨A14, c15, rfl⟩ := hO18.slice
  refine zv .mv 1 ?_
  refine zn ?_
  refine zx ?_
  replace hH := hH.drew
  refine rld 0 (hH.ob hR.2.1) (.ld (cQs 8) H64 (fun _ hS => (holds_blk0 hS))) 0 ?_
  refine rv 1 .mv 16 ?_
  refine rv 2 .mv 8 ?_
  refine rv 3 (v := (.slice A (128 * (n / 128)) c)) (fun _ _ hF => opCutH (h := 128 * (n / 128)) (e := 5) (sz := 1) rfl (by kernel_rfl) (by kernel_rfl) (hF.ev 1 rfl) (hF.ev 0 rfl) rfl (by omega)) 3 ?_
  refine rv 5 .mv 4 ?_
  refine rx1k 4 (rpc 4 Tryz.func46 (takeq_c F 0 (n / 128) A (128 * (n / 128)) c (l.take (128 * (n / 128))) (fun j z hz => by rw [Nat.mul_zero, Nat.zero_add]; exact hF0 j z hz) rfl (by omega)) (⟨hH.oldBlk hR.1 (by simp), ((hH.vu hR.2.2 (by decide) (Off.nil _ _)).head (m := 128 * (n / 128)) (by omega))⟩) hH 6 (pgo [] (.nil _ [])) ?_)
  clear hH
  intro w hH
  refine ⟨pnil, ?_⟩
  refine rx1k 6 (rpc 6 Tryz.func46 (takeq_c F (0 + n / 128) (nb64 n - n / 128) A14 (((l.drop (128 * (n / 128))) ++ (pdQ n)).length) c15 ((l.drop (128 * (n / 128))) ++ (pdQ n)) hF2 (by rw [List.length_append, List.length_drop, pdQ_len]; omega) (by rw [List.length_append, List.length_drop, pdQ_len]; omega)) (⟨hH.oldBlk hR.1 (by simp), (hO18.vuAt (hH.has 1 rfl))⟩) hH 3 (.nil _ []) ?_)
  clear hH
  intro w hH
  refine ⟨pnil, ?_⟩
  refine rx1k 7 (rpc 7 Tryz.func45 (bytesq_c (hs64 F (0 + n / 128 + (nb64 n - n / 128)))) trivial hH 1 (.nil _ []) ?_)
  clear hH
  intro w hH
  refine ⟨pnil, ?_⟩
  refine rx1k 8 ?_
  refine re0 8 0 hH rfl (.sw (cArr 64) (fun _ => 0) (out64 (hs64 F (0 + n / 128 + (nb64 n - n / 128))))) trivial (.nil _ []) ?_
  clear hH
  rintro _ _ w rfl hH
  refine ⟨pnil, ?_⟩
  refine rn ?_
  refine cxRet ?_
  refine qxRetC 1 (hH.blk 0 rfl) rfl rfl (by kernel_rfl) (Cod.size _ _) (by kernel_rfl) ?_
  have he : out64 (hs64 F (0 + n / 128 + (nb64 n - n / 128))) = shaQ l := by rw [show 0 + n / 128 + (nb64 n - n / 128) = nb64 n by omega, hF]; subst hn; rfl
  rw [he]
  exact ⟨rfl, HH.toBelow hH⟩
end Go.Proofs.YtbbegnfopdihaaaGreatDoor

namespace Go.Proofs.YtbbegnfopdihaaaGreatDoor
open Go Go.RowKit
set_option maxRecDepth 100000

/-- A seed's number and its prefix, of its hash. -/
def nmB (X : Nat → UInt8) : Bt := stF (stF (cutF ((lst 64 X).take 32) 0) 0 (cutF ((lst 64 X).take 32) 0 0 &&& ~~~7)) 31 ((stF (cutF ((lst 64 X).take 32) 0) 0 (cutF ((lst 64 X).take 32) 0 0 &&& ~~~7) 31 &&& ~~~128) ||| 64)
def pfB (X : Nat → UInt8) : Bt := cutF (lst 64 X) 32
/-- A seed's public key. -/
def edPub (s : Bt) : Bt := ptBase (nmB (shaQ (lst 32 s)))

set_option maxHeartbeats 8000000 in
theorem halves_c (s : Bt) : Pure Tryz.prog 30 #[((cArr 32).val s)] (fun w => w.heap[3]? = some (.cells ((cQs 80).enc K64) 107 (0, 0)) ∧ w.heap[2]? = some (.cells ((cQs 8).enc H64) 73 (0, 0))) (.tuple #[(cArr 32).val (nmB (shaQ (lst 32 s))), (cArr 32).val (pfB (shaQ (lst 32 s)))]) := by
  refine pure_of (fn := Tryz.f30) Tryz.func30 rfl Tryz.ntmps30 (Nat.le_of_ble_eq_true rfl) rfl ?_
  intro w0 hH hR
  refine zr ?_
  refine zm hH (.bx (cArr 32) s) trivial 1 ?_
  clear hH
  rintro _ _ w ⟨g1, rfl, rfl⟩ hH
  refine zm hH (.al (cArr 32) (fun _ => 0)) trivial 0 ?_
  clear hH
  rintro _ _ w ⟨g2, rfl, rfl⟩ hH
  refine zm hH (.al (cArr 32) (fun _ => 0)) trivial 0 ?_
  clear hH
  rintro _ _ w ⟨g3, rfl, rfl⟩ hH
  refine zn ?_
  refine zr ?_
  refine zv (v := (.slice (some ⟨g1, 0, none⟩) 32 32)) (fun _ _ hF => opSliceA (n := 32) (e := 5) (sz := 1) rfl (by kernel_rfl) (by kernel_rfl) (hF.ev 2 rfl)) 4 ?_
  refine zc Tryz.func36 (sumq_c (some ⟨g1, 0, none⟩) 32 32 (lst 32 s) (by decide)) (⟨hH.oldBlk hR.1 (by simp), hH.oldBlk hR.2 (by simp), (vu_arr (hH.blk 0 rfl))⟩) hH 1 ?_
  clear hH
  intro w hH
  refine zm hH (.al (cArr 64) (fun _ => 0)) trivial 0 ?_
  clear hH
  rintro _ _ w ⟨g4, rfl, rfl⟩ hH
  refine ze0 3 hH rfl (.sw (cArr 64) (fun _ => 0) (shaQ (lst 32 s))) trivial ?_
  clear hH
  rintro _ _ w rfl hH
  refine zn ?_
  refine zx ?_
  replace hH := hH.drew
  refine rv 0 (v := (.slice (some ⟨g4, 0, none⟩) 32 64)) (fun _ _ hF => opSliceAH (m := 64) (h := 32) (e := 5) (sz := 1) rfl (by kernel_rfl) (by kernel_rfl) (hF.ev 0 rfl) rfl rfl (by omega)) 2 ?_
  refine rv 1 (v := (.pointer (some ⟨g4, 0, none⟩))) (fun _ _ hF => opToArray (m := 32) (e := 5) rfl (by kernel_rfl) (hF.ev 0 rfl) (by omega)) 1 ?_
  refine rld 2 (hH.q 3 rfl) (.ld (cArr 32) (cutF ((lst 64 (shaQ (lst 32 s))).take 32) 0) (fun _ hS => (((holdsL_arr hS).cut 0 32).arr 0 32 (by first | omega | (rw [lst_len]; omega) | (simp only [List.length_drop, List.length_take, lst_len]; omega) | (simp only [List.length_drop, List.length_take]; omega))))) 1 ?_
  refine rv 3 (v := (.slice (some ⟨g4, 0 + 32 * 1, none⟩) (64 - 32) (64 - 32))) (fun _ _ hF => opSliceAL (m := 64) (l := 32) (e := 5) (sz := 1) rfl (by kernel_rfl) (by kernel_rfl) (hF.ev 1 rfl) rfl rfl (by omega)) 2 ?_
  refine rv 4 (v := (.pointer (some ⟨g4, 0 + 32 * 1, none⟩))) (fun _ _ hF => opToArray (m := 32) (e := 5) rfl (by kernel_rfl) (hF.ev 0 rfl) (by omega)) 1 ?_
  refine rld 5 (hH.q 3 rfl) (.ld (cArr 32) (cutF (lst 64 (shaQ (lst 32 s))) 32) (fun _ hS => ((holdsL_arr hS).arr 32 32 (by first | omega | (rw [lst_len]; omega) | (simp only [List.length_drop, List.length_take, lst_len]; omega) | (simp only [List.length_drop, List.length_take]; omega))))) 1 ?_
  refine rx1k 6 ?_
  refine re0 6 1 hH rfl (.sw (cArr 32) (fun _ => 0) (cutF ((lst 64 (shaQ (lst 32 s))).take 32) 0)) trivial (.keep (pgo [] (.nil _ []))) ?_
  clear hH
  rintro _ _ w rfl hH
  refine ⟨pcons (hH.blk 3 rfl) pnil, ?_⟩
  refine rx1k 7 ?_
  refine re0 7 2 hH rfl (.sw (cArr 32) (fun _ => 0) (cutF (lst 64 (shaQ (lst 32 s))) 32)) trivial (pgo [] (.nil _ [])) ?_
  clear hH
  rintro _ _ w rfl hH
  refine ⟨pnil, ?_⟩
  refine rn ?_
  refine zr ?_
  have hi5 : 0 < 32 := by omega
  refine zv (.ia 1 32 0 (hi := hi5)) 3 ?_
  refine zs (hH.q 1 rfl) (.ld cByte ((cutF ((lst 64 (shaQ (lst 32 s))).take 32) 0) 0) (fun _ hS => ((holds_blk0 hS).elt hi5))) 1 ?_
  refine zv (.nb (((cutF ((lst 64 (shaQ (lst 32 s))).take 32) 0) 0) &&& ~~~(7 : UInt8)) (u := ((cutF ((lst 64 (shaQ (lst 32 s))).take 32) 0) 0)) (v := (7 : UInt8))) 1 ?_
  have hi6 : 0 < 32 := by omega
  refine zv (.ia 1 32 0 (hi := hi6)) 0 ?_
  refine ze0 1 hH rfl (.st cByte (((cutF ((lst 64 (shaQ (lst 32 s))).take 32) 0) 0) &&& ~~~(7 : UInt8)) (room_1 (S := sBy) (C := (cArr 32)) rfl hi6) (arr_set0 (cutF ((lst 64 (shaQ (lst 32 s))).take 32) 0) (((cutF ((lst 64 (shaQ (lst 32 s))).take 32) 0) 0) &&& ~~~(7 : UInt8)) hi6)) trivial ?_
  clear hH
  rintro _ _ w rfl hH
  refine zn ?_
  refine zr ?_
  have hi7 : 31 < 32 := by omega
  refine zv (.ia 1 32 31 (hi := hi7)) 3 ?_
  refine zs (hH.q 1 rfl) (.ld cByte ((stF (cutF ((lst 64 (shaQ (lst 32 s))).take 32) 0) 0 (((cutF ((lst 64 (shaQ (lst 32 s))).take 32) 0) 0) &&& ~~~(7 : UInt8))) 31) (fun _ hS => ((holds_blk0 hS).elt hi7))) 1 ?_
  refine zv (.nb (((stF (cutF ((lst 64 (shaQ (lst 32 s))).take 32) 0) 0 (((cutF ((lst 64 (shaQ (lst 32 s))).take 32) 0) 0) &&& ~~~(7 : UInt8))) 31) &&& ~~~(128 : UInt8)) (u := ((stF (cutF ((lst 64 (shaQ (lst 32 s))).take 32) 0) 0 (((cutF ((lst 64 (shaQ (lst 32 s))).take 32) 0) 0) &&& ~~~(7 : UInt8))) 31)) (v := (128 : UInt8))) 1 ?_
  refine zv (.ob ((((stF (cutF ((lst 64 (shaQ (lst 32 s))).take 32) 0) 0 (((cutF ((lst 64 (shaQ (lst 32 s))).take 32) 0) 0) &&& ~~~(7 : UInt8))) 31) &&& ~~~(128 : UInt8)) ||| (64 : UInt8)) (u := (((stF (cutF ((lst 64 (shaQ (lst 32 s))).take 32) 0) 0 (((cutF ((lst 64 (shaQ (lst 32 s))).take 32) 0) 0) &&& ~~~(7 : UInt8))) 31) &&& ~~~(128 : UInt8))) (v := (64 : UInt8))) 1 ?_
  have hi8 : 31 < 32 := by omega
  refine zv (.ia 1 32 31 (hi := hi8)) 0 ?_
  refine ze0 1 hH rfl (.st cByte ((((stF (cutF ((lst 64 (shaQ (lst 32 s))).take 32) 0) 0 (((cutF ((lst 64 (shaQ (lst 32 s))).take 32) 0) 0) &&& ~~~(7 : UInt8))) 31) &&& ~~~(128 : UInt8)) ||| (64 : UInt8)) (room_1 (S := sBy) (C := (cArr 32)) rfl hi8) (arr_set0 (stF (cutF ((lst 64 (shaQ (lst 32 s))).take 32) 0) 0 (((cutF ((lst 64 (shaQ (lst 32 s))).take 32) 0) 0) &&& ~~~(7 : UInt8))) ((((stF (cutF ((lst 64 (shaQ (lst 32 s))).take 32) 0) 0 (((cutF ((lst 64 (shaQ (lst 32 s))).take 32) 0) 0) &&& ~~~(7 : UInt8))) 31) &&& ~~~(128 : UInt8)) ||| (64 : UInt8)) hi8)) trivial ?_
  clear hH
  rintro _ _ w rfl hH
  refine zn ?_
  refine zx ?_
  replace hH := hH.drew
  refine rld 0 (hH.q 1 rfl) (.ld (cArr 32) (stF (stF (cutF ((lst 64 (shaQ (lst 32 s))).take 32) 0) 0 (((cutF ((lst 64 (shaQ (lst 32 s))).take 32) 0) 0) &&& ~~~(7 : UInt8))) 31 ((((stF (cutF ((lst 64 (shaQ (lst 32 s))).take 32) 0) 0 (((cutF ((lst 64 (shaQ (lst 32 s))).take 32) 0) 0) &&& ~~~(7 : UInt8))) 31) &&& ~~~(128 : UInt8)) ||| (64 : UInt8))) (fun _ hS => (holds_blk0 hS))) 3 ?_
  refine rld 1 (hH.q 2 rfl) (.ld (cArr 32) (cutF (lst 64 (shaQ (lst 32 s))) 32) (fun _ hS => (holds_blk0 hS))) 0 ?_
  refine rx1k 2 ?_
  refine re0 2 1 hH rfl (.sw (cArr 32) (stF (stF (cutF ((lst 64 (shaQ (lst 32 s))).take 32) 0) 0 (((cutF ((lst 64 (shaQ (lst 32 s))).take 32) 0) 0) &&& ~~~(7 : UInt8))) 31 ((((stF (cutF ((lst 64 (shaQ (lst 32 s))).take 32) 0) 0 (((cutF ((lst 64 (shaQ (lst 32 s))).take 32) 0) 0) &&& ~~~(7 : UInt8))) 31) &&& ~~~(128 : UInt8)) ||| (64 : UInt8))) (stF (stF (cutF ((lst 64 (shaQ (lst 32 s))).take 32) 0) 0 (((cutF ((lst 64 (shaQ (lst 32 s))).take 32) 0) 0) &&& ~~~(7 : UInt8))) 31 ((((stF (cutF ((lst 64 (shaQ (lst 32 s))).take 32) 0) 0 (((cutF ((lst 64 (shaQ (lst 32 s))).take 32) 0) 0) &&& ~~~(7 : UInt8))) 31) &&& ~~~(128 : UInt8)) ||| (64 : UInt8)))) trivial (.keep (pgo [] (.nil _ []))) ?_
  clear hH
  rintro _ _ w rfl hH
  refine ⟨pcons (hH.blk 2 rfl) pnil, ?_⟩
  refine rx1k 3 ?_
  refine re0 3 2 hH rfl (.sw (cArr 32) (cutF (lst 64 (shaQ (lst 32 s))) 32) (cutF (lst 64 (shaQ (lst 32 s))) 32)) trivial (pgo [] (.nil _ [])) ?_
  clear hH
  rintro _ _ w rfl hH
  refine ⟨pnil, ?_⟩
  refine rn ?_
  refine cxRet ?_
  refine qxRetCC 3 2 (hH.blk 1 rfl) (hH.blk 2 rfl) rfl rfl rfl (by kernel_rfl) (by kernel_rfl) (Cod.size _ _) (Cod.size _ _) (by kernel_rfl) (by kernel_rfl) ?_
  exact ⟨rfl, HH.toBelow hH⟩

set_option maxHeartbeats 8000000 in
theorem edPub_c (s : Bt) : Pure Tryz.prog 19 #[((cArr 32).val s)] (fun w => w.heap[3]? = some (.cells ((cQs 80).enc K64) 107 (0, 0)) ∧ w.heap[2]? = some (.cells ((cQs 8).enc H64) 73 (0, 0))) ((cArr 32).val (edPub s)) := by
  refine pure_of (fn := Tryz.f19) Tryz.func19 rfl Tryz.ntmps19 (Nat.le_of_ble_eq_true rfl) rfl ?_
  intro w0 hH hR
  refine zr ?_
  refine zm hH (.bx (cArr 32) s) trivial 1 ?_
  clear hH
  rintro _ _ w ⟨g1, rfl, rfl⟩ hH
  refine zm hH (.al (cArr 32) (fun _ => 0)) trivial 0 ?_
  clear hH
  rintro _ _ w ⟨g2, rfl, rfl⟩ hH
  refine zn ?_
  refine zr ?_
  refine zs (hH.q 0 rfl) (.ld (cArr 32) s (fun _ hS => (holds_blk0 hS))) 2 ?_
  refine zc Tryz.func30 (halves_c s) (⟨hH.oldBlk hR.1 (by simp), hH.oldBlk hR.2 (by simp)⟩) hH 1 ?_
  clear hH
  intro w hH
  refine zv .mv 1 ?_
  refine zv .ext 0 ?_
  refine zv .ext 2 ?_
  refine zm hH (.al (cArr 32) (fun _ => 0)) trivial 0 ?_
  clear hH
  rintro _ _ w ⟨g3, rfl, rfl⟩ hH
  refine zm hH (.al (cArr 32) (fun _ => 0)) trivial 0 ?_
  clear hH
  rintro _ _ w ⟨g4, rfl, rfl⟩ hH
  refine ze0 2 hH rfl (.sw (cArr 32) (fun _ => 0) (nmB (shaQ (lst 32 s)))) trivial ?_
  clear hH
  rintro _ _ w rfl hH
  refine ze0 3 hH rfl (.sw (cArr 32) (fun _ => 0) (pfB (shaQ (lst 32 s)))) trivial ?_
  clear hH
  rintro _ _ w rfl hH
  refine zn ?_
  refine zr ?_
  refine zs (hH.q 2 rfl) (.ld (cArr 32) (nmB (shaQ (lst 32 s))) (fun _ hS => (holds_blk0 hS))) 15 ?_
  refine zc Tryz.func31 (ptBase_c (nmB (shaQ (lst 32 s)))) trivial hH 1 ?_
  clear hH
  intro w hH
  refine ze0 1 hH rfl (.sw (cArr 32) (fun _ => 0) (ptBase (nmB (shaQ (lst 32 s))))) trivial ?_
  clear hH
  rintro _ _ w rfl hH
  refine zn ?_
  refine cxRet ?_
  refine qxRetC 1 (hH.blk 1 rfl) rfl rfl (by kernel_rfl) (Cod.size _ _) (by kernel_rfl) ?_
  exact ⟨rfl, HH.toBelow hH⟩
end Go.Proofs.YtbbegnfopdihaaaGreatDoor

namespace Go.Proofs.YtbbegnfopdihaaaGreatDoor
open Go Go.RowKit

abbrev cP2 : Cod (Bt × Bt) := cPair (cArr 32) (cArr 32)
def facE : Bt := fun i => [65, 219, 1].getD i 0
def xPl (a b : Bt × Bt) (u : Bt) : Bt × Bt :=
  (fM (fA (fM (fA a.1 a.2) (fS b.1 b.2)) (fM (fS a.1 a.2) (fA b.1 b.2))) (fA (fM (fA a.1 a.2) (fS b.1 b.2)) (fM (fS a.1 a.2) (fA b.1 b.2))),
    fM u (fM (fS (fM (fA a.1 a.2) (fS b.1 b.2)) (fM (fS a.1 a.2) (fA b.1 b.2))) (fS (fM (fA a.1 a.2) (fS b.1 b.2)) (fM (fS a.1 a.2) (fA b.1 b.2)))))
def xDb (a : Bt × Bt) : Bt × Bt :=
  (fM (fM (fA a.1 a.2) (fA a.1 a.2)) (fM (fS a.1 a.2) (fS a.1 a.2)),
    fM (fS (fM (fA a.1 a.2) (fA a.1 a.2)) (fM (fS a.1 a.2) (fS a.1 a.2))) (fA (fM (fA a.1 a.2) (fA a.1 a.2)) (fM facE (fS (fM (fA a.1 a.2) (fA a.1 a.2)) (fM (fS a.1 a.2) (fS a.1 a.2))))))
/-- a with b brought in by a mask, as far as i. -/
def mx8 (m : UInt8) (i : Nat) (a b : Bt) : Bt := fun j => if j < i then a j ^^^ (m &&& (a j ^^^ b j)) else a j
theorem mx8_0 (m : UInt8) (a b : Bt) : mx8 m 0 a b = a := by funext j; simp [mx8]
theorem mx8_at (m : UInt8) (i : Nat) (a b : Bt) : mx8 m i a b i = a i := by simp [mx8]
theorem mx8_succ (m : UInt8) (i : Nat) (a b : Bt) : stF (mx8 m i a b) i (a i ^^^ (m &&& (a i ^^^ b i))) = mx8 m (i + 1) a b := by
  funext j
  unfold stF mx8
  by_cases h : j = i
  · subst h; simp
  · by_cases h2 : j < i
    · simp [h, h2, Nat.lt_succ_of_lt h2]
    · have h3 : ¬ j < i + 1 := by omega
      simp [h, h2, h3]
theorem mx8_succ' (m : UInt8) (i : Nat) (a b : Bt) : stF (mx8 m i a b) i (a i ^^^ (m &&& (b i ^^^ a i))) = mx8 m (i + 1) a b := by
  rw [UInt8.xor_comm (b i), mx8_succ]
def sxP (t : UInt8) (p q : Bt × Bt) : Bt × Bt := (mx8 (-t) 32 p.1 q.1, mx8 (-t) 32 p.2 q.2)
/-- The ladder behind k of the 255 bits, the highest first: the last bit, both places. -/
def xLad (n u : Bt) : Nat → UInt8 × (Bt × Bt) × (Bt × Bt)
  | 0 => (0, (oneB, fun _ => 0), (u, oneB))
  | k + 1 =>
    (bitB n (254 - k), xDb (sxP ((xLad n u k).1 ^^^ bitB n (254 - k)) (xLad n u k).2.1 (xLad n u k).2.2),
      xPl (sxP ((xLad n u k).1 ^^^ bitB n (254 - k)) (xLad n u k).2.1 (xLad n u k).2.2) (sxP ((xLad n u k).1 ^^^ bitB n (254 - k)) (xLad n u k).2.2 (xLad n u k).2.1) u)
def xPr (n u : Bt) : Bt := fM (xLad n u 255).2.1.1 (fI (xLad n u 255).2.1.2)
def xNm (s : Bt) : Bt := stF (stF s 0 (s 0 &&& ~~~7)) 31 ((stF s 0 (s 0 &&& ~~~7) 31 &&& ~~~128) ||| 64)
def xPt (u : Bt) : Bt := stF u 31 (u 31 &&& ~~~128)
def xMulB (s u : Bt) : Bt := xPr (xNm s) (xPt u)
def nineE : Bt := fun i => if i = 0 then 9 else 0
def xPub (s : Bt) : Bt := xMulB s nineE
end Go.Proofs.YtbbegnfopdihaaaGreatDoor
