/- What comes in, opened by its type: data of codecs, with what lies behind slices. Plain theorems, over any program. -/
import Derived.Test.YticflflbogdljaaDoorVc
import Derived.OpenShut
import Derived.Deep.Slices
import Derived.SizedLaws
import Derived.WideShapes
import Derived.ChangeArms
namespace Go.Proofs.YticflflbogdljaaDoor
open Go Go.RowKit Go.WideShapes Go.Deep

/-- Whatever is read as type t is a datum of C, of which Ok holds. -/
def Opens {α : Type} (P : Program) (t : TypeId) (C : Cod α) (Ok : World → α → Prop) : Prop :=
  ∀ {H : Type} (enc : TypeId × Value → H) (w : World) (fuel : Nat) (cs : List Value) (x : DataW H × List MemPlace), DataW.trod enc P w 0 (fun _ => true) true fuel t cs = some x → (x.1.weights P t).all (· ≤ reachBytes) = true → ∃ a, cs = (C.enc a).toList ∧ Ok w a

section
variable {P : Program} {t e : TypeId} {α β : Type} {A C : Cod α} {B : Cod β} {Ok OkA : World → α → Prop} {OkB : World → β → Prop}
theorem opens_i64 (hu : P.underlying t = some (.int .i64)) : Opens P t (cInt .i64) (fun _ i => -9223372036854775808 ≤ i ∧ i ≤ 9223372036854775807) := fun enc w fuel cs x h _ => by
  obtain ⟨n, rfl, _, hw⟩ := DataW.trod_int hu h
  refine ⟨n, rfl, ?_⟩
  simp [Lit.wf, IntKind.min, IntKind.max, IntKind.signed, IntKind.bits] at hw
  omega
theorem opens_byte (hu : P.underlying t = some (.int .u8)) : Opens P t cByte (fun _ _ => True) := fun enc w fuel cs x h _ => by
  obtain ⟨n, rfl, _, hw⟩ := DataW.trod_int hu h
  have h8 : 0 ≤ n ∧ n ≤ 255 := by
    simp [Lit.wf, IntKind.min, IntKind.max, IntKind.signed, IntKind.bits] at hw
    omega
  refine ⟨UInt8.ofNat n.toNat, ?_, trivial⟩
  have e : ((UInt8.ofNat n.toNat).toNat : Int) = n := by rw [UInt8.toNat_ofNat']; omega
  show _ = [Value.int .u8 ((UInt8.ofNat n.toNat).toNat : Int)]
  rw [e]
theorem opens_u64 (hu : P.underlying t = some (.int .u64)) : Opens P t (cNat .u64) (fun _ n => n < 18446744073709551616) := fun enc w fuel cs x h _ => by
  obtain ⟨n, rfl, _, hw⟩ := DataW.trod_int hu h
  have h8 : 0 ≤ n ∧ n ≤ 18446744073709551615 := by
    simp [Lit.wf, IntKind.min, IntKind.max, IntKind.signed, IntKind.bits] at hw
    omega
  refine ⟨n.toNat, ?_, by omega⟩
  have e : ((n.toNat : Nat) : Int) = n := by omega
  show _ = [Value.int .u64 ((n.toNat : Nat) : Int)]
  rw [e]
theorem opens_u16 (hu : P.underlying t = some (.int .u16)) : Opens P t (cNat .u16) (fun _ n => n < 65536) := fun enc w fuel cs x h _ => by
  obtain ⟨n, rfl, _, hw⟩ := DataW.trod_int hu h
  have h8 : 0 ≤ n ∧ n ≤ 65535 := by
    simp [Lit.wf, IntKind.min, IntKind.max, IntKind.signed, IntKind.bits] at hw
    omega
  refine ⟨n.toNat, ?_, by omega⟩
  have e : ((n.toNat : Nat) : Int) = n := by omega
  show _ = [Value.int .u16 ((n.toNat : Nat) : Int)]
  rw [e]
theorem opens_bool (hu : P.underlying t = some .bool) : Opens P t cBool (fun _ _ => True) := fun enc w fuel cs x h _ => by
  obtain ⟨b, rfl, _⟩ := DataW.trod_bool hu h
  exact ⟨b, rfl, trivial⟩
theorem opens_str (hu : P.underlying t = some .string) : Opens P t cStr (fun _ s => s.size ≤ reachBytes) := fun enc w fuel cs x h hz => by
  obtain ⟨s, rfl, rfl, _⟩ := DataW.trod_string hu h
  refine ⟨s, rfl, ?_⟩
  simpa [DataW.weights] using hz
theorem weightsAll_mem {H : Type} {P : Program} {e : TypeId} : ∀ {ds : List (DataW H)} {d : DataW H}, d ∈ ds → ∀ n ∈ d.weights P e, n ∈ DataW.weightsAll P e ds
  | d0 :: r, d, hd, n, hn => by
    simp only [DataW.weightsAll, List.mem_append]
    rcases List.mem_cons.1 hd with rfl | hd
    · exact .inl hn
    · exact .inr (weightsAll_mem hd n hn)
/-- What lies behind a slice's head. -/
def SlOk {α : Type} (P : Program) (e : TypeId) (C : Cod α) (Ok : World → α → Prop) (w : World) (s : Option Addr × Nat × Nat) : Prop :=
  ∃ l : List α, s.2.1 = l.length ∧ Vu C w s.1 l.length s.2.2 l ∧ (∀ a ∈ l, Ok w a) ∧ s.2.2 * P.bytesOf e ≤ reachBytes
theorem opens_slice (hu : P.underlying t = some (.slice e)) (hc : P.cellsOf e = C.sz) (hp : 0 < C.sz) (he : Opens P e C Ok) : Opens P t cSl (SlOk P e C Ok) := fun enc w fuel cs x h hz => by
  rcases open_slice hu h with ⟨rfl, rfl⟩ | ⟨a, len, cap, m, n, D, Pl, rfl, _, hl, hm, hmm, rfl, hx⟩
  · exact ⟨(none, 0, 0), rfl, [], rfl, Vu.none C w, (fun _ h => by cases h), by simp⟩
  · simp only [if_true] at hmm
    subst hmm
    simp only [DataW.weights, hu, List.all_cons, Bool.and_eq_true, decide_eq_true_eq, List.length_map, List.length_range] at hz
    have hw : ∀ i, i < m → ((D i).weights P e).all (· ≤ reachBytes) = true := fun i hi => by
      rw [List.all_eq_true]
      intro k hk
      have h2 := hz.2
      rw [List.all_append, Bool.and_eq_true] at h2
      by_cases hil : i < len
      · exact List.all_eq_true.1 h2.1 k (weightsAll_mem (List.mem_map.2 ⟨i, by simpa using hil, rfl⟩) k hk)
      · exact List.all_eq_true.1 h2.2 k (weightsAll_mem (List.mem_map.2 ⟨i - len, by simp; omega, by congr 1; omega⟩) k hk)
    have each : ∀ i, i < len → ∃ b : α, (∀ j, j < C.sz → w.cell? (a.add (i * C.sz + j)) = (C.enc b)[j]?) ∧ Ok w b := fun i hi => by
      obtain ⟨cs', h1, h2⟩ := hx i (by omega)
      obtain ⟨b, rfl, hok⟩ := he enc w n cs' _ h2 (hw i (by omega))
      rw [hc] at h1
      obtain ⟨_, _, hcell⟩ := World.cells?_some h1
      refine ⟨b, fun j hj => ?_, hok⟩
      rw [← add_add, hcell j hj, Array.getElem?_toList]
    obtain ⟨f, hf⟩ : ∃ f : (i : Nat) → i < len → α, ∀ i h, (∀ j, j < C.sz → w.cell? (a.add (i * C.sz + j)) = (C.enc (f i h))[j]?) ∧ Ok w (f i h) := ⟨fun i h => (each i h).choose, fun i h => (each i h).choose_spec⟩
    let l : List α := List.ofFn fun i : Fin len => f i i.isLt
    have hll : l.length = len := by simp [l]
    have hlg : ∀ i (h : i < len), l[i]? = some (f i h) := fun i h => by simp [l, h]
    refine ⟨(some a, len, m), rfl, l, hll.symm, ⟨rfl, by rw [hll]; exact hl, (fun h => by cases h), fun hn => ?_⟩, fun b hb => ?_, ?_⟩
    · obtain ⟨ab, ao, spot⟩ := a
      rw [hll] at hn
      have hcell0 := (hf 0 hn).1 0 hp
      have hspot : spot = none := by
        rw [Array.getElem?_eq_getElem (by rw [C.size]; exact hp)] at hcell0
        have := World.cell?_spot hcell0
        simpa [Addr.add] using this
      subst hspot
      refine ⟨ab, ao, rfl, fun i y hy j u hu' => ?_⟩
      have hi : i < len := by rw [← hll]; exact (List.getElem?_eq_some_iff.1 hy).1
      rw [hlg i hi] at hy
      obtain rfl := Option.some.inj hy
      have hj : j < C.sz := by
        have := (Array.getElem?_eq_some_iff.1 hu').1
        rwa [C.size] at this
      have := (hf i hi).1 j hj
      rw [Addr.add_mid, hu'] at this
      rw [Nat.add_assoc]; exact this
    · obtain ⟨i, hi⟩ := List.getElem?_of_mem hb
      have hil : i < len := by rw [← hll]; exact (List.getElem?_eq_some_iff.1 hi).1
      rw [hlg i hil] at hi
      obtain rfl := Option.some.inj hi
      exact (hf i hil).2
    · have h1 := hz.1
      rw [show len + (m - len) = m by omega] at h1
      exact h1
/-- The fields of a struct: types, offsets. -/
def fieldsOf (P : Program) (t : TypeId) : Option (List (TypeId × Nat)) :=
  match P.underlying t with
  | some (.struct fs) => some (fs.toList.map fun f => (f.type, f.offset))
  | _ => none
def OpensFs {α : Type} (P : Program) (fs : List (TypeId × Nat)) (off : Nat) (C : Cod α) (Ok : World → α → Prop) : Prop :=
  ∀ {H : Type} (enc : TypeId × Value → H) (w : World) (n : Nat) (cs : List Value) (xs : List (DataW H × List MemPlace)), cs.length = off + C.sz → xs.length = fs.length →
    (∀ (i : Nat) (f : TypeId × Nat), fs[i]? = some f → DataW.trod enc P w 0 (fun _ => true) true n f.1 ((cs.drop f.2).take (P.cellsOf f.1)) = xs[i]?) → (DataW.weightsEach P (fs.map (·.1)) (xs.map (·.1))).all (· ≤ reachBytes) = true →
    ∃ a, cs.drop off = (C.enc a).toList ∧ Ok w a
theorem opensFs_last {off : Nat} (hc : P.cellsOf t = C.sz) (h : Opens P t C Ok) : OpensFs P [(t, off)] off C Ok := fun enc w n cs xs hl hx hf hz => by
  match xs, hx with
  | [y], _ =>
    have h1 := hf 0 (t, off) rfl
    simp only [List.getElem?_cons_zero] at h1
    rw [hc, List.take_of_length_le (by rw [List.length_drop]; omega)] at h1
    simp only [List.map_cons, List.map_nil, DataW.weightsEach, List.append_nil] at hz
    exact h enc w n _ y h1 hz
theorem opensFs_cons {off : Nat} {r : List (TypeId × Nat)} (hc : P.cellsOf t = A.sz) (h : Opens P t A OkA) (hr : OpensFs P r (off + A.sz) B OkB) : OpensFs P ((t, off) :: r) off (cPair A B) (fun w x => OkA w x.1 ∧ OkB w x.2) := fun enc w n cs xs hl hx hf hz => by
  match xs, hx with
  | y :: ys, hx =>
    have h1 := hf 0 (t, off) rfl
    simp only [List.getElem?_cons_zero] at h1
    simp only [List.map_cons, DataW.weightsEach, List.all_append, Bool.and_eq_true] at hz
    rw [hc] at h1
    obtain ⟨a, ha, hoa⟩ := h enc w n _ y h1 hz.1
    have hl' : cs.length = off + A.sz + B.sz := by rw [hl]; show off + (A.sz + B.sz) = _; omega
    obtain ⟨b, hb, hob⟩ := hr enc w n cs ys hl' (by simpa using hx) (fun i f hi => by have := hf (i + 1) f (by simpa using hi); simpa using this) hz.2
    refine ⟨(a, b), ?_, hoa, hob⟩
    rw [enc_pair, Array.toList_append, ← ha, ← hb]
    have : cs.drop (off + A.sz) = (cs.drop off).drop A.sz := by rw [List.drop_drop]
    rw [this, List.take_append_drop]
theorem opens_struct {fs : List (TypeId × Nat)} (hu : fieldsOf P t = some fs) (hc : P.cellsOf t = C.sz) (h : OpensFs P fs 0 C Ok) : Opens P t C Ok := fun enc w fuel cs x hx hz => by
  unfold fieldsOf at hu
  split at hu
  · rename_i fa hfa
    obtain rfl := Option.some.inj hu
    obtain ⟨xs, n, _, rfl, hl, hlen, hf⟩ := DataW.trod_struct hfa hx
    simp only [DataW.weights, hfa] at hz
    have := h enc w n cs xs (by rw [hl, hc]; omega) (by simp [hlen]) (fun i f hi => by
      rw [List.getElem?_map] at hi
      cases hfi : fa.toList[i]? with
      | none => rw [hfi] at hi; cases hi
      | some g =>
        rw [hfi] at hi
        obtain rfl := Option.some.inj hi
        exact hf i g (by rw [← Array.getElem?_toList]; exact hfi)) (by simpa [List.map_map, Function.comp_def] using hz)
    simpa using this
  · cases hu
theorem opens_arr {n : Nat} (hu : P.underlying t = some (.array n e)) (hc : P.cellsOf t = n) (he : P.underlying e = some (.int .u8)) (h1 : P.cellsOf e = 1) : Opens P t (cArr n) (fun _ _ => True) := fun enc w fuel cs x h _ => by
  obtain ⟨xs, m, _, _, hl, hx, hel⟩ := DataW.trod_array hu h
  have each : ∀ i, i < n → ∃ b : UInt8, cs[i]? = some (.int .u8 (b.toNat : Int)) := fun i hi => by
    have h2 := hel i hi
    rw [h1, List.getElem?_eq_getElem (by omega)] at h2
    obtain ⟨k, hn, _, hw⟩ := DataW.trod_int he h2
    have hr : 0 ≤ k ∧ k ≤ 255 := by
      simp [Lit.wf, IntKind.min, IntKind.max, IntKind.signed, IntKind.bits] at hw
      omega
    refine ⟨UInt8.ofNat k.toNat, ?_⟩
    have h3 := congrArg (fun l => l[0]?) hn
    simp at h3
    rw [h3]
    congr 2
    rw [UInt8.toNat_ofNat']
    omega
  obtain ⟨f, hf⟩ : ∃ f : Nat → UInt8, ∀ i, i < n → cs[i]? = some (.int .u8 ((f i).toNat : Int)) :=
    ⟨fun i => if h : i < n then (each i h).choose else 0, fun i hi => by simpa [hi] using (each i hi).choose_spec⟩
  refine ⟨f, ?_, trivial⟩
  apply List.ext_getElem?
  intro i
  rw [enc_arr, Array.getElem?_toList (xs := row n f)]
  by_cases hi : i < n
  · rw [row_get n f i hi, hf i hi]
    rfl
  · rw [List.getElem?_eq_none (by rw [hl, hc]; omega), Array.getElem?_eq_none (by rw [row_size]; omega)]
/-- An argument is its datum's value. -/
theorem okWide_noAgg {w : World} {base : Nat} {cs : Array Value} (hd : (P.underlying t).map (·.isRow) = some false) (h : Value.okWide P w .any base t (.agg cs)) : False := by
  cases hu : P.underlying t with
  | none => rw [hu] at hd; cases hd
  | some d =>
    rw [hu] at hd
    have hd := Option.some.inj hd
    cases d <;> first | (cases hd; done) | (simp [Value.okWide, hu, Cell.okWide, Cell.ok] at h)
theorem open_arg {H : Type} {enc : TypeId × Value → H} {W : World} {base : Nat} {v : Value} {d : DataW H} {p : List MemPlace} (ho : Opens P t C Ok) (hty : tyOk P t C = true) (hval : Value.okWide P W .any base t v) (h : DataW.Trod enc P W 0 (fun _ => true) true t v d p)
    (hz : (d.weights P t).all (· ≤ reachBytes) = true) : ∃ a, v = C.val a ∧ Ok W a := by
  obtain ⟨fuel, hf⟩ := h
  obtain ⟨a, ha, hok⟩ := ho enc W fuel _ _ hf hz
  refine ⟨a, ?_, hok⟩
  have ha' : v.cells = C.enc a := Array.ext' ha
  obtain ⟨hd, _⟩ := tyOk.spec hty
  cases hr : C.row with
  | true =>
    rw [hr] at hd
    have : ∃ cs, v = .agg cs := by
      cases hu : P.underlying t with
      | none => rw [hu] at hd; cases hd
      | some dd =>
        rw [hu] at hd
        have hd := Option.some.inj hd
        simp only [Value.okWide, hu] at hval
        cases dd <;> first | (cases hd; done) | (obtain ⟨cs, rfl, _⟩ := hval; exact ⟨cs, rfl⟩)
    obtain ⟨cs, rfl⟩ := this
    rw [C.agg hr a]
    exact congrArg Value.agg ha'
  | false =>
    rw [hr] at hd
    have h1 := one_cells (C.scal hr a)
    have h2 : v.cells = #[C.val a] := ha'.trans h1
    cases v with
    | agg cs => exact (okWide_noAgg hd hval).elim
    | _ => simpa [Value.cells] using h2
end
end Go.Proofs.YticflflbogdljaaDoor
