/- What comes in: arrays of bytes. -/
import Derived.Test.YtchojbhmfjibmaaTy
import Derived.WalkKit
import Derived.ProofKit
import Derived.OpenShut
import Derived.ChangeSlices
import Derived.ChangeKeysEq
import Derived.Carry
import Derived.Deep.DeepHandedRow
import Derived.ChangeSame
namespace Go.Proofs.Ytchojbhmfjibmaa
open Go Go.ChangeShapes Go.WideShapes Go.ChangeAt Go.RowKit
set_option maxRecDepth 100000
section
variable {H : Type} {enc : TypeId × Value → H} {W : World}
theorem openA (ty : TypeId) (n : Nat) (hu : Try.prog.underlying ty = some (.array n 5)) (hc : Try.prog.cellsOf ty = n) {base : Nat} {v : Value} {d : DataW H} {p : List MemPlace} (hval : Value.okWide Try.prog W .any base ty v) (h : DataW.Trod enc Try.prog W 0 (fun _ => true) true ty v d p) :
    ∃ f, v = .agg (row n f) := by
  unfold Value.okWide at hval
  rw [hu] at hval
  obtain ⟨cs, rfl, hsz, _⟩ := hval
  obtain ⟨fuel, hf⟩ := h
  obtain ⟨xs, m, _, _, hl, hx, hel⟩ := DataW.trod_array hu hf
  rw [hc] at hsz
  have each : ∀ i, i < n → ∃ b : UInt8, cs[i]? = some (.int .u8 (b.toNat : Int)) := fun i hi => by
    have h1 := hel i hi
    rw [cells8, List.getElem?_eq_getElem (by omega)] at h1
    obtain ⟨n, hn, _, hw⟩ := DataW.trod_int und8 h1
    have hr := bounds_u8 hw
    refine ⟨UInt8.ofNat n.toNat, ?_⟩
    have h2 : (Value.cells (.agg cs)).toList = cs.toList := rfl
    rw [h2] at hn
    have h3 := congrArg (fun l => l[0]?) hn
    simp at h3
    rw [h3]
    congr 2
    rw [UInt8.toNat_ofNat']
    omega
  obtain ⟨f, hf⟩ : ∃ f : Nat → UInt8, ∀ i, i < n → cs[i]? = some (.int .u8 ((f i).toNat : Int)) :=
    ⟨fun i => if h : i < n then (each i h).choose else 0, fun i hi => by simpa [hi] using (each i hi).choose_spec⟩
  refine ⟨f, ?_⟩
  congr 1
  apply Array.ext_getElem?
  intro i
  by_cases hi : i < n
  · rw [row_get _ _ i hi, hf i hi]
    rfl
  · rw [Array.getElem?_eq_none (by omega), Array.getElem?_eq_none (by rw [row_size]; omega)]
/-- A byte that came in. -/
theorem open8 {base : Nat} {v : Value} {d : DataW H} {p : List MemPlace} (hval : Value.okWide Try.prog W .any base 5 v) (h : DataW.Trod enc Try.prog W 0 (fun _ => true) true 5 v d p) :
    ∃ x : UInt8, v = .int .u8 (x.toNat : Int) ∧ d = .lit (.int .u8 (x.toNat : Int)) ∧ p = [] ∧ (Lit.int IntKind.u8 (x.toNat : Int)).wf = true := by
  obtain ⟨a, rfl, rfl, rfl, hw⟩ := open_int und8 hval h
  have hr := bounds_u8 hw
  have e : ((UInt8.ofNat a.toNat).toNat : Int) = a := by rw [UInt8.toNat_ofNat']; omega
  exact ⟨UInt8.ofNat a.toNat, by rw [e], by rw [e], rfl, by rw [e]; exact hw⟩
end
end Go.Proofs.Ytchojbhmfjibmaa
