/- DiskNil: of every call the law answers true, and what comes in reads as it did. Conditions: those of the given row alone. -/
import Derived.Test.YtnalkphocllhbaaDkP
import Derived.Test.YtnalkphocllhbaaRows
import Derived.Test.YtnalkphocllhbaaOpn
import Derived.ProofKit
import Derived.ChangeSlices
import Derived.ChangeKeysEq
import Derived.Carry
import Derived.Deep.DeepHandedRow
import Derived.ChangeSame
namespace Go.Proofs.Ytnalkphocllhbaa.diskNil
open Go Go.ChangeShapes Go.WideShapes Go.ChangeAt Go.RowKit
set_option maxRecDepth 100000

theorem read_T0 : Try.prog.readableRec 33 = true := by kernel_rfl
theorem row_T0 : 33 < Try.prog.types.size := of_decide_eq_true (by kernel_rfl)
def OpRead (w : World) (x : RawOp) : Prop := (-9223372036854775808 ≤ x.1 ∧ x.1 ≤ 9223372036854775807) ∧ (-9223372036854775808 ≤ x.2.1 ∧ x.2.1 ≤ 9223372036854775807) ∧ (-9223372036854775808 ≤ x.2.2.1 ∧ x.2.2.1 ≤ 9223372036854775807) ∧ SlOk Try.prog 5 cByte (fun _ _ => True) w x.2.2.2.1 ∧ SlOk Try.prog 4 cBool (fun _ _ => True) w x.2.2.2.2
theorem opens_op : Opens Try.prog 33 cOp OpRead :=
  opens_struct (fs := [(3, 0), (3, 1), (3, 2), (30, 3), (31, 4)]) (by kernel_rfl) (by kernel_rfl)
    (opensFs_cons (by kernel_rfl) (opens_i64 (by kernel_rfl)) (opensFs_cons (by kernel_rfl) (opens_i64 (by kernel_rfl)) (opensFs_cons (by kernel_rfl) (opens_i64 (by kernel_rfl)) (opensFs_cons (by kernel_rfl) (opens_slice (e := 5) (by kernel_rfl) (by kernel_rfl) (by decide) (opens_byte (by kernel_rfl))) (opensFs_last (by kernel_rfl) (opens_slice (e := 4) (by kernel_rfl) (by kernel_rfl) (by decide) (opens_bool (by kernel_rfl))))))))
theorem opens_script : Opens Try.prog 22 cSl (SlOk Try.prog 33 cOp OpRead) := opens_slice (by kernel_rfl) (by kernel_rfl) (by decide) opens_op
theorem bytes8 : Try.prog.bytesOf 5 = 1 := by kernel_rfl
theorem bytesOp : Try.prog.bytesOf 33 = 72 := by kernel_rfl
theorem ops_ok {W : World} {x : RawOp} (h : OpRead W x) :
    (∃ bytes keep, OpOk W x bytes keep) ∧ lenB x ≤ 140737488355328 := by
  obtain ⟨_, h1, h2, ⟨bytes, e1, v1, _, hc⟩, ⟨keep, e2, v2, _, _⟩⟩ := h
  refine ⟨⟨bytes, keep, e1, v1, e2, v2, h1, h2⟩, ?_⟩
  have hcap := v1.cap
  rw [bytes8] at hc
  unfold reachBytes at hc
  unfold lenB
  rw [e1]
  omega


theorem contract (H : Type) (enc : TypeId × Value → H) (W : World) (base : Nat) (args : Array Value) (ds gs : List (DataW H)) (before : List MemPlace)
    (hval : ∀ (j : Nat) t v, Try.f6.params[j]? = some t → args[j]? = some v → Value.okWide Try.prog W .any base t v)
    (hW : DataW.Whole enc Try.prog Try.f6.params.toList Rows.diskNilSpec.vars false W args.toList ds gs before)
    (hs : (DataW.weightsEach Try.prog (Try.f6.params.toList ++ Rows.diskNilSpec.plain.varTypes Try.prog) (ds ++ gs)).all (· ≤ reachBytes) = true) :
    Calls Try.prog 6 args W fun e W' => ∃ v, e = .returned v ∧ Rows.diskNilSpec.post enc Try.prog Try.f6 false true false false W args v W' := by
  have hW' := hW
  obtain ⟨p, q, hA0, hV, rfl, hfz, hnd⟩ := hW
  have hA : DataW.TrodAll enc Try.prog W 0 (fun _ => true) true Try.f6.params.toList args.toList ds p := hA0
  rw [Try.params6] at hA hval hs
  obtain ⟨v0, vs0, d0, ds0, p0, q0, hargs, rfl, rfl, h0, r0⟩ := trodAll_cons hA
  obtain ⟨rfl, rfl, rfl⟩ := trodAll_nil r0
  obtain rfl : args = #[v0] := by cases args; simp_all
  obtain ⟨rfl, rfl⟩ := trodVars_none hV
  have z0 : (d0.weights Try.prog 33).all (· ≤ reachBytes) = true := List.all_eq_true.2 fun k hk => List.all_eq_true.1 hs k (DataW.weights_mem_each (j := 0) (t := 33) (d := d0) rfl rfl k hk)
  obtain ⟨a0, e0, ok0⟩ := open_arg opens_op (by kernel_rfl) (hval 0 33 v0 rfl rfl) h0 z0
  clear hA0
  simp only [List.append_nil] at hW'
  have l0 : ∀ x ∈ p0, x.block < W.heap.size := fun x hx => hW'.lt x (by simp [hx])
  refine Calls.mono (R := fun e W' => e = .returned (.bool true) ∧ Below W.heap.size W W') ?_ fun e W' ⟨he, hb⟩ => ?_
  · clear hs hval hfz hnd
    subst e0
    obtain ⟨kind, at_, n, ⟨Ab, nb, cb⟩, ⟨Ak, nk, ck⟩⟩ := a0
    obtain ⟨⟨bytes, keep, hok⟩, hb⟩ := ops_ok ok0
    obtain rfl : nb = bytes.length := hok.nb
    obtain rfl : nk = keep.length := hok.nk
    exact nil_c kind at_ n bytes keep Ab Ak cb ck hb W trivial
  subst he
  refine ⟨_, rfl, _, _, _, [], (p0 ++ []), [], hW', trodAll_cons_mk (shut_bool undBool _) trodAll_mk0, (trodAll_cons_mk (WideElems.Trod_stays laidOut read_T0 row_T0 h0 (fun x hx => hb.same (l0 x hx)) (fun x hx => by simpa using l0 x hx)) trodAll_mk0), rfl, hb.frame _, fun h => by cases h⟩

set_option maxRecDepth 100000 in
theorem lifted (os : Os) (started : os.Started) (H : Type) (enc : TypeId × Value → H) :
    ReturnsInHanded {} Try.checked os 6 .any (Rows.diskNilSpec.pre6 enc Try.prog Try.f6 Rows.diskNilRow.domain false) (Rows.diskNilSpec.post enc Try.prog Try.f6 false true false false) := by
  refine returnsInHanded_of_change_sized (C := Try.checked) own started (by kernel_rfl) Try.func6
    (ChangeSpec.witness6 (enc := enc) (C := Try.checked) false ⟨#[], #[.agg #[.int .i64 0, .int .i64 0, .int .i64 0, .slice none 0 0, .slice none 0 0]], []⟩ 8 (by kernel_rfl) (by kernel_rfl) (by kernel_rfl) (by kernel_rfl)) ?_
  intro W base args ds gs before hval0 hW _ hs _
  exact contract H enc W base args ds gs before hval0 hW hs

theorem holds : Rows.DiskNilSaid :=
  OpenClaim.holds_of_wide 6 Try.f6 rfl rfl rfl rfl rfl rfl rfl ⟨rfl, rfl, rfl, rfl, rfl⟩ rfl rfl rfl rfl rfl (by kernel_rfl) Try.func6 (by kernel_rfl)
    (of_decide_eq_true (by kernel_rfl)) (by unfold Func.isWrapper; first | (rw [if_pos (by decide +kernel)]; kernel_rfl) | (rw [if_neg (by decide +kernel)]; exact ⟨rfl, rfl⟩))
    (fun os started H enc _ => lifted os started H enc)
#print axioms holds
end Go.Proofs.Ytnalkphocllhbaa.diskNil
