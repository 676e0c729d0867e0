/- VaultCrashes: of every number of sectors, all texts, fuses and lists the law answers true, and what comes in reads as it did. Conditions: those of the given row alone. -/
import Derived.Test.YtglplhbhpaegeaaVpC
import Derived.Test.YtglplhbhpaegeaaRows
import Derived.Test.YtglplhbhpaegeaaOpn
import Derived.ProofKit
import Derived.ChangeSlices
import Derived.ChangeKeysEq
import Derived.Carry
import Derived.Deep.DeepHandedRow
import Derived.ChangeSame
namespace Go.Proofs.Ytglplhbhpaegeaa.vaultCrashes
open Go Go.ChangeShapes Go.WideShapes Go.ChangeAt Go.RowKit
set_option maxRecDepth 100000

theorem read_T0 : Try.prog.readableRec 5 = true := by kernel_rfl
theorem row_T0 : 5 < Try.prog.types.size := of_decide_eq_true (by kernel_rfl)
theorem read_T1 : Try.prog.readableRec 22 = true := by kernel_rfl
theorem row_T1 : 22 < Try.prog.types.size := of_decide_eq_true (by kernel_rfl)
theorem read_T2 : Try.prog.readableRec 32 = true := by kernel_rfl
theorem row_T2 : 32 < Try.prog.types.size := of_decide_eq_true (by kernel_rfl)
theorem read_T3 : Try.prog.readableRec 42 = true := by kernel_rfl
theorem row_T3 : 42 < Try.prog.types.size := of_decide_eq_true (by kernel_rfl)

theorem opens_texts : Opens Try.prog 22 cSl (SlOk Try.prog 32 cSl (SlOk Try.prog 5 cByte (fun _ _ => True))) := opens_slice (by kernel_rfl) (by kernel_rfl) (by decide) (opens_slice (e := 5) (by kernel_rfl) (by kernel_rfl) (by decide) (opens_byte (by kernel_rfl)))
theorem bytes8 : Try.prog.bytesOf 5 = 1 := by kernel_rfl
theorem bytesT : Try.prog.bytesOf 32 = 24 := by kernel_rfl
theorem text_ok {W : World} {x : SlH} (h : SlOk Try.prog 5 cByte (fun _ _ => True) W x) : (∃ bytes : List UInt8, x.2.1 = bytes.length ∧ Vu cByte W x.1 bytes.length x.2.2 bytes) ∧ x.2.1 ≤ 140737488355328 := by
  obtain ⟨l, e, v, _, hc⟩ := h
  refine ⟨⟨l, e, v⟩, ?_⟩
  have hcap := v.cap
  rw [bytes8] at hc
  unfold reachBytes at hc
  rw [e]; omega

theorem contract (H : Type) (enc : TypeId × Value → H) (W : World) (base : Nat) (args : Array Value) (ds gs : List (DataW H)) (before : List MemPlace)
    (hval : ∀ (j : Nat) t v, Try.f4.params[j]? = some t → args[j]? = some v → Value.okWide Try.prog W .any base t v)
    (hW : DataW.Whole enc Try.prog Try.f4.params.toList Rows.vaultCrashesSpec.vars false W args.toList ds gs before)
    (hs : (DataW.weightsEach Try.prog (Try.f4.params.toList ++ Rows.vaultCrashesSpec.plain.varTypes Try.prog) (ds ++ gs)).all (· ≤ reachBytes) = true) :
    Calls Try.prog 4 args W fun e W' => ∃ v, e = .returned v ∧ Rows.vaultCrashesSpec.post enc Try.prog Try.f4 false true false false W args v W' := by
  have hW' := hW
  obtain ⟨p, q, hA0, hV, rfl, hfz, hnd⟩ := hW
  have hA : DataW.TrodAll enc Try.prog W 0 (fun _ => true) true Try.f4.params.toList args.toList ds p := hA0
  rw [Try.params4] at hA hval hs
  obtain ⟨v0, vs0, d0, ds0, p0, q0, hargs, rfl, rfl, h0, r0⟩ := trodAll_cons hA
  obtain ⟨v1, vs1, d1, ds1, p1, q1, rfl, rfl, rfl, h1, r1⟩ := trodAll_cons r0
  obtain ⟨v2, vs2, d2, ds2, p2, q2, rfl, rfl, rfl, h2, r2⟩ := trodAll_cons r1
  obtain ⟨v3, vs3, d3, ds3, p3, q3, rfl, rfl, rfl, h3, r3⟩ := trodAll_cons r2
  obtain ⟨rfl, rfl, rfl⟩ := trodAll_nil r3
  obtain rfl : args = #[v0, v1, v2, v3] := by cases args; simp_all
  obtain ⟨rfl, rfl⟩ := trodVars_none hV
  have z0 : (d0.weights Try.prog 5).all (· ≤ reachBytes) = true := List.all_eq_true.2 fun k hk => List.all_eq_true.1 hs k (DataW.weights_mem_each (j := 0) (t := 5) (d := d0) rfl rfl k hk)
  obtain ⟨a0, e0, ok0⟩ := open_arg (opens_byte (by kernel_rfl)) (by kernel_rfl) (hval 0 5 v0 rfl rfl) h0 z0
  have z1 : (d1.weights Try.prog 22).all (· ≤ reachBytes) = true := List.all_eq_true.2 fun k hk => List.all_eq_true.1 hs k (DataW.weights_mem_each (j := 1) (t := 22) (d := d1) rfl rfl k hk)
  obtain ⟨a1, e1, ok1⟩ := open_arg opens_texts (by kernel_rfl) (hval 1 22 v1 rfl rfl) h1 z1
  have z2 : (d2.weights Try.prog 32).all (· ≤ reachBytes) = true := List.all_eq_true.2 fun k hk => List.all_eq_true.1 hs k (DataW.weights_mem_each (j := 2) (t := 32) (d := d2) rfl rfl k hk)
  obtain ⟨a2, e2, ok2⟩ := open_arg (opens_slice (e := 5) (by kernel_rfl) (by kernel_rfl) (by decide) (opens_byte (by kernel_rfl))) (by kernel_rfl) (hval 2 32 v2 rfl rfl) h2 z2
  have z3 : (d3.weights Try.prog 42).all (· ≤ reachBytes) = true := List.all_eq_true.2 fun k hk => List.all_eq_true.1 hs k (DataW.weights_mem_each (j := 3) (t := 42) (d := d3) rfl rfl k hk)
  obtain ⟨a3, e3, ok3⟩ := open_arg (opens_slice (e := 4) (by kernel_rfl) (by kernel_rfl) (by decide) (opens_bool (by kernel_rfl))) (by kernel_rfl) (hval 3 42 v3 rfl rfl) h3 z3
  clear hA0
  simp only [List.append_nil] at hW'
  have l0 : ∀ x ∈ p0, x.block < W.heap.size := fun x hx => hW'.lt x (by simp [hx])
  have l1 : ∀ x ∈ p1, x.block < W.heap.size := fun x hx => hW'.lt x (by simp [hx])
  have l2 : ∀ x ∈ p2, x.block < W.heap.size := fun x hx => hW'.lt x (by simp [hx])
  have l3 : ∀ x ∈ p3, x.block < W.heap.size := fun x hx => hW'.lt x (by simp [hx])
  refine Calls.mono (R := fun e W' => e = .returned (.bool true) ∧ Below W.heap.size W W') ?_ fun e W' ⟨he, hb⟩ => ?_
  · clear hs hval hfz hnd
    subst e0
    subst e1
    subst e2
    subst e3
    obtain ⟨A, n, c⟩ := a1
    obtain ⟨raws, hn, hV, hok, hcap⟩ := ok1
    obtain rfl : n = raws.length := hn
    obtain ⟨Afuses, nfuses, cfuses⟩ := a2
    obtain ⟨fuses, hnfuses, hVfuses, _, hcapfuses⟩ := ok2
    obtain rfl : nfuses = fuses.length := hnfuses
    obtain ⟨Akeep, nkeep, ckeep⟩ := a3
    obtain ⟨keep, hnkeep, hVkeep, _, hcapkeep⟩ := ok3
    obtain rfl : nkeep = keep.length := hnkeep
    exact crashes_l a0 raws fuses keep A Afuses Akeep c cfuses ckeep (fun x hx => (text_ok (hok x hx)).2) (by have h1 : raws.length ≤ c := hV.cap; have h2 : c * Try.prog.bytesOf 32 ≤ reachBytes := hcap; rw [bytesT] at h2; unfold reachBytes at h2; omega) W ⟨hV, fun x hx => (text_ok (hok x hx)).1, hVfuses, hVkeep⟩
  subst he
  refine ⟨_, rfl, _, _, _, [], (p0 ++ (p1 ++ (p2 ++ (p3 ++ [])))), [], hW', trodAll_cons_mk (shut_bool undBool _) trodAll_mk0, (trodAll_cons_mk (WideElems.Trod_stays laidOut read_T0 row_T0 h0 (fun x hx => hb.same (l0 x hx)) (fun x hx => by simpa using l0 x hx)) (trodAll_cons_mk (WideElems.Trod_stays laidOut read_T1 row_T1 h1 (fun x hx => hb.same (l1 x hx)) (fun x hx => by simpa using l1 x hx)) (trodAll_cons_mk (WideElems.Trod_stays laidOut read_T2 row_T2 h2 (fun x hx => hb.same (l2 x hx)) (fun x hx => by simpa using l2 x hx)) (trodAll_cons_mk (WideElems.Trod_stays laidOut read_T3 row_T3 h3 (fun x hx => hb.same (l3 x hx)) (fun x hx => by simpa using l3 x hx)) trodAll_mk0)))), rfl, hb.frame _, fun h => by cases h⟩

set_option maxRecDepth 100000 in
theorem lifted (os : Os) (started : os.Started) (H : Type) (enc : TypeId × Value → H) :
    ReturnsInHanded {} Try.checked os 4 .any (Rows.vaultCrashesSpec.pre6 enc Try.prog Try.f4 Rows.vaultCrashesRow.domain false) (Rows.vaultCrashesSpec.post enc Try.prog Try.f4 false true false false) := by
  refine returnsInHanded_of_change_sized (C := Try.checked) own started (by kernel_rfl) Try.func4
    (ChangeSpec.witness6 (enc := enc) (C := Try.checked) false ⟨#[], #[.int .u8 0, .slice none 0 0, .slice none 0 0, .slice none 0 0], []⟩ 8 (by kernel_rfl) (by kernel_rfl) (by kernel_rfl) (by kernel_rfl)) ?_
  intro W base args ds gs before hval0 hW _ hs _
  exact contract H enc W base args ds gs before hval0 hW hs

theorem holds : Rows.VaultCrashesSaid :=
  OpenClaim.holds_of_wide 4 Try.f4 rfl rfl rfl rfl rfl rfl rfl ⟨rfl, rfl, rfl, rfl, rfl⟩ rfl rfl rfl rfl rfl (by kernel_rfl) Try.func4 (by kernel_rfl)
    (of_decide_eq_true (by kernel_rfl)) (by unfold Func.isWrapper; first | (rw [if_pos (by decide +kernel)]; kernel_rfl) | (rw [if_neg (by decide +kernel)]; exact ⟨rfl, rfl⟩))
    (fun os started H enc _ => lifted os started H enc)
#print axioms holds
end Go.Proofs.Ytglplhbhpaegeaa.vaultCrashes
