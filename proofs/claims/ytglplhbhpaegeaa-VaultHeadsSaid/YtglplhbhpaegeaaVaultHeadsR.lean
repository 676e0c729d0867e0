/- VaultHeads: of every number of sectors, all bytes and numbers the law answers true, and what comes in reads as it did. Conditions: those of the given row alone. -/
import Derived.Test.YtglplhbhpaegeaaVpH
import Derived.Test.YtglplhbhpaegeaaRows
import Derived.Test.YtglplhbhpaegeaaOpn
import Derived.ProofKit
import Derived.ChangeSlices
import Derived.ChangeKeysEq
import Derived.Carry
import Derived.Deep.DeepHandedRow
import Derived.ChangeSame
namespace Go.Proofs.Ytglplhbhpaegeaa.vaultHeads
open Go Go.ChangeShapes Go.WideShapes Go.ChangeAt Go.RowKit
set_option maxRecDepth 100000

theorem read_T0 : Try.prog.readableRec 5 = true := by kernel_rfl
theorem row_T0 : 5 < Try.prog.types.size := of_decide_eq_true (by kernel_rfl)
theorem read_T1 : Try.prog.readableRec 32 = true := by kernel_rfl
theorem row_T1 : 32 < Try.prog.types.size := of_decide_eq_true (by kernel_rfl)
theorem read_T2 : Try.prog.readableRec 34 = true := by kernel_rfl
theorem row_T2 : 34 < Try.prog.types.size := of_decide_eq_true (by kernel_rfl)
theorem read_T3 : Try.prog.readableRec 46 = true := by kernel_rfl
theorem row_T3 : 46 < Try.prog.types.size := of_decide_eq_true (by kernel_rfl)

theorem contract (H : Type) (enc : TypeId × Value → H) (W : World) (base : Nat) (args : Array Value) (ds gs : List (DataW H)) (before : List MemPlace)
    (hval : ∀ (j : Nat) t v, Try.f5.params[j]? = some t → args[j]? = some v → Value.okWide Try.prog W .any base t v)
    (hW : DataW.Whole enc Try.prog Try.f5.params.toList Rows.vaultHeadsSpec.vars false W args.toList ds gs before)
    (hs : (DataW.weightsEach Try.prog (Try.f5.params.toList ++ Rows.vaultHeadsSpec.plain.varTypes Try.prog) (ds ++ gs)).all (· ≤ reachBytes) = true) :
    Calls Try.prog 5 args W fun e W' => ∃ v, e = .returned v ∧ Rows.vaultHeadsSpec.post enc Try.prog Try.f5 false true false false W args v W' := by
  have hW' := hW
  obtain ⟨p, q, hA0, hV, rfl, hfz, hnd⟩ := hW
  have hA : DataW.TrodAll enc Try.prog W 0 (fun _ => true) true Try.f5.params.toList args.toList ds p := hA0
  rw [Try.params5] at hA hval hs
  obtain ⟨v0, vs0, d0, ds0, p0, q0, hargs, rfl, rfl, h0, r0⟩ := trodAll_cons hA
  obtain ⟨v1, vs1, d1, ds1, p1, q1, rfl, rfl, rfl, h1, r1⟩ := trodAll_cons r0
  obtain ⟨v2, vs2, d2, ds2, p2, q2, rfl, rfl, rfl, h2, r2⟩ := trodAll_cons r1
  obtain ⟨v3, vs3, d3, ds3, p3, q3, rfl, rfl, rfl, h3, r3⟩ := trodAll_cons r2
  obtain ⟨v4, vs4, d4, ds4, p4, q4, rfl, rfl, rfl, h4, r4⟩ := trodAll_cons r3
  obtain ⟨v5, vs5, d5, ds5, p5, q5, rfl, rfl, rfl, h5, r5⟩ := trodAll_cons r4
  obtain ⟨v6, vs6, d6, ds6, p6, q6, rfl, rfl, rfl, h6, r6⟩ := trodAll_cons r5
  obtain ⟨v7, vs7, d7, ds7, p7, q7, rfl, rfl, rfl, h7, r7⟩ := trodAll_cons r6
  obtain ⟨v8, vs8, d8, ds8, p8, q8, rfl, rfl, rfl, h8, r8⟩ := trodAll_cons r7
  obtain ⟨rfl, rfl, rfl⟩ := trodAll_nil r8
  obtain rfl : args = #[v0, v1, v2, v3, v4, v5, v6, v7, v8] := by cases args; simp_all
  obtain ⟨rfl, rfl⟩ := trodVars_none hV
  have z0 : (d0.weights Try.prog 5).all (· ≤ reachBytes) = true := List.all_eq_true.2 fun k hk => List.all_eq_true.1 hs k (DataW.weights_mem_each (j := 0) (t := 5) (d := d0) rfl rfl k hk)
  obtain ⟨a0, e0, ok0⟩ := open_arg (opens_byte (by kernel_rfl)) (by kernel_rfl) (hval 0 5 v0 rfl rfl) h0 z0
  have z1 : (d1.weights Try.prog 32).all (· ≤ reachBytes) = true := List.all_eq_true.2 fun k hk => List.all_eq_true.1 hs k (DataW.weights_mem_each (j := 1) (t := 32) (d := d1) rfl rfl k hk)
  obtain ⟨a1, e1, ok1⟩ := open_arg (opens_slice (e := 5) (by kernel_rfl) (by kernel_rfl) (by decide) (opens_byte (by kernel_rfl))) (by kernel_rfl) (hval 1 32 v1 rfl rfl) h1 z1
  have z2 : (d2.weights Try.prog 32).all (· ≤ reachBytes) = true := List.all_eq_true.2 fun k hk => List.all_eq_true.1 hs k (DataW.weights_mem_each (j := 2) (t := 32) (d := d2) rfl rfl k hk)
  obtain ⟨a2, e2, ok2⟩ := open_arg (opens_slice (e := 5) (by kernel_rfl) (by kernel_rfl) (by decide) (opens_byte (by kernel_rfl))) (by kernel_rfl) (hval 2 32 v2 rfl rfl) h2 z2
  have z3 : (d3.weights Try.prog 34).all (· ≤ reachBytes) = true := List.all_eq_true.2 fun k hk => List.all_eq_true.1 hs k (DataW.weights_mem_each (j := 3) (t := 34) (d := d3) rfl rfl k hk)
  obtain ⟨a3, e3, ok3⟩ := open_arg (opens_u64 (by kernel_rfl)) (by kernel_rfl) (hval 3 34 v3 rfl rfl) h3 z3
  have z4 : (d4.weights Try.prog 34).all (· ≤ reachBytes) = true := List.all_eq_true.2 fun k hk => List.all_eq_true.1 hs k (DataW.weights_mem_each (j := 4) (t := 34) (d := d4) rfl rfl k hk)
  obtain ⟨a4, e4, ok4⟩ := open_arg (opens_u64 (by kernel_rfl)) (by kernel_rfl) (hval 4 34 v4 rfl rfl) h4 z4
  have z5 : (d5.weights Try.prog 46).all (· ≤ reachBytes) = true := List.all_eq_true.2 fun k hk => List.all_eq_true.1 hs k (DataW.weights_mem_each (j := 5) (t := 46) (d := d5) rfl rfl k hk)
  obtain ⟨a5, e5, ok5⟩ := open_arg (opens_u16 (by kernel_rfl)) (by kernel_rfl) (hval 5 46 v5 rfl rfl) h5 z5
  have z6 : (d6.weights Try.prog 46).all (· ≤ reachBytes) = true := List.all_eq_true.2 fun k hk => List.all_eq_true.1 hs k (DataW.weights_mem_each (j := 6) (t := 46) (d := d6) rfl rfl k hk)
  obtain ⟨a6, e6, ok6⟩ := open_arg (opens_u16 (by kernel_rfl)) (by kernel_rfl) (hval 6 46 v6 rfl rfl) h6 z6
  have z7 : (d7.weights Try.prog 5).all (· ≤ reachBytes) = true := List.all_eq_true.2 fun k hk => List.all_eq_true.1 hs k (DataW.weights_mem_each (j := 7) (t := 5) (d := d7) rfl rfl k hk)
  obtain ⟨a7, e7, ok7⟩ := open_arg (opens_byte (by kernel_rfl)) (by kernel_rfl) (hval 7 5 v7 rfl rfl) h7 z7
  have z8 : (d8.weights Try.prog 32).all (· ≤ reachBytes) = true := List.all_eq_true.2 fun k hk => List.all_eq_true.1 hs k (DataW.weights_mem_each (j := 8) (t := 32) (d := d8) rfl rfl k hk)
  obtain ⟨a8, e8, ok8⟩ := open_arg (opens_slice (e := 5) (by kernel_rfl) (by kernel_rfl) (by decide) (opens_byte (by kernel_rfl))) (by kernel_rfl) (hval 8 32 v8 rfl rfl) h8 z8
  clear hA0
  simp only [List.append_nil] at hW'
  have l0 : ∀ x ∈ p0, x.block < W.heap.size := fun x hx => hW'.lt x (by simp [hx])
  have l1 : ∀ x ∈ p1, x.block < W.heap.size := fun x hx => hW'.lt x (by simp [hx])
  have l2 : ∀ x ∈ p2, x.block < W.heap.size := fun x hx => hW'.lt x (by simp [hx])
  have l3 : ∀ x ∈ p3, x.block < W.heap.size := fun x hx => hW'.lt x (by simp [hx])
  have l4 : ∀ x ∈ p4, x.block < W.heap.size := fun x hx => hW'.lt x (by simp [hx])
  have l5 : ∀ x ∈ p5, x.block < W.heap.size := fun x hx => hW'.lt x (by simp [hx])
  have l6 : ∀ x ∈ p6, x.block < W.heap.size := fun x hx => hW'.lt x (by simp [hx])
  have l7 : ∀ x ∈ p7, x.block < W.heap.size := fun x hx => hW'.lt x (by simp [hx])
  have l8 : ∀ x ∈ p8, x.block < W.heap.size := fun x hx => hW'.lt x (by simp [hx])
  refine Calls.mono (R := fun e W' => e = .returned (.bool true) ∧ Below W.heap.size W W') ?_ fun e W' ⟨he, hb⟩ => ?_
  · clear hs hval hfz hnd
    subst e0
    subst e1
    subst e2
    subst e3
    subst e4
    subst e5
    subst e6
    subst e7
    subst e8
    obtain ⟨Afirst, nfirst, cfirst⟩ := a1
    obtain ⟨first, hnfirst, hVfirst, _, hcapfirst⟩ := ok1
    obtain rfl : nfirst = first.length := hnfirst
    obtain ⟨Asecond, nsecond, csecond⟩ := a2
    obtain ⟨second, hnsecond, hVsecond, _, hcapsecond⟩ := ok2
    obtain rfl : nsecond = second.length := hnsecond
    obtain ⟨Araw, nraw, craw⟩ := a8
    obtain ⟨raw, hnraw, hVraw, _, hcapraw⟩ := ok8
    obtain rfl : nraw = raw.length := hnraw
    exact heads_l a0 first second a3 a4 a5 a6 a7 raw Afirst Asecond Araw cfirst csecond craw ok5 ok6 W ⟨hVfirst, hVsecond, hVraw⟩
  subst he
  refine ⟨_, rfl, _, _, _, [], (p0 ++ (p1 ++ (p2 ++ (p3 ++ (p4 ++ (p5 ++ (p6 ++ (p7 ++ (p8 ++ []))))))))), [], hW', trodAll_cons_mk (shut_bool undBool _) trodAll_mk0, (trodAll_cons_mk (WideElems.Trod_stays laidOut read_T0 row_T0 h0 (fun x hx => hb.same (l0 x hx)) (fun x hx => by simpa using l0 x hx)) (trodAll_cons_mk (WideElems.Trod_stays laidOut read_T1 row_T1 h1 (fun x hx => hb.same (l1 x hx)) (fun x hx => by simpa using l1 x hx)) (trodAll_cons_mk (WideElems.Trod_stays laidOut read_T1 row_T1 h2 (fun x hx => hb.same (l2 x hx)) (fun x hx => by simpa using l2 x hx)) (trodAll_cons_mk (WideElems.Trod_stays laidOut read_T2 row_T2 h3 (fun x hx => hb.same (l3 x hx)) (fun x hx => by simpa using l3 x hx)) (trodAll_cons_mk (WideElems.Trod_stays laidOut read_T2 row_T2 h4 (fun x hx => hb.same (l4 x hx)) (fun x hx => by simpa using l4 x hx)) (trodAll_cons_mk (WideElems.Trod_stays laidOut read_T3 row_T3 h5 (fun x hx => hb.same (l5 x hx)) (fun x hx => by simpa using l5 x hx)) (trodAll_cons_mk (WideElems.Trod_stays laidOut read_T3 row_T3 h6 (fun x hx => hb.same (l6 x hx)) (fun x hx => by simpa using l6 x hx)) (trodAll_cons_mk (WideElems.Trod_stays laidOut read_T0 row_T0 h7 (fun x hx => hb.same (l7 x hx)) (fun x hx => by simpa using l7 x hx)) (trodAll_cons_mk (WideElems.Trod_stays laidOut read_T1 row_T1 h8 (fun x hx => hb.same (l8 x hx)) (fun x hx => by simpa using l8 x hx)) trodAll_mk0))))))))), rfl, hb.frame _, fun h => by cases h⟩

set_option maxRecDepth 100000 in
theorem lifted (os : Os) (started : os.Started) (H : Type) (enc : TypeId × Value → H) :
    ReturnsInHanded {} Try.checked os 5 .any (Rows.vaultHeadsSpec.pre6 enc Try.prog Try.f5 Rows.vaultHeadsRow.domain false) (Rows.vaultHeadsSpec.post enc Try.prog Try.f5 false true false false) := by
  refine returnsInHanded_of_change_sized (C := Try.checked) own started (by kernel_rfl) Try.func5
    (ChangeSpec.witness6 (enc := enc) (C := Try.checked) false ⟨#[], #[.int .u8 0, .slice none 0 0, .slice none 0 0, .int .u64 0, .int .u64 0, .int .u16 0, .int .u16 0, .int .u8 0, .slice none 0 0], []⟩ 8 (by kernel_rfl) (by kernel_rfl) (by kernel_rfl) (by kernel_rfl)) ?_
  intro W base args ds gs before hval0 hW _ hs _
  exact contract H enc W base args ds gs before hval0 hW hs

theorem holds : Rows.VaultHeadsSaid :=
  OpenClaim.holds_of_wide 5 Try.f5 rfl rfl rfl rfl rfl rfl rfl ⟨rfl, rfl, rfl, rfl, rfl⟩ rfl rfl rfl rfl rfl (by kernel_rfl) Try.func5 (by kernel_rfl)
    (of_decide_eq_true (by kernel_rfl)) (by unfold Func.isWrapper; first | (rw [if_pos (by decide +kernel)]; kernel_rfl) | (rw [if_neg (by decide +kernel)]; exact ⟨rfl, rfl⟩))
    (fun os started H enc _ => lifted os started H enc)
#print axioms holds
end Go.Proofs.Ytglplhbhpaegeaa.vaultHeads
