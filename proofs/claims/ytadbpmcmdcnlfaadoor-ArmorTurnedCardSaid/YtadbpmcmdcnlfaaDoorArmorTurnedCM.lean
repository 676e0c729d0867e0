/- ArmorTurned: of all bytes, every place, every byte and every way the law answers true, and what comes in reads as it did. Conditions: those of the given row alone; the tables that it lists are tied to the library's text by the given tie. -/
import Derived.Test.YtadbpmcmdcnlfaaDoorArmorTurnedCQC
import Derived.Test.YtadbpmcmdcnlfaaDoorCards
import Derived.Test.YtadbpmcmdcnlfaaDoorTie
import Derived.Test.YtadbpmcmdcnlfaaDoorOpn
import Derived.ProofKit
import Derived.ChangeSlices
import Derived.ChangeKeysEq
import Derived.Carry
import Derived.OpenShut
import Derived.Deep.DeepHandedRow
import Derived.Lib.LaidTab
import Derived.Shelf.Vars
import Derived.ChangeSame
namespace Go.Proofs.YtadbpmcmdcnlfaaDoor.armorTurned
open Go Go.ChangeShapes Go.WideShapes Go.ChangeAt Go.RowKit
set_option maxRecDepth 100000

theorem read_T0 : Tryd.prog.readableRec 22 = true := by kernel_rfl
theorem row_T0 : 22 < Tryd.prog.types.size := of_decide_eq_true (by kernel_rfl)
theorem read_T1 : Tryd.prog.readableRec 35 = true := by kernel_rfl
theorem row_T1 : 35 < Tryd.prog.types.size := of_decide_eq_true (by kernel_rfl)
theorem read_T2 : Tryd.prog.readableRec 5 = true := by kernel_rfl
theorem row_T2 : 5 < Tryd.prog.types.size := of_decide_eq_true (by kernel_rfl)

theorem bytes8 : Tryd.prog.bytesOf 5 = 1 := by kernel_rfl
theorem le_reach {l : List UInt8} {W : World} {A : Option Addr} {c : Nat} (h : Vu cByte W A l.length c l) (hc : c * Tryd.prog.bytesOf 5 ≤ reachBytes) : l.length ≤ 140737488355328 := by
  have hcap := h.cap
  rw [bytes8] at hc
  unfold reachBytes at hc
  omega

theorem max_cell {W : World} (h : W.ShapedOpen Tryd.prog) : MaxL W :=
  cell_of_shapedOpen_int h (g := 0) (of_decide_eq_true (by kernel_rfl)) (t := 3) (zero := #[.int .i64 0]) (by kernel_rfl) rfl (by kernel_rfl) (by kernel_rfl) (by kernel_rfl)
def accRow : List Int := [128, 191, 160, 191, 128, 159, 144, 191, 128, 143, 0, 0, 0, 0, 0, 0, 0, 0, 0, 0, 0, 0, 0, 0, 0, 0, 0, 0, 0, 0, 0, 0]
/-- A world for the witness: the settled one, utf8's tables as the library's text lays them. -/
noncomputable def laidWorld (os : Os) : World :=
  { World.holding Tryd.prog os ⟨#[], #[], []⟩ with heap := (((World.holding Tryd.prog os ⟨#[], #[], []⟩).heap.modify 2 fun
      | .cells _ t frozen => .cells (accRow.map fun z => Value.int .u8 z).toArray t frozen
      | o => o).modify 1 fun
      | .cells _ t frozen => .cells (Go.Pinned.utf8FirstZ.map fun (n : Nat) => Value.int .u8 n).toArray t frozen
      | o => o) }

theorem contract (H : Type) (enc : TypeId × Value → H) (W : World) (base : Nat) (args : Array Value) (ds gs : List (DataW H)) (before : List MemPlace)
    (hval : ∀ (j : Nat) t v, Tryd.f6.params[j]? = some t → args[j]? = some v → Value.okWide Tryd.prog W .any base t v)
    (hW : DataW.Whole enc Tryd.prog Tryd.f6.params.toList Rows.armorTurnedSpec.vars false W args.toList ds gs before)
    (hs : (DataW.weightsEach Tryd.prog (Tryd.f6.params.toList ++ (OpenSpec.ofChange Rows.armorTurnedSpec).bare.plain.varTypes Tryd.prog) (ds ++ gs)).all (· ≤ reachBytes) = true) (hsh : W.ShapedOpen Tryd.prog) :
    Calls Tryd.prog 6 args W fun e W' => ∃ v, e = .returned v ∧ Rows.armorTurnedSpec.post enc Tryd.prog Tryd.f6 false true false false W args v W' := by
  have hW' := hW
  obtain ⟨p, q, hA0, hV, rfl, hfz, hnd⟩ := hW
  have hA : DataW.TrodAll enc Tryd.prog W 0 (fun _ => true) true Tryd.f6.params.toList args.toList ds p := hA0
  rw [Tryd.params6] at hA hval hs
  obtain ⟨v0, vs0, d0, ds0, p0, q0, hargs, rfl, rfl, h0, r0⟩ := trodAll_cons hA
  obtain ⟨v1, vs1, d1, ds1, p1, q1, rfl, rfl, rfl, h1, r1⟩ := trodAll_cons r0
  obtain ⟨v2, vs2, d2, ds2, p2, q2, rfl, rfl, rfl, h2, r2⟩ := trodAll_cons r1
  obtain ⟨v3, vs3, d3, ds3, p3, q3, rfl, rfl, rfl, h3, r3⟩ := trodAll_cons r2
  obtain ⟨rfl, rfl, rfl⟩ := trodAll_nil r3
  obtain rfl : args = #[v0, v1, v2, v3] := by cases args; simp_all
  obtain ⟨rfl, rfl⟩ := trodVars_none hV
  have z0 : (d0.weights Tryd.prog 22).all (· ≤ reachBytes) = true := List.all_eq_true.2 fun k hk => List.all_eq_true.1 hs k (DataW.weights_mem_each (j := 0) (t := 22) (d := d0) rfl rfl k hk)
  obtain ⟨a0, e0, ok0⟩ := open_arg (opens_slice (e := 5) (by kernel_rfl) (by kernel_rfl) (by decide) (opens_byte (by kernel_rfl))) (by kernel_rfl) (hval 0 22 v0 rfl rfl) h0 z0
  have z1 : (d1.weights Tryd.prog 35).all (· ≤ reachBytes) = true := List.all_eq_true.2 fun k hk => List.all_eq_true.1 hs k (DataW.weights_mem_each (j := 1) (t := 35) (d := d1) rfl rfl k hk)
  obtain ⟨a1, e1, ok1⟩ := open_arg (opens_u64 (by kernel_rfl)) (by kernel_rfl) (hval 1 35 v1 rfl rfl) h1 z1
  have z2 : (d2.weights Tryd.prog 5).all (· ≤ reachBytes) = true := List.all_eq_true.2 fun k hk => List.all_eq_true.1 hs k (DataW.weights_mem_each (j := 2) (t := 5) (d := d2) rfl rfl k hk)
  obtain ⟨a2, e2, ok2⟩ := open_arg (opens_byte (by kernel_rfl)) (by kernel_rfl) (hval 2 5 v2 rfl rfl) h2 z2
  have z3 : (d3.weights Tryd.prog 5).all (· ≤ reachBytes) = true := List.all_eq_true.2 fun k hk => List.all_eq_true.1 hs k (DataW.weights_mem_each (j := 3) (t := 5) (d := d3) rfl rfl k hk)
  obtain ⟨a3, e3, ok3⟩ := open_arg (opens_byte (by kernel_rfl)) (by kernel_rfl) (hval 3 5 v3 rfl rfl) h3 z3
  clear hA0
  simp only [List.append_nil] at hW'
  have hM := max_cell hsh
  have l0 : ∀ x ∈ p0, x.block < W.heap.size := fun x hx => hW'.lt x (by simp [hx])
  have l1 : ∀ x ∈ p1, x.block < W.heap.size := fun x hx => hW'.lt x (by simp [hx])
  have l2 : ∀ x ∈ p2, x.block < W.heap.size := fun x hx => hW'.lt x (by simp [hx])
  have l3 : ∀ x ∈ p3, x.block < W.heap.size := fun x hx => hW'.lt x (by simp [hx])
  refine Calls.mono (R := fun e W' => e = .returned (.bool true) ∧ Below W.heap.size W W') ?_ fun e W' ⟨he, hb⟩ => ?_
  · clear hs hval hfz hnd
    subst e0
    subst e1
    subst e2
    subst e3
    obtain ⟨Ab, nb, cb⟩ := a0
    obtain ⟨b, hnb, hVb, _, hcapb⟩ := ok0
    obtain rfl : nb = b.length := hnb
    exact turned_l b Ab cb (by have := le_reach hVb hcapb; omega) a1 a2 a3 W ⟨hVb, hM⟩
  subst he
  refine ⟨_, rfl, _, _, _, [], (p0 ++ (p1 ++ (p2 ++ (p3 ++ [])))), [], hW', trodAll_cons_mk (shut_bool undBool _) trodAll_mk0, (trodAll_cons_mk (WideElems.Trod_stays laidOut read_T0 row_T0 h0 (fun x hx => hb.same (l0 x hx)) (fun x hx => by simpa using l0 x hx)) (trodAll_cons_mk (WideElems.Trod_stays laidOut read_T1 row_T1 h1 (fun x hx => hb.same (l1 x hx)) (fun x hx => by simpa using l1 x hx)) (trodAll_cons_mk (WideElems.Trod_stays laidOut read_T2 row_T2 h2 (fun x hx => hb.same (l2 x hx)) (fun x hx => by simpa using l2 x hx)) (trodAll_cons_mk (WideElems.Trod_stays laidOut read_T2 row_T2 h3 (fun x hx => hb.same (l3 x hx)) (fun x hx => by simpa using l3 x hx)) trodAll_mk0)))), rfl, hb.frame _, fun h => by cases h⟩

theorem laid_met (os : Os) : laidMet Tryd.prog Rows.armorTurnedRow.laid ((laidWorld os).forCall (fun _ _ => 0) ⟨#[], #[.slice none 0 0, .int .u64 0, .int .u8 0, .int .u8 0], []⟩).memory :=
  laidMet_of_run' 8 (by kernel_rfl) (by kernel_rfl)
theorem reads (os : Os) {H : Type} (enc : TypeId × Value → H) : ∃ places, DataW.whole enc Tryd.prog ((laidWorld os).forCall (fun _ _ => 0) ⟨#[], #[.slice none 0 0, .int .u64 0, .int .u8 0, .int .u8 0], []⟩).memory Tryd.f6.params.toList Rows.armorTurnedSpec.vars false (#[.slice none 0 0, .int .u64 0, .int .u8 0, .int .u8 0] : Array Value).toList 8 = some ([.nil, .lit (.int .u64 0), .lit (.int .u8 0), .lit (.int .u8 0)], [], places) :=
  ⟨[], by kernel_rfl⟩

set_option maxRecDepth 100000 in
theorem lifted (os : Os) (started : os.Started) (H : Type) (enc : TypeId × Value → H) (F : Stop.Interp) :
    ReturnsInHanded {} Tryd.checked os 6 .any ((OpenSpec.ofChange Rows.armorTurnedSpec).preRow enc Tryd.prog Tryd.f6 Rows.armorTurnedRow.domain false Rows.armorTurnedRow.laid) (((OpenSpec.ofChange Rows.armorTurnedSpec).at F).post enc Tryd.prog Tryd.f6 false true false false) := by
  obtain ⟨places, hx⟩ := reads os enc
  refine returnsInHanded_of_row (C := Tryd.checked) (s := OpenSpec.ofChange Rows.armorTurnedSpec) own started (by kernel_rfl) Tryd.func6
    (witness_row_at (enc := enc) (C := Tryd.checked) false (laidWorld os) #[.slice none 0 0, .int .u64 0, .int .u8 0, .int .u8 0] rfl (by kernel_rfl) (by kernel_rfl) (by kernel_rfl)
      (OpenSpec.preRow_of_cond 8 hx (by kernel_rfl) (fun k hk => by cases hk) (by kernel_rfl) (laid_met os))) ?_
  intro W base args ds gs before hval hW hcond _ hs hL hsh _
  exact contract H enc W base args ds gs before hval hW hs hsh

theorem said : Rows.ArmorTurnedSaid :=
  OpenClaim.holds_of_cond 6 Tryd.f6 rfl rfl rfl rfl rfl rfl rfl ⟨rfl, rfl, rfl, rfl, rfl⟩ rfl rfl rfl rfl rfl (by kernel_rfl) Tryd.func6 (by kernel_rfl)
    (of_decide_eq_true (by kernel_rfl)) (by unfold Func.isWrapper; first | (rw [if_pos (by decide +kernel)]; kernel_rfl) | (rw [if_neg (by decide +kernel)]; exact ⟨rfl, rfl⟩))
    (fun os started H enc _ F => by rw [OpenClaim.pre_eq_preRow]; exact lifted os started H enc F)

theorem plain (f : FuncId) (fn : Func) (hf : Tryd.pinned.checked.prog.funcNamed "postilion/postilionlaw12.ArmorTurned" = some f) (hfn : Tryd.pinned.checked.prog.funcs[f]? = some fn) :
    false = Tryd.pinned.checked.prog.looks [] ∧ ∀ (j : Nat) t, fn.params[j]? = some t → Tryd.pinned.checked.prog.wantsStandIn t = false := by
  obtain rfl : f = 6 := Option.some.inj ((show Tryd.prog.funcNamed "postilion/postilionlaw12.ArmorTurned" = some 6 by kernel_rfl).symm.trans hf) |>.symm
  obtain rfl : fn = Tryd.f6 := (Option.some.inj (Tryd.func6.symm.trans hfn)).symm
  refine ⟨by kernel_rfl, fun j t ht => ?_⟩
  rw [Tryd.params6] at ht
  have hm := Array.mem_of_getElem? ht
  simp only [List.mem_toArray, List.mem_cons, List.not_mem_nil, or_false] at hm
  rcases hm with rfl | rfl | rfl | rfl <;> exact (show Tryd.prog.wantsStandIn _ = false by kernel_rfl)

/-- THE CARD. -/
theorem card : Rows.ArmorTurnedCardSaid :=
  Claim7.holds_tied_plain_at .later [] _ _ _ _ said (fun _ h => by cases h) (by kernel_rfl) (fun _ h => by cases h) armorTurned_row_tie rfl ⟨rfl, rfl⟩ (by kernel_rfl) rfl plain (by kernel_rfl)
#print axioms card
end Go.Proofs.YtadbpmcmdcnlfaaDoor.armorTurned
