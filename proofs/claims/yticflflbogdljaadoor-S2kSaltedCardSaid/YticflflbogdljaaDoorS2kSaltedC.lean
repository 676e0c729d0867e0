/- S2kSalted: of every salt, code, passphrase, bytes behind and numbers the law answers true, and what comes in reads as it did. Conditions: those of the given row alone; the tables that it lists (SHA-256's) are tied to the program's text by the given tie. -/
import Derived.Test.YticflflbogdljaaDoorKl
import Derived.Test.YticflflbogdljaaDoorCards
import Derived.Test.YticflflbogdljaaDoorTie
import Derived.Test.YticflflbogdljaaDoorOpn
import Derived.ProofKit
import Derived.ChangeSlices
import Derived.ChangeKeysEq
import Derived.Carry
import Derived.OpenShut
import Derived.Deep.DeepHandedRow
import Derived.Lib.LaidTab
import Derived.Shelf.Vars
import Derived.ChangeSame
import Derived.LaidSub
namespace Go.Proofs.YticflflbogdljaaDoor.s2kSalted
open Go Go.ChangeShapes Go.WideShapes Go.ChangeAt Go.RowKit
set_option maxRecDepth 100000

theorem read_T0 : Tryd.prog.readableRec 28 = true := by kernel_rfl
theorem row_T0 : 28 < Tryd.prog.types.size := of_decide_eq_true (by kernel_rfl)
theorem read_T1 : Tryd.prog.readableRec 5 = true := by kernel_rfl
theorem row_T1 : 5 < Tryd.prog.types.size := of_decide_eq_true (by kernel_rfl)
theorem read_T2 : Tryd.prog.readableRec 22 = true := by kernel_rfl
theorem row_T2 : 22 < Tryd.prog.types.size := of_decide_eq_true (by kernel_rfl)

theorem bytes8 : Tryd.prog.bytesOf 5 = 1 := by kernel_rfl
theorem le_reach {l : List UInt8} {W : World} {A : Option Addr} {c : Nat} (h : Vu cByte W A l.length c l) (hc : c * Tryd.prog.bytesOf 5 ≤ reachBytes) : l.length ≤ 140737488351232 := by
  have hcap := h.cap
  rw [bytes8] at hc
  unfold reachBytes at hc
  omega

def zsS : List Int := [1779033703, 3144134277, 1013904242, 2773480762, 1359893119, 2600822924, 528734635, 1541459225]
theorem gS : Tryd.prog.globalNamed "postilion/sha2.start256" = some 0 := by kernel_rfl
theorem gTS : (Tryd.prog.globals[0]?).map (·.type) = some 45 := by kernel_rfl
theorem undS : Tryd.prog.underlying 45 = some (.array 8 44) := by kernel_rfl
theorem undeS : Tryd.prog.underlying 44 = some (.int .u32) := by kernel_rfl
theorem celS : Tryd.prog.cellsOf 44 = 1 := by kernel_rfl
theorem celsS : Tryd.prog.cellsOf 45 = 8 := by kernel_rfl
theorem zrS : (zsS.map fun z => Value.int .u32 z).toArray = (cWs 8).enc H32 := by kernel_rfl
theorem ltS : 0 < Tryd.prog.globals.size := of_decide_eq_true (by kernel_rfl)
theorem stS : (((begin Tryd.prog (fun _ _ => 0) default).world.heap[0]?).bind Obj.row?) = some ((cWs 8).enc (fun _ => 0), 45) := by kernel_rfl
set_option maxRecDepth 100000 in
theorem tabS {W : World} (h : laidMetH Tryd.prog [("postilion/sha2.start256", Rows.laid_postilion_sha2_start256)] W) (hsh : W.ShapedOpen Tryd.prog) : W.heap[0]? = some (.cells ((cWs 8).enc H32) 45 (0, 0)) := by
  have ht : Lib.TabIs Tryd.prog W "postilion/sha2.start256" .u32 zsS := Lib.tabIs_of_head (rest := []) gS gTS undS undeS celS celsS h
  obtain ⟨cs, hc, _, _⟩ := hsh.1 0 _ _ ltS stS
  unfold Lib.TabIs World.var? at ht
  simp only [gS, Option.bind_some, hc] at ht
  rw [hc, ← zrS, Option.some.inj ht]

def zsK : List Int := [1116352408, 1899447441, 3049323471, 3921009573, 961987163, 1508970993, 2453635748, 2870763221, 3624381080, 310598401, 607225278, 1426881987, 1925078388, 2162078206, 2614888103, 3248222580, 3835390401, 4022224774, 264347078, 604807628, 770255983, 1249150122, 1555081692, 1996064986, 2554220882, 2821834349, 2952996808, 3210313671, 3336571891, 3584528711, 113926993, 338241895, 666307205, 773529912, 1294757372, 1396182291, 1695183700, 1986661051, 2177026350, 2456956037, 2730485921, 2820302411, 3259730800, 3345764771, 3516065817, 3600352804, 4094571909, 275423344, 430227734, 506948616, 659060556, 883997877, 958139571, 1322822218, 1537002063, 1747873779, 1955562222, 2024104815, 2227730452, 2361852424, 2428436474, 2756734187, 3204031479, 3329325298]
theorem gK : Tryd.prog.globalNamed "postilion/sha2.rounds256" = some 1 := by kernel_rfl
theorem gTK : (Tryd.prog.globals[1]?).map (·.type) = some 46 := by kernel_rfl
theorem undK : Tryd.prog.underlying 46 = some (.array 64 44) := by kernel_rfl
theorem undeK : Tryd.prog.underlying 44 = some (.int .u32) := by kernel_rfl
theorem celK : Tryd.prog.cellsOf 44 = 1 := by kernel_rfl
theorem celsK : Tryd.prog.cellsOf 46 = 64 := by kernel_rfl
theorem zrK : (zsK.map fun z => Value.int .u32 z).toArray = (cWs 64).enc K32 := by kernel_rfl
theorem ltK : 1 < Tryd.prog.globals.size := of_decide_eq_true (by kernel_rfl)
theorem stK : (((begin Tryd.prog (fun _ _ => 0) default).world.heap[1]?).bind Obj.row?) = some ((cWs 64).enc (fun _ => 0), 46) := by kernel_rfl
set_option maxRecDepth 100000 in
theorem tabK {W : World} (h : laidMetH Tryd.prog [("postilion/sha2.rounds256", Rows.laid_postilion_sha2_rounds256)] W) (hsh : W.ShapedOpen Tryd.prog) : W.heap[1]? = some (.cells ((cWs 64).enc K32) 46 (0, 0)) := by
  have ht : Lib.TabIs Tryd.prog W "postilion/sha2.rounds256" .u32 zsK := Lib.tabIs_of_head (rest := []) gK gTK undK undeK celK celsK h
  obtain ⟨cs, hc, _, _⟩ := hsh.1 1 _ _ ltK stK
  unfold Lib.TabIs World.var? at ht
  simp only [gK, Option.bind_some, hc] at ht
  rw [hc, ← zrK, Option.some.inj ht]

/-- A world for the witness: the settled one, the tables as the program's text lays them. -/
noncomputable def laidWorld (os : Os) : World :=
  { World.holding Tryd.prog os ⟨#[], #[], []⟩ with heap := (((World.holding Tryd.prog os ⟨#[], #[], []⟩).heap.modify 0 fun
      | .cells _ t frozen => .cells ((cWs 8).enc H32) t frozen
      | o => o).modify 1 fun
      | .cells _ t frozen => .cells ((cWs 64).enc K32) t frozen
      | o => o) }

theorem contract (H : Type) (enc : TypeId × Value → H) (W : World) (base : Nat) (args : Array Value) (ds gs : List (DataW H)) (before : List MemPlace)
    (hval : ∀ (j : Nat) t v, Tryd.f4.params[j]? = some t → args[j]? = some v → Value.okWide Tryd.prog W .any base t v)
    (hW : DataW.Whole enc Tryd.prog Tryd.f4.params.toList Rows.s2kSaltedSpec.vars false W args.toList ds gs before)
    (hs : (DataW.weightsEach Tryd.prog (Tryd.f4.params.toList ++ (OpenSpec.ofChange Rows.s2kSaltedSpec).bare.plain.varTypes Tryd.prog) (ds ++ gs)).all (· ≤ reachBytes) = true) (hsh : W.ShapedOpen Tryd.prog) (hL : laidMetH Tryd.prog Rows.s2kSaltedRow.laid W) :
    Calls Tryd.prog 4 args W fun e W' => ∃ v, e = .returned v ∧ Rows.s2kSaltedSpec.post enc Tryd.prog Tryd.f4 false true false false W args v W' := by
  have hW' := hW
  obtain ⟨p, q, hA0, hV, rfl, hfz, hnd⟩ := hW
  have hA : DataW.TrodAll enc Tryd.prog W 0 (fun _ => true) true Tryd.f4.params.toList args.toList ds p := hA0
  rw [Tryd.params4] at hA hval hs
  obtain ⟨v0, vs0, d0, ds0, p0, q0, hargs, rfl, rfl, h0, r0⟩ := trodAll_cons hA
  obtain ⟨v1, vs1, d1, ds1, p1, q1, rfl, rfl, rfl, h1, r1⟩ := trodAll_cons r0
  obtain ⟨v2, vs2, d2, ds2, p2, q2, rfl, rfl, rfl, h2, r2⟩ := trodAll_cons r1
  obtain ⟨v3, vs3, d3, ds3, p3, q3, rfl, rfl, rfl, h3, r3⟩ := trodAll_cons r2
  obtain ⟨v4, vs4, d4, ds4, p4, q4, rfl, rfl, rfl, h4, r4⟩ := trodAll_cons r3
  obtain ⟨v5, vs5, d5, ds5, p5, q5, rfl, rfl, rfl, h5, r5⟩ := trodAll_cons r4
  obtain ⟨rfl, rfl, rfl⟩ := trodAll_nil r5
  obtain rfl : args = #[v0, v1, v2, v3, v4, v5] := by cases args; simp_all
  obtain ⟨rfl, rfl⟩ := trodVars_none hV
  have z0 : (d0.weights Tryd.prog 28).all (· ≤ reachBytes) = true := List.all_eq_true.2 fun k hk => List.all_eq_true.1 hs k (DataW.weights_mem_each (j := 0) (t := 28) (d := d0) rfl rfl k hk)
  obtain ⟨a0, e0, ok0⟩ := open_arg (opens_arr (n := 8) (e := 5) (by kernel_rfl) (by kernel_rfl) (by kernel_rfl) (by kernel_rfl)) (by kernel_rfl) (hval 0 28 v0 rfl rfl) h0 z0
  have z1 : (d1.weights Tryd.prog 5).all (· ≤ reachBytes) = true := List.all_eq_true.2 fun k hk => List.all_eq_true.1 hs k (DataW.weights_mem_each (j := 1) (t := 5) (d := d1) rfl rfl k hk)
  obtain ⟨a1, e1, ok1⟩ := open_arg (opens_byte (by kernel_rfl)) (by kernel_rfl) (hval 1 5 v1 rfl rfl) h1 z1
  have z2 : (d2.weights Tryd.prog 22).all (· ≤ reachBytes) = true := List.all_eq_true.2 fun k hk => List.all_eq_true.1 hs k (DataW.weights_mem_each (j := 2) (t := 22) (d := d2) rfl rfl k hk)
  obtain ⟨a2, e2, ok2⟩ := open_arg (opens_slice (e := 5) (by kernel_rfl) (by kernel_rfl) (by decide) (opens_byte (by kernel_rfl))) (by kernel_rfl) (hval 2 22 v2 rfl rfl) h2 z2
  have z3 : (d3.weights Tryd.prog 22).all (· ≤ reachBytes) = true := List.all_eq_true.2 fun k hk => List.all_eq_true.1 hs k (DataW.weights_mem_each (j := 3) (t := 22) (d := d3) rfl rfl k hk)
  obtain ⟨a3, e3, ok3⟩ := open_arg (opens_slice (e := 5) (by kernel_rfl) (by kernel_rfl) (by decide) (opens_byte (by kernel_rfl))) (by kernel_rfl) (hval 3 22 v3 rfl rfl) h3 z3
  have z4 : (d4.weights Tryd.prog 5).all (· ≤ reachBytes) = true := List.all_eq_true.2 fun k hk => List.all_eq_true.1 hs k (DataW.weights_mem_each (j := 4) (t := 5) (d := d4) rfl rfl k hk)
  obtain ⟨a4, e4, ok4⟩ := open_arg (opens_byte (by kernel_rfl)) (by kernel_rfl) (hval 4 5 v4 rfl rfl) h4 z4
  have z5 : (d5.weights Tryd.prog 5).all (· ≤ reachBytes) = true := List.all_eq_true.2 fun k hk => List.all_eq_true.1 hs k (DataW.weights_mem_each (j := 5) (t := 5) (d := d5) rfl rfl k hk)
  obtain ⟨a5, e5, ok5⟩ := open_arg (opens_byte (by kernel_rfl)) (by kernel_rfl) (hval 5 5 v5 rfl rfl) h5 z5
  clear hA0
  simp only [List.append_nil] at hW'
  have hLS := hL.filter fun x => x.1 == "postilion/sha2.start256"
  rw [show (Rows.s2kSaltedRow.laid.filter fun x => x.1 == "postilion/sha2.start256") = [("postilion/sha2.start256", Rows.laid_postilion_sha2_start256)] by kernel_rfl] at hLS
  have hS := tabS hLS hsh
  have hLK := hL.filter fun x => x.1 == "postilion/sha2.rounds256"
  rw [show (Rows.s2kSaltedRow.laid.filter fun x => x.1 == "postilion/sha2.rounds256") = [("postilion/sha2.rounds256", Rows.laid_postilion_sha2_rounds256)] by kernel_rfl] at hLK
  have hK := tabK hLK hsh
  have l0 : ∀ x ∈ p0, x.block < W.heap.size := fun x hx => hW'.lt x (by simp [hx])
  have l1 : ∀ x ∈ p1, x.block < W.heap.size := fun x hx => hW'.lt x (by simp [hx])
  have l2 : ∀ x ∈ p2, x.block < W.heap.size := fun x hx => hW'.lt x (by simp [hx])
  have l3 : ∀ x ∈ p3, x.block < W.heap.size := fun x hx => hW'.lt x (by simp [hx])
  have l4 : ∀ x ∈ p4, x.block < W.heap.size := fun x hx => hW'.lt x (by simp [hx])
  have l5 : ∀ x ∈ p5, x.block < W.heap.size := fun x hx => hW'.lt x (by simp [hx])
  refine Calls.mono (R := fun e W' => e = .returned (.bool true) ∧ Below W.heap.size W W') ?_ fun e W' ⟨he, hb⟩ => ?_
  · clear hs hval hfz hnd
    subst e0
    subst e1
    subst e2
    subst e3
    subst e4
    subst e5
    obtain ⟨Ap, np, cp⟩ := a2
    obtain ⟨p, hnp, hVp, _, hcapp⟩ := ok2
    obtain rfl : np = p.length := hnp
    obtain ⟨Ab, nb, cb⟩ := a3
    obtain ⟨b, hnb, hVb, _, hcapb⟩ := ok3
    obtain rfl : nb = b.length := hnb
    exact salted_l a0 a1 p b Ap cp Ab cb a4 a5 (le_reach hVb hcapb) W ⟨hK, hS, hVp, hVb⟩
  subst he
  refine ⟨_, rfl, _, _, _, [], (p0 ++ (p1 ++ (p2 ++ (p3 ++ (p4 ++ (p5 ++ [])))))), [], hW', trodAll_cons_mk (shut_bool undBool _) trodAll_mk0, (trodAll_cons_mk (WideElems.Trod_stays laidOut read_T0 row_T0 h0 (fun x hx => hb.same (l0 x hx)) (fun x hx => by simpa using l0 x hx)) (trodAll_cons_mk (WideElems.Trod_stays laidOut read_T1 row_T1 h1 (fun x hx => hb.same (l1 x hx)) (fun x hx => by simpa using l1 x hx)) (trodAll_cons_mk (WideElems.Trod_stays laidOut read_T2 row_T2 h2 (fun x hx => hb.same (l2 x hx)) (fun x hx => by simpa using l2 x hx)) (trodAll_cons_mk (WideElems.Trod_stays laidOut read_T2 row_T2 h3 (fun x hx => hb.same (l3 x hx)) (fun x hx => by simpa using l3 x hx)) (trodAll_cons_mk (WideElems.Trod_stays laidOut read_T1 row_T1 h4 (fun x hx => hb.same (l4 x hx)) (fun x hx => by simpa using l4 x hx)) (trodAll_cons_mk (WideElems.Trod_stays laidOut read_T1 row_T1 h5 (fun x hx => hb.same (l5 x hx)) (fun x hx => by simpa using l5 x hx)) trodAll_mk0)))))), rfl, hb.frame _, fun h => by cases h⟩

theorem laid_met (os : Os) : laidMet Tryd.prog Rows.s2kSaltedRow.laid ((laidWorld os).forCall (fun _ _ => 0) ⟨#[], #[.agg #[.int .u8 0, .int .u8 0, .int .u8 0, .int .u8 0, .int .u8 0, .int .u8 0, .int .u8 0, .int .u8 0], .int .u8 0, .slice none 0 0, .slice none 0 0, .int .u8 0, .int .u8 0], []⟩).memory :=
  laidMet_of_run' 8 (by kernel_rfl) (by kernel_rfl)
theorem reads (os : Os) {H : Type} (enc : TypeId × Value → H) : ∃ places, DataW.whole enc Tryd.prog ((laidWorld os).forCall (fun _ _ => 0) ⟨#[], #[.agg #[.int .u8 0, .int .u8 0, .int .u8 0, .int .u8 0, .int .u8 0, .int .u8 0, .int .u8 0, .int .u8 0], .int .u8 0, .slice none 0 0, .slice none 0 0, .int .u8 0, .int .u8 0], []⟩).memory Tryd.f4.params.toList Rows.s2kSaltedSpec.vars false (#[.agg #[.int .u8 0, .int .u8 0, .int .u8 0, .int .u8 0, .int .u8 0, .int .u8 0, .int .u8 0, .int .u8 0], .int .u8 0, .slice none 0 0, .slice none 0 0, .int .u8 0, .int .u8 0] : Array Value).toList 8 = some ([.agg [.lit (.int .u8 0), .lit (.int .u8 0), .lit (.int .u8 0), .lit (.int .u8 0), .lit (.int .u8 0), .lit (.int .u8 0), .lit (.int .u8 0), .lit (.int .u8 0)], .lit (.int .u8 0), .nil, .nil, .lit (.int .u8 0), .lit (.int .u8 0)], [], places) :=
  ⟨[], by kernel_rfl⟩

set_option maxRecDepth 100000 in
theorem lifted (os : Os) (started : os.Started) (H : Type) (enc : TypeId × Value → H) (F : Stop.Interp) :
    ReturnsInHanded {} Tryd.checked os 4 .any ((OpenSpec.ofChange Rows.s2kSaltedSpec).preRow enc Tryd.prog Tryd.f4 Rows.s2kSaltedRow.domain false Rows.s2kSaltedRow.laid) (((OpenSpec.ofChange Rows.s2kSaltedSpec).at F).post enc Tryd.prog Tryd.f4 false true false false) := by
  obtain ⟨places, hx⟩ := reads os enc
  refine returnsInHanded_of_row (C := Tryd.checked) (s := OpenSpec.ofChange Rows.s2kSaltedSpec) own started (by kernel_rfl) Tryd.func4
    (witness_row_at (enc := enc) (C := Tryd.checked) false (laidWorld os) #[.agg #[.int .u8 0, .int .u8 0, .int .u8 0, .int .u8 0, .int .u8 0, .int .u8 0, .int .u8 0, .int .u8 0], .int .u8 0, .slice none 0 0, .slice none 0 0, .int .u8 0, .int .u8 0] rfl (by kernel_rfl) (by kernel_rfl) (by kernel_rfl)
      (OpenSpec.preRow_of_cond 8 hx (by kernel_rfl) (fun k hk => by cases hk) (by kernel_rfl) (laid_met os))) ?_
  intro W base args ds gs before hval hW _ hcond hs hL hsh _
  exact contract H enc W base args ds gs before hval hW hs hsh hL

theorem said : Rows.S2kSaltedSaid :=
  OpenClaim.holds_of_cond 4 Tryd.f4 rfl rfl rfl rfl rfl rfl rfl ⟨rfl, rfl, rfl, rfl, rfl⟩ rfl rfl rfl rfl rfl (by kernel_rfl) Tryd.func4 (by kernel_rfl)
    (of_decide_eq_true (by kernel_rfl)) (by unfold Func.isWrapper; first | (rw [if_pos (by decide +kernel)]; kernel_rfl) | (rw [if_neg (by decide +kernel)]; exact ⟨rfl, rfl⟩))
    (fun os started H enc _ F => by rw [OpenClaim.pre_eq_preRow]; exact lifted os started H enc F)

theorem plain (f : FuncId) (fn : Func) (hf : Tryd.pinned.checked.prog.funcNamed "postilion/postilionlaw13.S2kSalted" = some f) (hfn : Tryd.pinned.checked.prog.funcs[f]? = some fn) :
    false = Tryd.pinned.checked.prog.looks [] ∧ ∀ (j : Nat) t, fn.params[j]? = some t → Tryd.pinned.checked.prog.wantsStandIn t = false := by
  obtain rfl : f = 4 := Option.some.inj ((show Tryd.prog.funcNamed "postilion/postilionlaw13.S2kSalted" = some 4 by kernel_rfl).symm.trans hf) |>.symm
  obtain rfl : fn = Tryd.f4 := (Option.some.inj (Tryd.func4.symm.trans hfn)).symm
  refine ⟨by kernel_rfl, fun j t ht => ?_⟩
  rw [Tryd.params4] at ht
  have hm := Array.mem_of_getElem? ht
  simp only [List.mem_toArray, List.mem_cons, List.not_mem_nil, or_false] at hm
  rcases hm with rfl | rfl | rfl | rfl | rfl | rfl <;> exact (show Tryd.prog.wantsStandIn _ = false by kernel_rfl)

/-- THE CARD. -/
theorem card : Rows.S2kSaltedCardSaid :=
  Claim7.holds_tied_plain_at .later [] _ _ _ _ said (fun _ h => by cases h) (by kernel_rfl) (fun _ h => by cases h) s2kSalted_row_tie rfl ⟨rfl, rfl⟩ (by kernel_rfl) rfl plain (by kernel_rfl)
#print axioms card
end Go.Proofs.YticflflbogdljaaDoor.s2kSalted
