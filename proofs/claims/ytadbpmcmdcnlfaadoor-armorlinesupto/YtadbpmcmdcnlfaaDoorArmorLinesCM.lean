/- ArmorLines, where what is read is of bulk at most 1048576: of all bytes, every width, all names, with the sum or without, with either end of lines, with a last one or without, the law answers true, and what comes in reads as it did. Conditions: those of the given row alone; the tables that it lists are tied to the library's text by the given tie. -/
import Derived.Test.YtadbpmcmdcnlfaaDoorArmorLinesCQC
import Derived.Test.YtadbpmcmdcnlfaaDoorCards
import Derived.Test.YtadbpmcmdcnlfaaDoorTie
import Derived.Test.YtadbpmcmdcnlfaaDoorOpn
import Derived.ProofKit
import Derived.ChangeSlices
import Derived.ChangeKeysEq
import Derived.Carry
import Derived.OpenShut
import Derived.Deep.DeepHandedRow
import Derived.Lib.LaidTab
import Derived.Shelf.Vars
import Derived.ChangeSame
namespace Go.Proofs.YtadbpmcmdcnlfaaDoor.armorLines
open Go Go.ChangeShapes Go.WideShapes Go.ChangeAt Go.RowKit
set_option maxRecDepth 100000

theorem read_T0 : Tryd.prog.readableRec 22 = true := by kernel_rfl
theorem row_T0 : 22 < Tryd.prog.types.size := of_decide_eq_true (by kernel_rfl)
theorem read_T1 : Tryd.prog.readableRec 5 = true := by kernel_rfl
theorem row_T1 : 5 < Tryd.prog.types.size := of_decide_eq_true (by kernel_rfl)
theorem read_T2 : Tryd.prog.readableRec 31 = true := by kernel_rfl
theorem row_T2 : 31 < Tryd.prog.types.size := of_decide_eq_true (by kernel_rfl)
theorem read_T3 : Tryd.prog.readableRec 4 = true := by kernel_rfl
theorem row_T3 : 4 < Tryd.prog.types.size := of_decide_eq_true (by kernel_rfl)

theorem bytes8 : Tryd.prog.bytesOf 5 = 1 := by kernel_rfl
theorem le_reach {l : List UInt8} {W : World} {A : Option Addr} {c : Nat} (h : Vu cByte W A l.length c l) (hc : c * Tryd.prog.bytesOf 5 ≤ reachBytes) : l.length ≤ 140737488355328 := by
  have hcap := h.cap
  rw [bytes8] at hc
  unfold reachBytes at hc
  omega

theorem opens_tx {P : Program} {t : TypeId} (hu : P.underlying t = some .string) : Opens P t cTx (fun _ _ => True) := fun enc w fuel cs x h _ => by
  obtain ⟨s, rfl, rfl, _⟩ := DataW.trod_string hu h
  obtain ⟨l, rfl, _⟩ := str_list s
  exact ⟨l, rfl, trivial⟩
theorem part_le {H : Type} {d : DataW H} {l : List (DataW H)} (h : d ∈ l) : Rows.uptoBulk d ≤ Rows.uptoBulkAll l := by
  induction l with
  | nil => cases h
  | cons x r ih =>
    simp only [Rows.uptoBulkAll]
    cases List.mem_cons.1 h with
    | inl e => subst e; omega
    | inr e => have := ih e; omega
theorem hund : Tryd.prog.underlying 31 = some (.slice 9) := by kernel_rfl
theorem hcel : Tryd.prog.cellsOf 9 = 1 := by kernel_rfl
theorem hstr : Tryd.prog.underlying 9 = some .string := by kernel_rfl
/-- A name is no longer than what is read holds. -/
theorem names_bulk {H : Type} {enc : TypeId × Value → H} {P : Program} {W : World} {t e : TypeId} {A : Option Addr} {c : Nat} {ns : List (List UInt8)} {d : DataW H} {p : List MemPlace} (hu : P.underlying t = some (.slice e)) (hc : P.cellsOf e = 1) (he : P.underlying e = some .string)
    (hV : Vu cTx W A ns.length c ns) (h : DataW.Trod enc P W 0 (fun _ => true) true t (cSl.val (A, ns.length, c)) d p) : ∀ q ∈ ns, q.length ≤ Rows.uptoBulk d := fun q hq => by
  obtain ⟨i, hi, hiq⟩ := List.mem_iff_getElem.1 hq
  have hi2 : ns[i]? = some q := by rw [List.getElem?_eq_getElem hi, hiq]
  obtain ⟨b, off, rfl, hL⟩ := hV.open (by omega)
  obtain ⟨fuel, hf⟩ := h
  rcases Go.Deep.open_slice1 hu hc hf with ⟨e1, _⟩ | ⟨a, len, cap, m, n, V, D, Pl, e1, _, hl, _, hm, hx, hel⟩
  · simp [cSl, Value.cells] at e1
  · have e2 : (Value.slice (some ⟨b, off, none⟩) ns.length c) = .slice (some a) len cap := by simpa [cSl, Value.cells] using e1
    injection e2 with e3 e4 e5
    cases e3
    subst e4 e5
    simp only [if_true] at hm
    subst hm
    obtain ⟨h1, h2⟩ := hel i (by omega)
    obtain ⟨s, hs, hD, _⟩ := DataW.trod_string he h2
    have hcell := hL i q hi2 0 (.string (strL q)) rfl
    have e6 : V i = .string s := by simpa using hs
    have e7 : (⟨b, off + i * cTx.sz + 0, none⟩ : Addr) = (⟨b, off, none⟩ : Addr).add i := by
      have hz : cTx.sz = 1 := rfl
      rw [hz]
      simp [Addr.add]
    have e8 : Value.string (strL q) = .string s := by
      rw [← e6]
      have h3 := hcell
      rw [e7, h1] at h3
      exact (Option.some.inj h3).symm
    injection e8 with e9
    subst e9
    have hDi : D i = .lit (.string q) := (Prod.mk.inj hD).1
    have hmem : D i ∈ (List.range ns.length).map D := List.mem_map.2 ⟨i, List.mem_range.2 hi, rfl⟩
    have h4 := part_le hmem
    rw [hDi] at h4
    have h5 : Rows.uptoBulk (DataW.lit (H := H) (.string q)) = q.length + 1 := by simp [Rows.uptoBulk]
    rw [h5] at h4
    have hd := (Prod.mk.inj hx).1
    rw [hd]
    simp only [Rows.uptoBulk]
    omega

theorem max_cell {W : World} (h : W.ShapedOpen Tryd.prog) : MaxL W :=
  cell_of_shapedOpen_int h (g := 0) (of_decide_eq_true (by kernel_rfl)) (t := 3) (zero := #[.int .i64 0]) (by kernel_rfl) rfl (by kernel_rfl) (by kernel_rfl) (by kernel_rfl)
def accRow : List Int := [128, 191, 160, 191, 128, 159, 144, 191, 128, 143, 0, 0, 0, 0, 0, 0, 0, 0, 0, 0, 0, 0, 0, 0, 0, 0, 0, 0, 0, 0, 0, 0]
/-- A world for the witness: the settled one, utf8's tables as the library's text lays them. -/
noncomputable def laidWorld (os : Os) : World :=
  { World.holding Tryd.prog os ⟨#[], #[], []⟩ with heap := (((World.holding Tryd.prog os ⟨#[], #[], []⟩).heap.modify 2 fun
      | .cells _ t frozen => .cells (accRow.map fun z => Value.int .u8 z).toArray t frozen
      | o => o).modify 1 fun
      | .cells _ t frozen => .cells (Go.Pinned.utf8FirstZ.map fun (n : Nat) => Value.int .u8 n).toArray t frozen
      | o => o) }

theorem contract (H : Type) (enc : TypeId × Value → H) (W : World) (base : Nat) (args : Array Value) (ds gs : List (DataW H)) (before : List MemPlace)
    (hval : ∀ (j : Nat) t v, Tryd.f5.params[j]? = some t → args[j]? = some v → Value.okWide Tryd.prog W .any base t v)
    (hW : DataW.Whole enc Tryd.prog Tryd.f5.params.toList Rows.armorLinesSpec.vars false W args.toList ds gs before)
    (hs : (DataW.weightsEach Tryd.prog (Tryd.f5.params.toList ++ (Rows.OpenSpec.upto Rows.armorLinesSpec).bare.plain.varTypes Tryd.prog) (ds ++ gs)).all (· ≤ reachBytes) = true) (hsh : W.ShapedOpen Tryd.prog) (hcond : ∀ k, (Rows.OpenSpec.upto Rows.armorLinesSpec).cond = some k → k H (ds ++ gs) = true) :
    Calls Tryd.prog 5 args W fun e W' => ∃ v, e = .returned v ∧ Rows.armorLinesSpec.post enc Tryd.prog Tryd.f5 false true false false W args v W' := by
  have hW' := hW
  obtain ⟨p, q, hA0, hV, rfl, hfz, hnd⟩ := hW
  have hA : DataW.TrodAll enc Tryd.prog W 0 (fun _ => true) true Tryd.f5.params.toList args.toList ds p := hA0
  rw [Tryd.params5] at hA hval hs
  obtain ⟨v0, vs0, d0, ds0, p0, q0, hargs, rfl, rfl, h0, r0⟩ := trodAll_cons hA
  obtain ⟨v1, vs1, d1, ds1, p1, q1, rfl, rfl, rfl, h1, r1⟩ := trodAll_cons r0
  obtain ⟨v2, vs2, d2, ds2, p2, q2, rfl, rfl, rfl, h2, r2⟩ := trodAll_cons r1
  obtain ⟨v3, vs3, d3, ds3, p3, q3, rfl, rfl, rfl, h3, r3⟩ := trodAll_cons r2
  obtain ⟨v4, vs4, d4, ds4, p4, q4, rfl, rfl, rfl, h4, r4⟩ := trodAll_cons r3
  obtain ⟨v5, vs5, d5, ds5, p5, q5, rfl, rfl, rfl, h5, r5⟩ := trodAll_cons r4
  obtain ⟨rfl, rfl, rfl⟩ := trodAll_nil r5
  obtain rfl : args = #[v0, v1, v2, v3, v4, v5] := by cases args; simp_all
  obtain ⟨rfl, rfl⟩ := trodVars_none hV
  have z0 : (d0.weights Tryd.prog 22).all (· ≤ reachBytes) = true := List.all_eq_true.2 fun k hk => List.all_eq_true.1 hs k (DataW.weights_mem_each (j := 0) (t := 22) (d := d0) rfl rfl k hk)
  obtain ⟨a0, e0, ok0⟩ := open_arg (opens_slice (e := 5) (by kernel_rfl) (by kernel_rfl) (by decide) (opens_byte (by kernel_rfl))) (by kernel_rfl) (hval 0 22 v0 rfl rfl) h0 z0
  have z1 : (d1.weights Tryd.prog 5).all (· ≤ reachBytes) = true := List.all_eq_true.2 fun k hk => List.all_eq_true.1 hs k (DataW.weights_mem_each (j := 1) (t := 5) (d := d1) rfl rfl k hk)
  obtain ⟨a1, e1, ok1⟩ := open_arg (opens_byte (by kernel_rfl)) (by kernel_rfl) (hval 1 5 v1 rfl rfl) h1 z1
  have z2 : (d2.weights Tryd.prog 31).all (· ≤ reachBytes) = true := List.all_eq_true.2 fun k hk => List.all_eq_true.1 hs k (DataW.weights_mem_each (j := 2) (t := 31) (d := d2) rfl rfl k hk)
  obtain ⟨a2, e2, ok2⟩ := open_arg (opens_slice (C := cTx) (e := 9) (by kernel_rfl) (by kernel_rfl) (by decide) (opens_tx (by kernel_rfl))) (by kernel_rfl) (hval 2 31 v2 rfl rfl) h2 z2
  have z3 : (d3.weights Tryd.prog 4).all (· ≤ reachBytes) = true := List.all_eq_true.2 fun k hk => List.all_eq_true.1 hs k (DataW.weights_mem_each (j := 3) (t := 4) (d := d3) rfl rfl k hk)
  obtain ⟨a3, e3, ok3⟩ := open_arg (opens_bool (by kernel_rfl)) (by kernel_rfl) (hval 3 4 v3 rfl rfl) h3 z3
  have z4 : (d4.weights Tryd.prog 4).all (· ≤ reachBytes) = true := List.all_eq_true.2 fun k hk => List.all_eq_true.1 hs k (DataW.weights_mem_each (j := 4) (t := 4) (d := d4) rfl rfl k hk)
  obtain ⟨a4, e4, ok4⟩ := open_arg (opens_bool (by kernel_rfl)) (by kernel_rfl) (hval 4 4 v4 rfl rfl) h4 z4
  have z5 : (d5.weights Tryd.prog 4).all (· ≤ reachBytes) = true := List.all_eq_true.2 fun k hk => List.all_eq_true.1 hs k (DataW.weights_mem_each (j := 5) (t := 4) (d := d5) rfl rfl k hk)
  obtain ⟨a5, e5, ok5⟩ := open_arg (opens_bool (by kernel_rfl)) (by kernel_rfl) (hval 5 4 v5 rfl rfl) h5 z5
  clear hA0
  simp only [List.append_nil] at hW'
  have hM := max_cell hsh
  have l0 : ∀ x ∈ p0, x.block < W.heap.size := fun x hx => hW'.lt x (by simp [hx])
  have l1 : ∀ x ∈ p1, x.block < W.heap.size := fun x hx => hW'.lt x (by simp [hx])
  have l2 : ∀ x ∈ p2, x.block < W.heap.size := fun x hx => hW'.lt x (by simp [hx])
  have l3 : ∀ x ∈ p3, x.block < W.heap.size := fun x hx => hW'.lt x (by simp [hx])
  have l4 : ∀ x ∈ p4, x.block < W.heap.size := fun x hx => hW'.lt x (by simp [hx])
  have l5 : ∀ x ∈ p5, x.block < W.heap.size := fun x hx => hW'.lt x (by simp [hx])
  refine Calls.mono (R := fun e W' => e = .returned (.bool true) ∧ Below W.heap.size W W') ?_ fun e W' ⟨he, hb⟩ => ?_
  · clear hs hval hfz hnd
    subst e0
    subst e1
    subst e2
    subst e3
    subst e4
    subst e5
    obtain ⟨Ab, nb, cb⟩ := a0
    obtain ⟨b, hnb, hVb, _, hcapb⟩ := ok0
    obtain rfl : nb = b.length := hnb
    obtain ⟨An, nn, cn⟩ := a2
    obtain ⟨n, hnn, hVn, _, hcapn⟩ := ok2
    obtain rfl : nn = n.length := hnn
    have hbk : Rows.uptoBulkAll _ ≤ 1048576 := of_decide_eq_true (hcond _ rfl)
    simp only [Rows.uptoBulkAll, List.cons_append, List.nil_append] at hbk
    have hsub : ∀ q ∈ n, q.length ≤ 1048576 := fun q hq => by have := names_bulk hund hcel hstr hVn h2 q hq; omega
    exact lines_l b Ab cb (by have := le_reach hVb hcapb; omega) a1 n An cn hsub a3 a4 a5 W ⟨hVb, hVn, hM⟩
  subst he
  refine ⟨_, rfl, _, _, _, [], (p0 ++ (p1 ++ (p2 ++ (p3 ++ (p4 ++ (p5 ++ [])))))), [], hW', trodAll_cons_mk (shut_bool undBool _) trodAll_mk0, (trodAll_cons_mk (WideElems.Trod_stays laidOut read_T0 row_T0 h0 (fun x hx => hb.same (l0 x hx)) (fun x hx => by simpa using l0 x hx)) (trodAll_cons_mk (WideElems.Trod_stays laidOut read_T1 row_T1 h1 (fun x hx => hb.same (l1 x hx)) (fun x hx => by simpa using l1 x hx)) (trodAll_cons_mk (WideElems.Trod_stays laidOut read_T2 row_T2 h2 (fun x hx => hb.same (l2 x hx)) (fun x hx => by simpa using l2 x hx)) (trodAll_cons_mk (WideElems.Trod_stays laidOut read_T3 row_T3 h3 (fun x hx => hb.same (l3 x hx)) (fun x hx => by simpa using l3 x hx)) (trodAll_cons_mk (WideElems.Trod_stays laidOut read_T3 row_T3 h4 (fun x hx => hb.same (l4 x hx)) (fun x hx => by simpa using l4 x hx)) (trodAll_cons_mk (WideElems.Trod_stays laidOut read_T3 row_T3 h5 (fun x hx => hb.same (l5 x hx)) (fun x hx => by simpa using l5 x hx)) trodAll_mk0)))))), rfl, hb.frame _, fun h => by cases h⟩

theorem laid_met (os : Os) : laidMet Tryd.prog Rows.armorLinesUptoRow.laid ((laidWorld os).forCall (fun _ _ => 0) ⟨#[], #[.slice none 0 0, .int .u8 0, .slice none 0 0, .bool false, .bool false, .bool false], []⟩).memory :=
  laidMet_of_run' 8 (by kernel_rfl) (by kernel_rfl)
theorem reads (os : Os) {H : Type} (enc : TypeId × Value → H) : ∃ places, DataW.whole enc Tryd.prog ((laidWorld os).forCall (fun _ _ => 0) ⟨#[], #[.slice none 0 0, .int .u8 0, .slice none 0 0, .bool false, .bool false, .bool false], []⟩).memory Tryd.f5.params.toList Rows.armorLinesSpec.vars false (#[.slice none 0 0, .int .u8 0, .slice none 0 0, .bool false, .bool false, .bool false] : Array Value).toList 8 = some ([.nil, .lit (.int .u8 0), .nil, .lit (.bool false), .lit (.bool false), .lit (.bool false)], [], places) :=
  ⟨[], by kernel_rfl⟩

set_option maxRecDepth 100000 in
theorem lifted (os : Os) (started : os.Started) (H : Type) (enc : TypeId × Value → H) (F : Stop.Interp) :
    ReturnsInHanded {} Tryd.checked os 5 .any ((Rows.OpenSpec.upto Rows.armorLinesSpec).preRow enc Tryd.prog Tryd.f5 Rows.armorLinesUptoRow.domain false Rows.armorLinesUptoRow.laid) (((Rows.OpenSpec.upto Rows.armorLinesSpec).at F).post enc Tryd.prog Tryd.f5 false true false false) := by
  obtain ⟨places, hx⟩ := reads os enc
  refine returnsInHanded_of_row (C := Tryd.checked) (s := Rows.OpenSpec.upto Rows.armorLinesSpec) own started (by kernel_rfl) Tryd.func5
    (witness_row_at (enc := enc) (C := Tryd.checked) false (laidWorld os) #[.slice none 0 0, .int .u8 0, .slice none 0 0, .bool false, .bool false, .bool false] rfl (by kernel_rfl) (by kernel_rfl) (by kernel_rfl)
      (OpenSpec.preRow_of_cond 8 hx (by kernel_rfl) (fun k hk => by cases hk; kernel_rfl) (by kernel_rfl) (laid_met os))) ?_
  intro W base args ds gs before hval hW _ hcond hs hL hsh _
  exact contract H enc W base args ds gs before hval hW hs hsh hcond

theorem said : Rows.ArmorLinesUptoSaid :=
  OpenClaim.holds_of_cond 5 Tryd.f5 rfl rfl rfl rfl rfl rfl rfl ⟨rfl, rfl, rfl, rfl, rfl⟩ rfl rfl rfl rfl rfl (by kernel_rfl) Tryd.func5 (by kernel_rfl)
    (of_decide_eq_true (by kernel_rfl)) (by unfold Func.isWrapper; first | (rw [if_pos (by decide +kernel)]; kernel_rfl) | (rw [if_neg (by decide +kernel)]; exact ⟨rfl, rfl⟩))
    (fun os started H enc _ F => by rw [OpenClaim.pre_eq_preRow]; exact lifted os started H enc F)

theorem plain (f : FuncId) (fn : Func) (hf : Tryd.pinned.checked.prog.funcNamed "postilion/postilionlaw12.ArmorLines" = some f) (hfn : Tryd.pinned.checked.prog.funcs[f]? = some fn) :
    false = Tryd.pinned.checked.prog.looks [] ∧ ∀ (j : Nat) t, fn.params[j]? = some t → Tryd.pinned.checked.prog.wantsStandIn t = false := by
  obtain rfl : f = 5 := Option.some.inj ((show Tryd.prog.funcNamed "postilion/postilionlaw12.ArmorLines" = some 5 by kernel_rfl).symm.trans hf) |>.symm
  obtain rfl : fn = Tryd.f5 := (Option.some.inj (Tryd.func5.symm.trans hfn)).symm
  refine ⟨by kernel_rfl, fun j t ht => ?_⟩
  rw [Tryd.params5] at ht
  have hm := Array.mem_of_getElem? ht
  simp only [List.mem_toArray, List.mem_cons, List.not_mem_nil, or_false] at hm
  rcases hm with rfl | rfl | rfl | rfl | rfl | rfl <;> exact (show Tryd.prog.wantsStandIn _ = false by kernel_rfl)

/-- THE CARD. -/
theorem card : Rows.ArmorLinesUptoCardSaid :=
  Claim7.holds_tied_plain_at .later [] _ _ _ _ said (fun _ h => by cases h) (by kernel_rfl) (fun _ h => by cases h) armorLinesUpto_row_tie rfl ⟨rfl, rfl⟩ (by kernel_rfl) rfl plain (by kernel_rfl)
#print axioms card
end Go.Proofs.YtadbpmcmdcnlfaaDoor.armorLines
