/- AesApart: of every key, nil too, and of every two blocks the law answers true, and what comes in reads as it did. Conditions: those of the given row alone. -/
import Derived.Test.YtcpfiimbobijlaaDoorApart
import Derived.Test.YtcpfiimbobijlaaDoorCards
import Derived.Test.YtcpfiimbobijlaaDoorTie
namespace Go.Proofs.YtcpfiimbobijlaaDoor.aesApart
open Go Go.ChangeShapes Go.WideShapes Go.ChangeAt Go.RowKit
set_option maxRecDepth 100000

theorem enc_eqb (r : Nat) (hr : 0 < r) (W4 f1 f2 : Nat → UInt8) : eqb 16 (Go.Proofs.YtcpfiimbobijlaaDoor.enc boxF r W4 f1) (Go.Proofs.YtcpfiimbobijlaaDoor.enc boxF r W4 f2) = eqb 16 f1 f2 := by
  rw [Bool.eq_iff_iff, eqb_true, eqb_true]
  constructor
  · intro h
    exact (dec_enc undo_box r hr W4 f1).symm.trans ((E16.dec r h).trans (dec_enc undo_box r hr W4 f2))
  · intro h
    exact E16.enc h r hr (fun _ _ => rfl)
theorem apart_all (A : Option Addr) (n c : Nat) (key f1 f2 : Nat → UInt8) (W : World) (hs : Row W 0 48 256 boxF) (hk : 0 < n → ∃ b off, A = some ⟨b, off, none⟩ ∧ ∀ j, j < n → W.cell? ⟨b, off + j, none⟩ = some (.int .u8 ((key j).toNat : Int))) :
    Calls Tryd.prog 5 #[.slice A n c, .agg (row 16 f1), .agg (row 16 f2)] W fun e w' => e = .returned (.bool true) ∧ Below W.heap.size W w' := by
  by_cases h1 : n = 16
  · subst h1
    obtain ⟨b, off, rfl, hcell⟩ := hk (by omega)
    obtain ⟨W4, hW4⟩ := sched_exists boxF 4 key (by omega)
    have hlt : b < W.heap.size := block_lt_of_cell (hcell 0 (by omega))
    exact apart_walk0 _ 16 c f1 f2 (Go.Proofs.YtcpfiimbobijlaaDoor.enc boxF 10 W4) (Lib.hid (enc_eqb 10 (by omega) W4 f1 f2)) W hs fun inp w hb =>
      Encrypt16 boxF key W4 inp b off c w (hs.below hb hs.lt) (fun j hj => (hb.cell (p := ⟨b, off + j, none⟩) hlt).trans (hcell j hj)) hW4
  · by_cases h2 : n = 32
    · subst h2
      obtain ⟨b, off, rfl, hcell⟩ := hk (by omega)
      obtain ⟨W4, hW4⟩ := sched_exists boxF 8 key (by omega)
      have hlt : b < W.heap.size := block_lt_of_cell (hcell 0 (by omega))
      exact apart_walk0 _ 32 c f1 f2 (Go.Proofs.YtcpfiimbobijlaaDoor.enc boxF 14 W4) (Lib.hid (enc_eqb 14 (by omega) W4 f1 f2)) W hs fun inp w hb =>
        Encrypt32 boxF key W4 inp b off c w (hs.below hb hs.lt) (fun j hj => (hb.cell (p := ⟨b, off + j, none⟩) hlt).trans (hcell j hj)) hW4
    · exact apart_walk1 A n c f1 f2 (fun _ _ => 0) W hs fun inp w _ => Encrypt_bad A n c inp w h1 h2

theorem contract (H : Type) (enc : TypeId × Value → H) (W : World) (base : Nat) (args : Array Value) (ds gs : List (DataW H)) (before : List MemPlace)
    (hval : ∀ (j : Nat) t v, Tryd.f5.params[j]? = some t → args[j]? = some v → Value.okWide Tryd.prog W .any base t v)
    (hW : DataW.Whole enc Tryd.prog Tryd.f5.params.toList Rows.aesApartSpec.vars false W args.toList ds gs before) (hL : laidMetH Tryd.prog Rows.aesApartRow.laid W) (hsh : W.ShapedOpen Tryd.prog) :
    Calls Tryd.prog 5 args W fun e W' => ∃ v, e = .returned v ∧ Rows.aesApartSpec.post enc Tryd.prog Tryd.f5 false true false false W args v W' := by
  have hW' := hW
  obtain ⟨p, q, hA0, hV, rfl, hfz, hnd⟩ := hW
  have hA : DataW.TrodAll enc Tryd.prog W 0 (fun _ => true) true Tryd.f5.params.toList args.toList ds p := hA0
  rw [Tryd.params5] at hA hval
  obtain ⟨v0, vs0, d0, ds0, p0, q0, hargs, rfl, rfl, h0, r0⟩ := trodAll_cons hA
  obtain ⟨v1, vs1, d1, ds1, p1, q1, rfl, rfl, rfl, h1, r1⟩ := trodAll_cons r0
  obtain ⟨v2, vs2, d2, ds2, p2, q2, rfl, rfl, rfl, h2, r2⟩ := trodAll_cons r1
  obtain ⟨rfl, rfl, rfl⟩ := trodAll_nil r2
  obtain rfl : args = #[v0, v1, v2] := by cases args; simp_all
  obtain ⟨rfl, rfl⟩ := trodVars_none hV
  obtain ⟨A0, n0, c0, f0, rfl, hle0, hmx0, hk0⟩ := openB (hval 0 22 v0 rfl rfl) h0
  obtain ⟨f1, rfl⟩ := open16 (hval 1 23 v1 rfl rfl) h1
  obtain ⟨f2, rfl⟩ := open16 (hval 2 23 v2 rfl rfl) h2
  clear hA0
  simp only [List.append_nil] at hW'
  have hs := box_row hL hsh
  have l0 : ∀ x ∈ p0, x.block < W.heap.size := fun x hx => hW'.lt x (by simp [hx])
  have l1 : ∀ x ∈ p1, x.block < W.heap.size := fun x hx => hW'.lt x (by simp [hx])
  have l2 : ∀ x ∈ p2, x.block < W.heap.size := fun x hx => hW'.lt x (by simp [hx])
  refine (apart_all A0 n0 c0 f0 f1 f2 W hs hk0).mono fun e W' ⟨he, hb⟩ => ?_
  subst he
  refine ⟨_, rfl, _, _, _, [], (p0 ++ (p1 ++ (p2 ++ []))), [], hW', trodAll_cons_mk (shut_bool undBool _) trodAll_mk0, (trodAll_cons_mk (WideElems.Trod_stays laidOut readB rowB h0 (fun x hx => hb.same (l0 x hx)) (fun x hx => by simpa using l0 x hx)) (trodAll_cons_mk (WideElems.Trod_stays laidOut read16 row16 h1 (fun x hx => hb.same (l1 x hx)) (fun x hx => by simpa using l1 x hx)) (trodAll_cons_mk (WideElems.Trod_stays laidOut read16 row16 h2 (fun x hx => hb.same (l2 x hx)) (fun x hx => by simpa using l2 x hx)) trodAll_mk0))), rfl, hb.frame _, fun h => by cases h⟩

/-- A world for the witness: the settled one, the box as the program's text lays it. -/
noncomputable def laidWorld (os : Os) : World :=
  { World.holding Tryd.prog os ⟨#[], #[], []⟩ with heap := (World.holding Tryd.prog os ⟨#[], #[], []⟩).heap.modify 0 fun
      | .cells _ t frozen => .cells (row 256 boxF) t frozen
      | o => o }
theorem laid_met (os : Os) : laidMet Tryd.prog Rows.aesApartRow.laid ((laidWorld os).forCall (fun _ _ => 0) ⟨#[], #[.slice none 0 0, .agg (row 16 fun _ => 0), .agg (row 16 fun _ => 0)], []⟩).memory :=
  laidMet_of_run' 8 (by kernel_rfl) (by kernel_rfl)
theorem reads (os : Os) {H : Type} (enc : TypeId × Value → H) : ∃ places, DataW.whole enc Tryd.prog ((laidWorld os).forCall (fun _ _ => 0) ⟨#[], #[.slice none 0 0, .agg (row 16 fun _ => 0), .agg (row 16 fun _ => 0)], []⟩).memory Tryd.f5.params.toList Rows.aesApartSpec.vars false (#[.slice none 0 0, .agg (row 16 fun _ => 0), .agg (row 16 fun _ => 0)] : Array Value).toList 8 = some ([.nil, .agg (List.replicate 16 (.lit (.int .u8 0))), .agg (List.replicate 16 (.lit (.int .u8 0)))], [], places) :=
  ⟨[], by kernel_rfl⟩

set_option maxRecDepth 100000 in
theorem lifted (os : Os) (started : os.Started) (H : Type) (enc : TypeId × Value → H) (F : Stop.Interp) :
    ReturnsInHanded {} Tryd.checked os 5 .any ((OpenSpec.ofChange Rows.aesApartSpec).preRow enc Tryd.prog Tryd.f5 Rows.aesApartRow.domain false Rows.aesApartRow.laid) (((OpenSpec.ofChange Rows.aesApartSpec).at F).post enc Tryd.prog Tryd.f5 false true false false) := by
  obtain ⟨places, hx⟩ := reads os enc
  refine returnsInHanded_of_row (C := Tryd.checked) (s := OpenSpec.ofChange Rows.aesApartSpec) own started (by kernel_rfl) Tryd.func5
    (witness_row_at (enc := enc) (C := Tryd.checked) false (laidWorld os) #[.slice none 0 0, .agg (row 16 fun _ => 0), .agg (row 16 fun _ => 0)] rfl (by kernel_rfl) (by kernel_rfl) (by kernel_rfl)
      (OpenSpec.preRow_of_cond 8 hx (by kernel_rfl) (fun k hk => by cases hk) (by kernel_rfl) (laid_met os))) ?_
  intro W base args ds gs before hval hW _ _ _ hL hsh _
  exact contract H enc W base args ds gs before hval hW hL hsh

theorem said : Rows.AesApartSaid :=
  OpenClaim.holds_of_cond 5 Tryd.f5 rfl rfl rfl rfl rfl rfl rfl ⟨rfl, rfl, rfl, rfl, rfl⟩ rfl rfl rfl rfl rfl (by kernel_rfl) Tryd.func5 (by kernel_rfl)
    (of_decide_eq_true (by kernel_rfl)) (by unfold Func.isWrapper; first | (rw [if_pos (by decide +kernel)]; kernel_rfl) | (rw [if_neg (by decide +kernel)]; exact ⟨rfl, rfl⟩))
    (fun os started H enc _ F => by rw [OpenClaim.pre_eq_preRow]; exact lifted os started H enc F)

theorem plain (f : FuncId) (fn : Func) (hf : Tryd.pinned.checked.prog.funcNamed "postilion/postilionlaw02.AesApart" = some f) (hfn : Tryd.pinned.checked.prog.funcs[f]? = some fn) :
    false = Tryd.pinned.checked.prog.looks [] ∧ ∀ (j : Nat) t, fn.params[j]? = some t → Tryd.pinned.checked.prog.wantsStandIn t = false := by
  obtain rfl : f = 5 := Option.some.inj ((show Tryd.prog.funcNamed "postilion/postilionlaw02.AesApart" = some 5 by kernel_rfl).symm.trans hf) |>.symm
  obtain rfl : fn = Tryd.f5 := (Option.some.inj (Tryd.func5.symm.trans hfn)).symm
  refine ⟨by kernel_rfl, fun j t ht => ?_⟩
  rw [Tryd.params5] at ht
  have hm := Array.mem_of_getElem? ht
  simp only [List.mem_toArray, List.mem_cons, List.not_mem_nil, or_false] at hm
  rcases hm with rfl | rfl | rfl <;> exact (show Tryd.prog.wantsStandIn _ = false by kernel_rfl)

/-- THE CARD. -/
theorem card : Rows.AesApartCardSaid :=
  Claim7.holds_tied_plain_at .later [] _ _ _ _ said (fun _ h => by cases h) (by kernel_rfl) (fun _ h => by cases h) aesApart_row_tie rfl ⟨rfl, rfl⟩ (by kernel_rfl) rfl plain (by kernel_rfl)
#print axioms card
end Go.Proofs.YtcpfiimbobijlaaDoor.aesApart
