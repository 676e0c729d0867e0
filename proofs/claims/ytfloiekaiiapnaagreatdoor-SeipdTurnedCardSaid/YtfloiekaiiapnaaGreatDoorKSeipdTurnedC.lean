/- SeipdTurned: of every session key, salt, bytes, place, byte, way and chunks the law answers true, and what comes in reads as it did. Conditions: those of the given row alone; the tables that it lists (those of SHA-256, AES, math/bits) are tied to the program's text by the given tie. -/
import Derived.Test.YtfloiekaiiapnaaGreatDoorKSeipdTurnedCG
import Derived.Test.YtfloiekaiiapnaaGreatDoorCards
import Derived.Test.YtfloiekaiiapnaaGreatDoorTie
import Derived.ProofKit
import Derived.ChangeSlices
import Derived.ChangeKeysEq
import Derived.Carry
import Derived.OpenShut
import Derived.Deep.DeepHandedRow
import Derived.Lib.LaidTab
import Derived.Shelf.Vars
import Derived.ChangeSame
import Derived.LaidSub
namespace Go.Proofs.YtfloiekaiiapnaaGreatDoor.seipdTurned
open Go Go.ChangeShapes Go.WideShapes Go.ChangeAt Go.RowKit
set_option maxRecDepth 100000

theorem read_T0 : Tryz.prog.readableRec 22 = true := by kernel_rfl
theorem row_T0 : 22 < Tryz.prog.types.size := of_decide_eq_true (by kernel_rfl)
theorem read_T1 : Tryz.prog.readableRec 23 = true := by kernel_rfl
theorem row_T1 : 23 < Tryz.prog.types.size := of_decide_eq_true (by kernel_rfl)
theorem read_T2 : Tryz.prog.readableRec 31 = true := by kernel_rfl
theorem row_T2 : 31 < Tryz.prog.types.size := of_decide_eq_true (by kernel_rfl)
theorem read_T3 : Tryz.prog.readableRec 5 = true := by kernel_rfl
theorem row_T3 : 5 < Tryz.prog.types.size := of_decide_eq_true (by kernel_rfl)
def dbE (i : Nat) : UInt8 := ([0, 1, 28, 2, 29, 14, 24, 3, 30, 22, 20, 15, 25, 17, 4, 8, 31, 27, 13, 23, 21, 19, 16, 7, 26, 12, 18, 6, 11, 5, 10, 9] : List UInt8).getD i 0

def zsS : List Int := [1779033703, 3144134277, 1013904242, 2773480762, 1359893119, 2600822924, 528734635, 1541459225]
theorem gS : Tryz.prog.globalNamed "postilion/sha2.start256" = some 0 := by kernel_rfl
theorem gTS : (Tryz.prog.globals[0]?).map (·.type) = some 115 := by kernel_rfl
theorem undS : Tryz.prog.underlying 115 = some (.array 8 114) := by kernel_rfl
theorem undeS : Tryz.prog.underlying 114 = some (.int .u32) := by kernel_rfl
theorem celS : Tryz.prog.cellsOf 114 = 1 := by kernel_rfl
theorem celsS : Tryz.prog.cellsOf 115 = 8 := by kernel_rfl
theorem zrS : (zsS.map fun z => Value.int .u32 z).toArray = (cWs 8).enc H32 := by kernel_rfl
theorem ltS : 0 < Tryz.prog.globals.size := of_decide_eq_true (by kernel_rfl)
theorem stS : (((begin Tryz.prog (fun _ _ => 0) default).world.heap[0]?).bind Obj.row?) = some ((cWs 8).enc (fun _ => 0), 115) := by kernel_rfl
set_option maxRecDepth 100000 in
theorem tabS {W : World} (h : laidMetH Tryz.prog [("postilion/sha2.start256", Rows.laid_postilion_sha2_start256)] W) (hsh : W.ShapedOpen Tryz.prog) : W.heap[0]? = some (.cells ((cWs 8).enc H32) 115 (0, 0)) := by
  have ht : Lib.TabIs Tryz.prog W "postilion/sha2.start256" .u32 zsS := Lib.tabIs_of_head (rest := []) gS gTS undS undeS celS celsS h
  obtain ⟨cs, hc, _, _⟩ := hsh.1 0 _ _ ltS stS
  unfold Lib.TabIs World.var? at ht
  simp only [gS, Option.bind_some, hc] at ht
  rw [hc, ← zrS, Option.some.inj ht]

def zsK : List Int := [1116352408, 1899447441, 3049323471, 3921009573, 961987163, 1508970993, 2453635748, 2870763221, 3624381080, 310598401, 607225278, 1426881987, 1925078388, 2162078206, 2614888103, 3248222580, 3835390401, 4022224774, 264347078, 604807628, 770255983, 1249150122, 1555081692, 1996064986, 2554220882, 2821834349, 2952996808, 3210313671, 3336571891, 3584528711, 113926993, 338241895, 666307205, 773529912, 1294757372, 1396182291, 1695183700, 1986661051, 2177026350, 2456956037, 2730485921, 2820302411, 3259730800, 3345764771, 3516065817, 3600352804, 4094571909, 275423344, 430227734, 506948616, 659060556, 883997877, 958139571, 1322822218, 1537002063, 1747873779, 1955562222, 2024104815, 2227730452, 2361852424, 2428436474, 2756734187, 3204031479, 3329325298]
theorem gK : Tryz.prog.globalNamed "postilion/sha2.rounds256" = some 1 := by kernel_rfl
theorem gTK : (Tryz.prog.globals[1]?).map (·.type) = some 125 := by kernel_rfl
theorem undK : Tryz.prog.underlying 125 = some (.array 64 114) := by kernel_rfl
theorem undeK : Tryz.prog.underlying 114 = some (.int .u32) := by kernel_rfl
theorem celK : Tryz.prog.cellsOf 114 = 1 := by kernel_rfl
theorem celsK : Tryz.prog.cellsOf 125 = 64 := by kernel_rfl
theorem zrK : (zsK.map fun z => Value.int .u32 z).toArray = (cWs 64).enc K32 := by kernel_rfl
theorem ltK : 1 < Tryz.prog.globals.size := of_decide_eq_true (by kernel_rfl)
theorem stK : (((begin Tryz.prog (fun _ _ => 0) default).world.heap[1]?).bind Obj.row?) = some ((cWs 64).enc (fun _ => 0), 125) := by kernel_rfl
set_option maxRecDepth 100000 in
theorem tabK {W : World} (h : laidMetH Tryz.prog [("postilion/sha2.rounds256", Rows.laid_postilion_sha2_rounds256)] W) (hsh : W.ShapedOpen Tryz.prog) : W.heap[1]? = some (.cells ((cWs 64).enc K32) 125 (0, 0)) := by
  have ht : Lib.TabIs Tryz.prog W "postilion/sha2.rounds256" .u32 zsK := Lib.tabIs_of_head (rest := []) gK gTK undK undeK celK celsK h
  obtain ⟨cs, hc, _, _⟩ := hsh.1 1 _ _ ltK stK
  unfold Lib.TabIs World.var? at ht
  simp only [gK, Option.bind_some, hc] at ht
  rw [hc, ← zrK, Option.some.inj ht]

def zsB : List Int := [99, 124, 119, 123, 242, 107, 111, 197, 48, 1, 103, 43, 254, 215, 171, 118, 202, 130, 201, 125, 250, 89, 71, 240, 173, 212, 162, 175, 156, 164, 114, 192, 183, 253, 147, 38, 54, 63, 247, 204, 52, 165, 229, 241, 113, 216, 49, 21, 4, 199, 35, 195, 24, 150, 5, 154, 7, 18, 128, 226, 235, 39, 178, 117, 9, 131, 44, 26, 27, 110, 90, 160, 82, 59, 214, 179, 41, 227, 47, 132, 83, 209, 0, 237, 32, 252, 177, 91, 106, 203, 190, 57, 74, 76, 88, 207, 208, 239, 170, 251, 67, 77, 51, 133, 69, 249, 2, 127, 80, 60, 159, 168, 81, 163, 64, 143, 146, 157, 56, 245, 188, 182, 218, 33, 16, 255, 243, 210, 205, 12, 19, 236, 95, 151, 68, 23, 196, 167, 126, 61, 100, 93, 25, 115, 96, 129, 79, 220, 34, 42, 144, 136, 70, 238, 184, 20, 222, 94, 11, 219, 224, 50, 58, 10, 73, 6, 36, 92, 194, 211, 172, 98, 145, 149, 228, 121, 231, 200, 55, 109, 141, 213, 78, 169, 108, 86, 244, 234, 101, 122, 174, 8, 186, 120, 37, 46, 28, 166, 180, 198, 232, 221, 116, 31, 75, 189, 139, 138, 112, 62, 181, 102, 72, 3, 246, 14, 97, 53, 87, 185, 134, 193, 29, 158, 225, 248, 152, 17, 105, 217, 142, 148, 155, 30, 135, 233, 206, 85, 40, 223, 140, 161, 137, 13, 191, 230, 66, 104, 65, 153, 45, 15, 176, 84, 187, 22]
theorem gB : Tryz.prog.globalNamed "postilion/aes.box" = some 2 := by kernel_rfl
theorem gTB : (Tryz.prog.globals[2]?).map (·.type) = some 105 := by kernel_rfl
theorem undB : Tryz.prog.underlying 105 = some (.array 256 5) := by kernel_rfl
theorem undeB : Tryz.prog.underlying 5 = some (.int .u8) := by kernel_rfl
theorem celB : Tryz.prog.cellsOf 5 = 1 := by kernel_rfl
theorem celsB : Tryz.prog.cellsOf 105 = 256 := by kernel_rfl
theorem zrB : (zsB.map fun z => Value.int .u8 z).toArray = (cArr 256).enc boxF := by kernel_rfl
theorem ltB : 2 < Tryz.prog.globals.size := of_decide_eq_true (by kernel_rfl)
theorem stB : (((begin Tryz.prog (fun _ _ => 0) default).world.heap[2]?).bind Obj.row?) = some ((cArr 256).enc (fun _ => 0), 105) := by kernel_rfl
set_option maxRecDepth 100000 in
theorem tabB {W : World} (h : laidMetH Tryz.prog [("postilion/aes.box", Rows.laid_postilion_aes_box)] W) (hsh : W.ShapedOpen Tryz.prog) : W.heap[2]? = some (.cells ((cArr 256).enc boxF) 105 (0, 0)) := by
  have ht : Lib.TabIs Tryz.prog W "postilion/aes.box" .u8 zsB := Lib.tabIs_of_head (rest := []) gB gTB undB undeB celB celsB h
  obtain ⟨cs, hc, _, _⟩ := hsh.1 2 _ _ ltB stB
  unfold Lib.TabIs World.var? at ht
  simp only [gB, Option.bind_some, hc] at ht
  rw [hc, ← zrB, Option.some.inj ht]

def zsD : List Int := [0, 1, 56, 2, 57, 49, 28, 3, 61, 58, 42, 50, 38, 29, 17, 4, 62, 47, 59, 36, 45, 43, 51, 22, 53, 39, 33, 30, 24, 18, 12, 5, 63, 55, 48, 27, 60, 41, 37, 16, 46, 35, 44, 21, 52, 32, 23, 11, 54, 26, 40, 15, 34, 20, 31, 10, 25, 14, 19, 9, 13, 8, 7, 6]
theorem gD : Tryz.prog.globalNamed "math/bits.deBruijn64tab" = some 4 := by kernel_rfl
theorem gTD : (Tryz.prog.globals[4]?).map (·.type) = some 104 := by kernel_rfl
theorem undD : Tryz.prog.underlying 104 = some (.array 64 5) := by kernel_rfl
theorem undeD : Tryz.prog.underlying 5 = some (.int .u8) := by kernel_rfl
theorem celD : Tryz.prog.cellsOf 5 = 1 := by kernel_rfl
theorem celsD : Tryz.prog.cellsOf 104 = 64 := by kernel_rfl
theorem zrD : (zsD.map fun z => Value.int .u8 z).toArray = (cArr 64).enc dbF := by kernel_rfl
theorem ltD : 4 < Tryz.prog.globals.size := of_decide_eq_true (by kernel_rfl)
theorem stD : (((begin Tryz.prog (fun _ _ => 0) default).world.heap[4]?).bind Obj.row?) = some ((cArr 64).enc (fun _ => 0), 104) := by kernel_rfl
set_option maxRecDepth 100000 in
theorem tabD {W : World} (h : laidMetH Tryz.prog [("math/bits.deBruijn64tab", Rows.laid_math_bits_deBruijn64tab)] W) (hsh : W.ShapedOpen Tryz.prog) : W.heap[4]? = some (.cells ((cArr 64).enc dbF) 104 (0, 0)) := by
  have ht : Lib.TabIs Tryz.prog W "math/bits.deBruijn64tab" .u8 zsD := Lib.tabIs_of_head (rest := []) gD gTD undD undeD celD celsD h
  obtain ⟨cs, hc, _, _⟩ := hsh.1 4 _ _ ltD stD
  unfold Lib.TabIs World.var? at ht
  simp only [gD, Option.bind_some, hc] at ht
  rw [hc, ← zrD, Option.some.inj ht]

/-- A world for the witness: the settled one, the tables as the program's text lays them. -/
noncomputable def laidWorld (os : Os) : World :=
  { World.holding Tryz.prog os ⟨#[], #[], []⟩ with heap := ((((((World.holding Tryz.prog os ⟨#[], #[], []⟩).heap.modify 0 fun
      | .cells _ t frozen => .cells ((cWs 8).enc H32) t frozen
      | o => o).modify 1 fun
      | .cells _ t frozen => .cells ((cWs 64).enc K32) t frozen
      | o => o).modify 2 fun
      | .cells _ t frozen => .cells ((cArr 256).enc boxF) t frozen
      | o => o).modify 4 fun
      | .cells _ t frozen => .cells ((cArr 64).enc dbF) t frozen
      | o => o).modify 3 fun
      | .cells _ t frozen => .cells ((cArr 32).enc dbE) t frozen
      | o => o) }

theorem contract (H : Type) (enc : TypeId × Value → H) (W : World) (base : Nat) (args : Array Value) (ds gs : List (DataW H)) (before : List MemPlace)
    (hval : ∀ (j : Nat) t v, Tryz.f5.params[j]? = some t → args[j]? = some v → Value.okWide Tryz.prog W .any base t v)
    (hW : DataW.Whole enc Tryz.prog Tryz.f5.params.toList Rows.seipdTurnedSpec.vars false W args.toList ds gs before)
    (hs : (DataW.weightsEach Tryz.prog (Tryz.f5.params.toList ++ (OpenSpec.ofChange Rows.seipdTurnedSpec).bare.plain.varTypes Tryz.prog) (ds ++ gs)).all (· ≤ reachBytes) = true) (hsh : W.ShapedOpen Tryz.prog) (hL : laidMetH Tryz.prog Rows.seipdTurnedRow.laid W) :
    Calls Tryz.prog 5 args W fun e W' => ∃ v, e = .returned v ∧ Rows.seipdTurnedSpec.post enc Tryz.prog Tryz.f5 false true false false W args v W' := by
  have hW' := hW
  obtain ⟨p, q, hA0, hV, rfl, hfz, hnd⟩ := hW
  have hA : DataW.TrodAll enc Tryz.prog W 0 (fun _ => true) true Tryz.f5.params.toList args.toList ds p := hA0
  rw [Tryz.params5] at hA hval hs
  obtain ⟨v0, vs0, d0, ds0, p0, q0, hargs, rfl, rfl, h0, r0⟩ := trodAll_cons hA
  obtain ⟨v1, vs1, d1, ds1, p1, q1, rfl, rfl, rfl, h1, r1⟩ := trodAll_cons r0
  obtain ⟨v2, vs2, d2, ds2, p2, q2, rfl, rfl, rfl, h2, r2⟩ := trodAll_cons r1
  obtain ⟨v3, vs3, d3, ds3, p3, q3, rfl, rfl, rfl, h3, r3⟩ := trodAll_cons r2
  obtain ⟨v4, vs4, d4, ds4, p4, q4, rfl, rfl, rfl, h4, r4⟩ := trodAll_cons r3
  obtain ⟨v5, vs5, d5, ds5, p5, q5, rfl, rfl, rfl, h5, r5⟩ := trodAll_cons r4
  obtain ⟨v6, vs6, d6, ds6, p6, q6, rfl, rfl, rfl, h6, r6⟩ := trodAll_cons r5
  obtain ⟨v7, vs7, d7, ds7, p7, q7, rfl, rfl, rfl, h7, r7⟩ := trodAll_cons r6
  obtain ⟨rfl, rfl, rfl⟩ := trodAll_nil r7
  obtain rfl : args = #[v0, v1, v2, v3, v4, v5, v6, v7] := by cases args; simp_all
  obtain ⟨rfl, rfl⟩ := trodVars_none hV
  have z0 : (d0.weights Tryz.prog 22).all (· ≤ reachBytes) = true := List.all_eq_true.2 fun k hk => List.all_eq_true.1 hs k (DataW.weights_mem_each (j := 0) (t := 22) (d := d0) rfl rfl k hk)
  obtain ⟨a0, e0, ok0⟩ := open_arg (opens_arr (n := 32) (e := 5) (by kernel_rfl) (by kernel_rfl) (by kernel_rfl) (by kernel_rfl)) (by kernel_rfl) (hval 0 22 v0 rfl rfl) h0 z0
  have z1 : (d1.weights Tryz.prog 22).all (· ≤ reachBytes) = true := List.all_eq_true.2 fun k hk => List.all_eq_true.1 hs k (DataW.weights_mem_each (j := 1) (t := 22) (d := d1) rfl rfl k hk)
  obtain ⟨a1, e1, ok1⟩ := open_arg (opens_arr (n := 32) (e := 5) (by kernel_rfl) (by kernel_rfl) (by kernel_rfl) (by kernel_rfl)) (by kernel_rfl) (hval 1 22 v1 rfl rfl) h1 z1
  have z2 : (d2.weights Tryz.prog 23).all (· ≤ reachBytes) = true := List.all_eq_true.2 fun k hk => List.all_eq_true.1 hs k (DataW.weights_mem_each (j := 2) (t := 23) (d := d2) rfl rfl k hk)
  obtain ⟨a2, e2, ok2⟩ := open_arg (opens_slice (e := 5) (by kernel_rfl) (by kernel_rfl) (by decide) (opens_byte (by kernel_rfl))) (by kernel_rfl) (hval 2 23 v2 rfl rfl) h2 z2
  have z3 : (d3.weights Tryz.prog 31).all (· ≤ reachBytes) = true := List.all_eq_true.2 fun k hk => List.all_eq_true.1 hs k (DataW.weights_mem_each (j := 3) (t := 31) (d := d3) rfl rfl k hk)
  obtain ⟨a3, e3, ok3⟩ := open_arg (opens_u64 (by kernel_rfl)) (by kernel_rfl) (hval 3 31 v3 rfl rfl) h3 z3
  have z4 : (d4.weights Tryz.prog 5).all (· ≤ reachBytes) = true := List.all_eq_true.2 fun k hk => List.all_eq_true.1 hs k (DataW.weights_mem_each (j := 4) (t := 5) (d := d4) rfl rfl k hk)
  obtain ⟨a4, e4, ok4⟩ := open_arg (opens_byte (by kernel_rfl)) (by kernel_rfl) (hval 4 5 v4 rfl rfl) h4 z4
  have z5 : (d5.weights Tryz.prog 5).all (· ≤ reachBytes) = true := List.all_eq_true.2 fun k hk => List.all_eq_true.1 hs k (DataW.weights_mem_each (j := 5) (t := 5) (d := d5) rfl rfl k hk)
  obtain ⟨a5, e5, ok5⟩ := open_arg (opens_byte (by kernel_rfl)) (by kernel_rfl) (hval 5 5 v5 rfl rfl) h5 z5
  have z6 : (d6.weights Tryz.prog 5).all (· ≤ reachBytes) = true := List.all_eq_true.2 fun k hk => List.all_eq_true.1 hs k (DataW.weights_mem_each (j := 6) (t := 5) (d := d6) rfl rfl k hk)
  obtain ⟨a6, e6, ok6⟩ := open_arg (opens_byte (by kernel_rfl)) (by kernel_rfl) (hval 6 5 v6 rfl rfl) h6 z6
  have z7 : (d7.weights Tryz.prog 5).all (· ≤ reachBytes) = true := List.all_eq_true.2 fun k hk => List.all_eq_true.1 hs k (DataW.weights_mem_each (j := 7) (t := 5) (d := d7) rfl rfl k hk)
  obtain ⟨a7, e7, ok7⟩ := open_arg (opens_byte (by kernel_rfl)) (by kernel_rfl) (hval 7 5 v7 rfl rfl) h7 z7
  clear hA0
  simp only [List.append_nil] at hW'
  have hLS := hL.filter fun x => x.1 == "postilion/sha2.start256"
  rw [show (Rows.seipdTurnedRow.laid.filter fun x => x.1 == "postilion/sha2.start256") = [("postilion/sha2.start256", Rows.laid_postilion_sha2_start256)] by kernel_rfl] at hLS
  have hS := tabS hLS hsh
  have hLK := hL.filter fun x => x.1 == "postilion/sha2.rounds256"
  rw [show (Rows.seipdTurnedRow.laid.filter fun x => x.1 == "postilion/sha2.rounds256") = [("postilion/sha2.rounds256", Rows.laid_postilion_sha2_rounds256)] by kernel_rfl] at hLK
  have hK := tabK hLK hsh
  have hLB := hL.filter fun x => x.1 == "postilion/aes.box"
  rw [show (Rows.seipdTurnedRow.laid.filter fun x => x.1 == "postilion/aes.box") = [("postilion/aes.box", Rows.laid_postilion_aes_box)] by kernel_rfl] at hLB
  have hB := tabB hLB hsh
  have hLD := hL.filter fun x => x.1 == "math/bits.deBruijn64tab"
  rw [show (Rows.seipdTurnedRow.laid.filter fun x => x.1 == "math/bits.deBruijn64tab") = [("math/bits.deBruijn64tab", Rows.laid_math_bits_deBruijn64tab)] by kernel_rfl] at hLD
  have hD := tabD hLD hsh
  have l0 : ∀ x ∈ p0, x.block < W.heap.size := fun x hx => hW'.lt x (by simp [hx])
  have l1 : ∀ x ∈ p1, x.block < W.heap.size := fun x hx => hW'.lt x (by simp [hx])
  have l2 : ∀ x ∈ p2, x.block < W.heap.size := fun x hx => hW'.lt x (by simp [hx])
  have l3 : ∀ x ∈ p3, x.block < W.heap.size := fun x hx => hW'.lt x (by simp [hx])
  have l4 : ∀ x ∈ p4, x.block < W.heap.size := fun x hx => hW'.lt x (by simp [hx])
  have l5 : ∀ x ∈ p5, x.block < W.heap.size := fun x hx => hW'.lt x (by simp [hx])
  have l6 : ∀ x ∈ p6, x.block < W.heap.size := fun x hx => hW'.lt x (by simp [hx])
  have l7 : ∀ x ∈ p7, x.block < W.heap.size := fun x hx => hW'.lt x (by simp [hx])
  refine Calls.mono (R := fun e W' => e = .returned (.bool true) ∧ Below W.heap.size W W') ?_ fun e W' ⟨he, hb⟩ => ?_
  · clear hs hval hfz hnd
    subst e0
    subst e1
    subst e2
    subst e3
    subst e4
    subst e5
    subst e6
    subst e7
    obtain ⟨Ap, np, cp⟩ := a2
    obtain ⟨p, hnp, hVp, _, hcapp⟩ := ok2
    obtain rfl : np = p.length := hnp
    exact turned16_c a0 a1 Ap p.length cp p a3 a4 a5 a6 a7 W ⟨hK, hS, hB, hD, hVp⟩
  subst he
  refine ⟨_, rfl, _, _, _, [], (p0 ++ (p1 ++ (p2 ++ (p3 ++ (p4 ++ (p5 ++ (p6 ++ (p7 ++ [])))))))), [], hW', trodAll_cons_mk (shut_bool undBool _) trodAll_mk0, (trodAll_cons_mk (WideElems.Trod_stays laidOut read_T0 row_T0 h0 (fun x hx => hb.same (l0 x hx)) (fun x hx => by simpa using l0 x hx)) (trodAll_cons_mk (WideElems.Trod_stays laidOut read_T0 row_T0 h1 (fun x hx => hb.same (l1 x hx)) (fun x hx => by simpa using l1 x hx)) (trodAll_cons_mk (WideElems.Trod_stays laidOut read_T1 row_T1 h2 (fun x hx => hb.same (l2 x hx)) (fun x hx => by simpa using l2 x hx)) (trodAll_cons_mk (WideElems.Trod_stays laidOut read_T2 row_T2 h3 (fun x hx => hb.same (l3 x hx)) (fun x hx => by simpa using l3 x hx)) (trodAll_cons_mk (WideElems.Trod_stays laidOut read_T3 row_T3 h4 (fun x hx => hb.same (l4 x hx)) (fun x hx => by simpa using l4 x hx)) (trodAll_cons_mk (WideElems.Trod_stays laidOut read_T3 row_T3 h5 (fun x hx => hb.same (l5 x hx)) (fun x hx => by simpa using l5 x hx)) (trodAll_cons_mk (WideElems.Trod_stays laidOut read_T3 row_T3 h6 (fun x hx => hb.same (l6 x hx)) (fun x hx => by simpa using l6 x hx)) (trodAll_cons_mk (WideElems.Trod_stays laidOut read_T3 row_T3 h7 (fun x hx => hb.same (l7 x hx)) (fun x hx => by simpa using l7 x hx)) trodAll_mk0)))))))), rfl, hb.frame _, fun h => by cases h⟩

theorem laid_met (os : Os) : laidMet Tryz.prog Rows.seipdTurnedRow.laid ((laidWorld os).forCall (fun _ _ => 0) ⟨#[], #[.agg #[.int .u8 0, .int .u8 0, .int .u8 0, .int .u8 0, .int .u8 0, .int .u8 0, .int .u8 0, .int .u8 0, .int .u8 0, .int .u8 0, .int .u8 0, .int .u8 0, .int .u8 0, .int .u8 0, .int .u8 0, .int .u8 0, .int .u8 0, .int .u8 0, .int .u8 0, .int .u8 0, .int .u8 0, .int .u8 0, .int .u8 0, .int .u8 0, .int .u8 0, .int .u8 0, .int .u8 0, .int .u8 0, .int .u8 0, .int .u8 0, .int .u8 0, .int .u8 0], .agg #[.int .u8 0, .int .u8 0, .int .u8 0, .int .u8 0, .int .u8 0, .int .u8 0, .int .u8 0, .int .u8 0, .int .u8 0, .int .u8 0, .int .u8 0, .int .u8 0, .int .u8 0, .int .u8 0, .int .u8 0, .int .u8 0, .int .u8 0, .int .u8 0, .int .u8 0, .int .u8 0, .int .u8 0, .int .u8 0, .int .u8 0, .int .u8 0, .int .u8 0, .int .u8 0, .int .u8 0, .int .u8 0, .int .u8 0, .int .u8 0, .int .u8 0, .int .u8 0], .slice none 0 0, .int .u64 0, .int .u8 0, .int .u8 0, .int .u8 0, .int .u8 0], []⟩).memory :=
  laidMet_of_run' 8 (by kernel_rfl) (by kernel_rfl)
theorem reads (os : Os) {H : Type} (enc : TypeId × Value → H) : ∃ places, DataW.whole enc Tryz.prog ((laidWorld os).forCall (fun _ _ => 0) ⟨#[], #[.agg #[.int .u8 0, .int .u8 0, .int .u8 0, .int .u8 0, .int .u8 0, .int .u8 0, .int .u8 0, .int .u8 0, .int .u8 0, .int .u8 0, .int .u8 0, .int .u8 0, .int .u8 0, .int .u8 0, .int .u8 0, .int .u8 0, .int .u8 0, .int .u8 0, .int .u8 0, .int .u8 0, .int .u8 0, .int .u8 0, .int .u8 0, .int .u8 0, .int .u8 0, .int .u8 0, .int .u8 0, .int .u8 0, .int .u8 0, .int .u8 0, .int .u8 0, .int .u8 0], .agg #[.int .u8 0, .int .u8 0, .int .u8 0, .int .u8 0, .int .u8 0, .int .u8 0, .int .u8 0, .int .u8 0, .int .u8 0, .int .u8 0, .int .u8 0, .int .u8 0, .int .u8 0, .int .u8 0, .int .u8 0, .int .u8 0, .int .u8 0, .int .u8 0, .int .u8 0, .int .u8 0, .int .u8 0, .int .u8 0, .int .u8 0, .int .u8 0, .int .u8 0, .int .u8 0, .int .u8 0, .int .u8 0, .int .u8 0, .int .u8 0, .int .u8 0, .int .u8 0], .slice none 0 0, .int .u64 0, .int .u8 0, .int .u8 0, .int .u8 0, .int .u8 0], []⟩).memory Tryz.f5.params.toList Rows.seipdTurnedSpec.vars false (#[.agg #[.int .u8 0, .int .u8 0, .int .u8 0, .int .u8 0, .int .u8 0, .int .u8 0, .int .u8 0, .int .u8 0, .int .u8 0, .int .u8 0, .int .u8 0, .int .u8 0, .int .u8 0, .int .u8 0, .int .u8 0, .int .u8 0, .int .u8 0, .int .u8 0, .int .u8 0, .int .u8 0, .int .u8 0, .int .u8 0, .int .u8 0, .int .u8 0, .int .u8 0, .int .u8 0, .int .u8 0, .int .u8 0, .int .u8 0, .int .u8 0, .int .u8 0, .int .u8 0], .agg #[.int .u8 0, .int .u8 0, .int .u8 0, .int .u8 0, .int .u8 0, .int .u8 0, .int .u8 0, .int .u8 0, .int .u8 0, .int .u8 0, .int .u8 0, .int .u8 0, .int .u8 0, .int .u8 0, .int .u8 0, .int .u8 0, .int .u8 0, .int .u8 0, .int .u8 0, .int .u8 0, .int .u8 0, .int .u8 0, .int .u8 0, .int .u8 0, .int .u8 0, .int .u8 0, .int .u8 0, .int .u8 0, .int .u8 0, .int .u8 0, .int .u8 0, .int .u8 0], .slice none 0 0, .int .u64 0, .int .u8 0, .int .u8 0, .int .u8 0, .int .u8 0] : Array Value).toList 8 = some ([.agg [.lit (.int .u8 0), .lit (.int .u8 0), .lit (.int .u8 0), .lit (.int .u8 0), .lit (.int .u8 0), .lit (.int .u8 0), .lit (.int .u8 0), .lit (.int .u8 0), .lit (.int .u8 0), .lit (.int .u8 0), .lit (.int .u8 0), .lit (.int .u8 0), .lit (.int .u8 0), .lit (.int .u8 0), .lit (.int .u8 0), .lit (.int .u8 0), .lit (.int .u8 0), .lit (.int .u8 0), .lit (.int .u8 0), .lit (.int .u8 0), .lit (.int .u8 0), .lit (.int .u8 0), .lit (.int .u8 0), .lit (.int .u8 0), .lit (.int .u8 0), .lit (.int .u8 0), .lit (.int .u8 0), .lit (.int .u8 0), .lit (.int .u8 0), .lit (.int .u8 0), .lit (.int .u8 0), .lit (.int .u8 0)], .agg [.lit (.int .u8 0), .lit (.int .u8 0), .lit (.int .u8 0), .lit (.int .u8 0), .lit (.int .u8 0), .lit (.int .u8 0), .lit (.int .u8 0), .lit (.int .u8 0), .lit (.int .u8 0), .lit (.int .u8 0), .lit (.int .u8 0), .lit (.int .u8 0), .lit (.int .u8 0), .lit (.int .u8 0), .lit (.int .u8 0), .lit (.int .u8 0), .lit (.int .u8 0), .lit (.int .u8 0), .lit (.int .u8 0), .lit (.int .u8 0), .lit (.int .u8 0), .lit (.int .u8 0), .lit (.int .u8 0), .lit (.int .u8 0), .lit (.int .u8 0), .lit (.int .u8 0), .lit (.int .u8 0), .lit (.int .u8 0), .lit (.int .u8 0), .lit (.int .u8 0), .lit (.int .u8 0), .lit (.int .u8 0)], .nil, .lit (.int .u64 0), .lit (.int .u8 0), .lit (.int .u8 0), .lit (.int .u8 0), .lit (.int .u8 0)], [], places) :=
  ⟨[], by kernel_rfl⟩

set_option maxRecDepth 100000 in
theorem lifted (os : Os) (started : os.Started) (H : Type) (enc : TypeId × Value → H) (F : Stop.Interp) :
    ReturnsInHanded {} Tryz.checked os 5 .any ((OpenSpec.ofChange Rows.seipdTurnedSpec).preRow enc Tryz.prog Tryz.f5 Rows.seipdTurnedRow.domain false Rows.seipdTurnedRow.laid) (((OpenSpec.ofChange Rows.seipdTurnedSpec).at F).post enc Tryz.prog Tryz.f5 false true false false) := by
  obtain ⟨places, hx⟩ := reads os enc
  refine returnsInHanded_of_row (C := Tryz.checked) (s := OpenSpec.ofChange Rows.seipdTurnedSpec) own started (by kernel_rfl) Tryz.func5
    (witness_row_at (enc := enc) (C := Tryz.checked) false (laidWorld os) #[.agg #[.int .u8 0, .int .u8 0, .int .u8 0, .int .u8 0, .int .u8 0, .int .u8 0, .int .u8 0, .int .u8 0, .int .u8 0, .int .u8 0, .int .u8 0, .int .u8 0, .int .u8 0, .int .u8 0, .int .u8 0, .int .u8 0, .int .u8 0, .int .u8 0, .int .u8 0, .int .u8 0, .int .u8 0, .int .u8 0, .int .u8 0, .int .u8 0, .int .u8 0, .int .u8 0, .int .u8 0, .int .u8 0, .int .u8 0, .int .u8 0, .int .u8 0, .int .u8 0], .agg #[.int .u8 0, .int .u8 0, .int .u8 0, .int .u8 0, .int .u8 0, .int .u8 0, .int .u8 0, .int .u8 0, .int .u8 0, .int .u8 0, .int .u8 0, .int .u8 0, .int .u8 0, .int .u8 0, .int .u8 0, .int .u8 0, .int .u8 0, .int .u8 0, .int .u8 0, .int .u8 0, .int .u8 0, .int .u8 0, .int .u8 0, .int .u8 0, .int .u8 0, .int .u8 0, .int .u8 0, .int .u8 0, .int .u8 0, .int .u8 0, .int .u8 0, .int .u8 0], .slice none 0 0, .int .u64 0, .int .u8 0, .int .u8 0, .int .u8 0, .int .u8 0] rfl (by kernel_rfl) (by kernel_rfl) (by kernel_rfl)
      (OpenSpec.preRow_of_cond 8 hx (by kernel_rfl) (fun k hk => by cases hk) (by kernel_rfl) (laid_met os))) ?_
  intro W base args ds gs before hval hW _ hcond hs hL hsh _
  exact contract H enc W base args ds gs before hval hW hs hsh hL

theorem said : Rows.SeipdTurnedSaid :=
  OpenClaim.holds_of_cond 5 Tryz.f5 rfl rfl rfl rfl rfl rfl rfl ⟨rfl, rfl, rfl, rfl, rfl⟩ rfl rfl rfl rfl rfl (by kernel_rfl) Tryz.func5 (by kernel_rfl)
    (of_decide_eq_true (by kernel_rfl)) (by unfold Func.isWrapper; first | (rw [if_pos (by decide +kernel)]; kernel_rfl) | (rw [if_neg (by decide +kernel)]; exact ⟨rfl, rfl⟩))
    (fun os started H enc _ F => by rw [OpenClaim.pre_eq_preRow]; exact lifted os started H enc F)

theorem plain (f : FuncId) (fn : Func) (hf : Tryz.pinned.checked.prog.funcNamed "postilion/postilionlaw16.SeipdTurned" = some f) (hfn : Tryz.pinned.checked.prog.funcs[f]? = some fn) :
    false = Tryz.pinned.checked.prog.looks [] ∧ ∀ (j : Nat) t, fn.params[j]? = some t → Tryz.pinned.checked.prog.wantsStandIn t = false := by
  obtain rfl : f = 5 := Option.some.inj ((show Tryz.prog.funcNamed "postilion/postilionlaw16.SeipdTurned" = some 5 by kernel_rfl).symm.trans hf) |>.symm
  obtain rfl : fn = Tryz.f5 := (Option.some.inj (Tryz.func5.symm.trans hfn)).symm
  refine ⟨by kernel_rfl, fun j t ht => ?_⟩
  rw [Tryz.params5] at ht
  have hm := Array.mem_of_getElem? ht
  simp only [List.mem_toArray, List.mem_cons, List.not_mem_nil, or_false] at hm
  rcases hm with rfl | rfl | rfl | rfl | rfl | rfl | rfl | rfl <;> exact (show Tryz.prog.wantsStandIn _ = false by kernel_rfl)

/-- THE CARD. -/
theorem card : Rows.SeipdTurnedCardSaid :=
  Claim7.holds_tied_plain_at .later [] _ _ _ _ said (fun _ h => by cases h) (by kernel_rfl) (fun _ h => by cases h) seipdTurned_row_tie rfl ⟨rfl, rfl⟩ (by kernel_rfl) rfl plain (by kernel_rfl)
#print axioms card
end Go.Proofs.YtfloiekaiiapnaaGreatDoor.seipdTurned
