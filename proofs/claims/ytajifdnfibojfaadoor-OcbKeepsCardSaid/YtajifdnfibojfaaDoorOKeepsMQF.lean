/- The document's begun: of a key and a nonce, its parts and the first offset. -/
import Derived.Test.YtajifdnfibojfaaDoorOKeepsMQE
import Derived.Test.YtajifdnfibojfaaDoorOKeepsMQA
namespace Go.Proofs.YtajifdnfibojfaaDoor
open Go Go.RowKit
set_option maxRecDepth 100000

set_option maxHeartbeats 2000000 in
theorem oaes_g (g gc : Nat) (cs : Array Value) (h0 : cs[0]? = some (.pointer (some ⟨gc, 0, none⟩))) (E D : (Nat → UInt8) → Nat → UInt8) (a : Nat → UInt8) (w : World) (ho : Blk w g 68 cs) (hcap : RCap gc E D w) :
    Calls Tryd.prog 32 #[.pointer (some ⟨g, 0, none⟩), .agg (row 16 a)] w fun e w' => e = .returned (.agg (row 16 (E a))) ∧ Below w.heap.size w w' := by
  have HC := Lib.hid hcap
  obtain ⟨Y, hY⟩ : ∃ Y, Y = E a := ⟨_, rfl⟩
  rw [← hY]
  have HY := Lib.hid hY
  clear hcap hY
  go_enter Tryd.func32, Tryd.ntmps32
  go_upto_region 1 with (fail)
  rw [zero16]
  have ho1 := (ho.alloc (.cells (row 16 a) 44)).alloc (.cells (row 16 fun _ => 0) 44)
  have hx := (Row.new w 44 16 a).alloc (.cells (row 16 fun _ => 0) 44)
  have hz := Row.new (w.alloc (.cells (row 16 a) 44)) 44 16 (fun _ => 0)
  have hb : Below w.heap.size w ((w.alloc (.cells (row 16 a) 44)).alloc (.cells (row 16 fun _ => 0) 44)) := ((Below.refl _ _).alloc (Nat.le_refl _) _).alloc (by simp) _
  simp only [World.size_alloc] at hz
  revert ho1 hx hz hb
  clear ho
  generalize (w.alloc (.cells (row 16 a) 44)).alloc (.cells (row 16 fun _ => 0) 44) = w1
  intro ho hx hb hz
  refine region_seq (fun W' => Blk W' g 68 cs ∧ Row W' w.heap.size 44 16 a ∧ Row W' (w.heap.size + 1) 44 16 (fun _ => 0) ∧ Below w.heap.size w W') mixedOrders (by kernel_rfl) (by simp) ⟨ho.drew, hx.drew, hz.drew, hb.drew⟩ ?_
  clear ho hx hz hb
  refine Seq.next ?_ (Sure.val rfl (fun w' hS => ?_)) ?_
  rotate_left 1
  · have e0 := (hS.1.cell 0).trans h0
    clear hS
    go_simp
    rfl
  simp only [Act.put, List.setIfInBounds_toArray, List.set_cons_zero, List.set_cons_succ]
  refine Seq.next ?_ (Sure.val rfl (fun w' hS => ?_)) ?_
  rotate_left 1
  · have e0 := (hS.1.cell 0).trans h0
    clear hS
    go_simp
    rfl
  simp only [Act.put, List.setIfInBounds_toArray, List.set_cons_zero, List.set_cons_succ]
  refine Seq.next ?_ (Sure.val rfl (fun w' hS => ?_)) ?_
  rotate_left 1
  · have e0 := (hS.1.cell 0).trans h0
    clear hS
    go_simp
    rfl
  simp only [Act.put, List.setIfInBounds_toArray, List.set_cons_zero, List.set_cons_succ]
  refine Seq.next ?_ (Sure.val rfl (fun w' hS => ?_)) ?_
  rotate_left 1
  · have e0 := (hS.1.cell 0).trans h0
    clear hS
    go_simp
    rfl
  simp only [Act.put, List.setIfInBounds_toArray, List.set_cons_zero, List.set_cons_succ]
  refine Seq.next (.agg (row 16 a)) (Sure.load_Row rfl 44 _ rfl w.heap.size rfl 44 16 _ _ (fun w' hS => hS.2.1) undBk sizeBk) ?_
  simp only [Act.put, List.setIfInBounds_toArray, List.set_cons_zero, List.set_cons_succ]
  refine Seq.next (.agg (row 16 Y)) (Sure.call (f := 47) (args := #[.pointer (some ⟨gc, 0, none⟩), .agg (row 16 a)]) rfl (fun w' => by go_simp) (fun w' hS => (HC.out.1 w' hS.2.2.2 a).mono fun e w'' h => ⟨by rw [HY.out]; exact h.1, hS.1.below h.2 hS.1.lt, hS.2.1.below h.2 hS.2.1.lt, hS.2.2.1.below h.2 hS.2.2.1.lt, hS.2.2.2.trans (h.2.mono hS.2.2.2.size)⟩)) ?_
  simp only [Act.put, List.setIfInBounds_toArray, List.set_cons_zero, List.set_cons_succ]
  refine Seq.store_Row rfl 44 _ _ rfl (w.heap.size + 1) rfl 44 16 _ Y rfl (fun w' hS => hS.2.2.1) sizeBk fun w' hS => ?_
  have hz5 := hS.2.2.1.setRow Y
  have hb5 := below_setRow8 hS.2.2.2 (k := w.heap.size + 1) (by omega) (row 16 Y)
  clear hS
  revert hz5 hb5
  generalize w'.setRow (w.heap.size + 1) (row 16 Y) = W5
  intro hz5 hb5
  go_wp2
  exact ret_Row rfl rfl _ _ 16 _ _ rfl hz5 undBk sizeBk ⟨rfl, hb5⟩

theorem ob0 (gc : Nat) : #[.pointer (some ⟨gc, 0, none⟩), .int .u8 0, .int .u8 0, .int .u8 0, .int .u8 0, .int .u8 0, .int .u8 0, .int .u8 0, .int .u8 0, .int .u8 0, .int .u8 0, .int .u8 0, .int .u8 0, .int .u8 0, .int .u8 0, .int .u8 0, .int .u8 0, .slice none 0 0] = obRow gc (fun _ => 0) (.slice none 0 0) := by kernel_rfl
theorem ob_put (gc : Nat) (st x : Nat → UInt8) (v : Value) : putL (obRow gc st v) 1 (row 16 x).toList = obRow gc x v := by kernel_rfl
theorem wpList_store_Part {P : Program} {w : World} {ops : Array Oper} {Q : Exit → Act → World → Prop} {rest : List Oper} {op : Oper} {a : Act} (hgd : op.guard = none) (ty : TypeId) (x y : Operand) (ho : op.op = .store ty x y)
    (g o : Nat) (hx : a.eval x = .pointer (some ⟨g, o, none⟩)) (k : Nat) (f : Nat → UInt8) (hy : a.eval y = .agg (row k f)) (ht : w.there g o k) (hi : (P.info? ty).map (·.size) = some k)
    (h : wpList P ops Q rest (a.put op.dst undef) (w.setCells g o (row k f).toList)) : wpList P ops Q (op :: rest) a w :=
  wpList_plain hgd fun _ hK => wp_store_mid ty x y ho g o (row k f) hx hy (by rw [row_size]; exact ht) (by rw [hi, row_size]) (row_one k f) (hK _ _ h)
theorem wpList_build1 {w : World} {ops : Array Oper} {Q : Exit → Act → World → Prop} {rest : List Oper} {o : Oper} {a : Act} (hgd : o.guard = none) (x : Operand) (ho : o.op = .buildSlice 66 1 #[(0, x)]) (X : Nat → UInt8) (hx : a.eval x = .agg (row 16 X))
    (h : wpList Tryd.prog ops Q rest (a.put o.dst (.slice (some ⟨w.heap.size, 0, none⟩) 1 1)) (w.alloc (.cells (row 16 X) 44))) : wpList Tryd.prog ops Q (o :: rest) a w :=
  wpList_plain hgd fun _ hK => by
    unfold Oper.wp
    rw [exec_build1 x ho X hx]
    exact hK _ _ h
theorem and192_int (x : UInt8) : bits .and .u8 (x.toNat : Int) 192 = ((x &&& 192).toNat : Int) := u8_all (Q := fun x => bits .and .u8 (x.toNat : Int) 192 = ((x &&& 192).toNat : Int)) (by decide +kernel) x
theorem Ob.setCell_far {g gc gl k cap : Nat} {st dl : Nat → UInt8} {W : World} (h : Ob g gc gl k cap st dl W) {x o : Nat} (h1 : x ≠ g) (h2 : x ≠ gl) (v : Value) : Ob g gc gl k cap st dl (W.setCell ⟨x, o, none⟩ v) :=
  h.same (Below.heap_setCell _ ⟨x, o, none⟩ v g (Ne.symm h1)) (Below.heap_setCell _ ⟨x, o, none⟩ v gl (Ne.symm h2))
theorem setCells_other {g k : Nat} (hk : k ≠ g) : ∀ (vs : List Value) (o : Nat) (w : World), (w.setCells g o vs).heap[k]? = w.heap[k]?
  | [], _, _ => rfl
  | v :: r, o, w => (setCells_other hk r (o + 1) (w.setCell ⟨g, o, none⟩ v)).trans (Below.heap_setCell w ⟨g, o, none⟩ v k hk)
theorem below_setCells {B g : Nat} {w : World} (hg : B ≤ g) : ∀ (vs : List Value) (o : Nat) (w1 : World), Below B w w1 → Below B w (w1.setCells g o vs)
  | [], _, _, h => h
  | v :: r, o, w1, h => below_setCells hg r (o + 1) (w1.setCell ⟨g, o, none⟩ v) (h.setCell (p := ⟨g, o, none⟩) hg v)
/-- What stands while the first offset is made: the object, the named result's block, Ktop's block. -/
def BgI (w w2 : World) (g gc gl gk gs : Nat) (st dl X : Nat → UInt8) (W : World) : Prop :=
  Ob g gc gl 1 1 st dl W ∧ Row W w.heap.size 44 16 (fun _ => 0) ∧ Row W gk 44 16 X ∧ Below g w2 W ∧ Below w.heap.size w W ∧ gs ≤ W.heap.size ∧ w.heap.size < g ∧ g < gl ∧ gl < gk ∧ gk < gs
section
variable {w w2 W W' : World} {g gc gl gk gs : Nat} {st dl X : Nat → UInt8}
theorem BgI.drew (h : BgI w w2 g gc gl gk gs st dl X W) : BgI w w2 g gc gl gk gs st dl X W.drew := by
  obtain ⟨a, b, c, d, e, f⟩ := h
  exact ⟨a.drew, b.drew, c.drew, d.drew, e.drew, f⟩
theorem BgI.below (h : BgI w w2 g gc gl gk gs st dl X W) (hb : Below W.heap.size W W') : BgI w w2 g gc gl gk gs st dl X W' := by
  obtain ⟨a, b, c, d, e, f, o⟩ := h
  exact ⟨a.below hb, b.below hb b.lt, c.below hb c.lt, d.trans (hb.mono (by omega)), e.trans (hb.mono (by omega)), Nat.le_trans f hb.size, o⟩
theorem BgI.alloc (h : BgI w w2 g gc gl gk gs st dl X W) (o : Obj) : BgI w w2 g gc gl gk gs st dl X (W.alloc o) := h.below ((Below.refl _ _).alloc (Nat.le_refl _) _)
theorem BgI.grown (h : BgI w w2 g gc gl gk gs st dl X W) {n : Nat} {v : Value} {f : Nat → UInt8} (hv : Own W gs v n f) (hg : W.grownBy W' v.ownBlock) : BgI w w2 g gc gl gk gs st dl X W' := by
  have hn : ∀ x, x < gs → some x ≠ v.ownBlock := fun x hx e => by
    have := (World.ownsRow.lt hv x e.symm).1
    omega
  obtain ⟨a, b, c, d, e, f, o1, o2, o3, o4⟩ := h
  exact ⟨a.same (hg.block g a.1.lt (hn g (by omega))) (hg.block gl a.ltl (hn gl (by omega))), (hg.block _ b.lt (hn _ (by omega))).trans b, (hg.block _ c.lt (hn _ (by omega))).trans c,
    d.grown hg (by omega) (fun k hk => by have := (World.ownsRow.lt hv k hk).1; omega), e.grown hg (by omega) (fun k hk => by have := (World.ownsRow.lt hv k hk).1; omega), Nat.le_trans f hg.size, o1, o2, o3, o4⟩
end
theorem BgI.far {w w2 W : World} {g gc gl gk gs : Nat} {st dl X : Nat → UInt8} (h : BgI w w2 g gc gl gk gs st dl X W) {x o : Nat} (hx : gs ≤ x) (v : Value) : BgI w w2 g gc gl gk gs st dl X (W.setCell ⟨x, o, none⟩ v) := by
  obtain ⟨a, b, c, d, e, f, o1, o2, o3, o4⟩ := h
  exact ⟨a.setCell_far (by omega) (by omega) v, b.far (p := ⟨x, o, none⟩) (by show w.heap.size ≠ x; omega) v, c.far (p := ⟨x, o, none⟩) (by show gk ≠ x; omega) v, d.setCell (p := ⟨x, o, none⟩) (by show g ≤ x; omega) v, e.setCell (p := ⟨x, o, none⟩) (by show w.heap.size ≤ x; omega) v, by simpa using f, o1, o2, o3, o4⟩
theorem exec_store_Row {P : Program} {o : Oper} {a : Act} {w : World} (ty : TypeId) (x y : Operand) (ho : o.op = .store ty x y)
    (g : Nat) (hx : a.eval x = .pointer (some ⟨g, 0, none⟩)) (t : TypeId) (n : Nat) (f f' : Nat → UInt8) (hy : a.eval y = .agg (row n f')) (hg : Row w g t n f) (hi : (P.info? ty).map (·.size) = some n) :
    (execOp a.eval o).run P w = .ok .skip (w.setRow g (row n f')) := by
  unfold execOp
  simp only [ho, hx, hy, Instr.storeAt, Instr.sureAddr, Sem.run_bind, Sem.run_pure, Result.andThen_ok, run_storeVar_row w g t ty (row n f) (row n f') hg (by rw [hi, row_size]) (by rw [row_size, row_size]) (row_one n f')]
/-- The end of a function of three results, the second an array of bytes in a block. -/
theorem ret_tmp_Row_tmp {P : Program} {w : World} {fn : Func} {R : Ending → World → Prop} {a : Act} {p t1 t3 : Tmp} {ty : TypeId} (h : fn.results = #[.tmp t1, .cell p ty, .tmp t3]) (hd : a.defers = []) (g : Nat) (t : TypeId) (n : Nat) (f : Nat → UInt8) (e : TypeId) (v u : Value)
    (hp : a.tmps.getD p undef = .pointer (some ⟨g, 0, none⟩)) (hv : a.tmps.getD t1 undef = v) (hu3 : a.tmps.getD t3 undef = u) (hg : Row w g t n f) (hu : P.underlying ty = some (.array n e)) (hi : (P.info? ty).map (·.size) = some n)
    (hR : R (.returned (.tuple #[v, .agg (row n f), u])) w) : bodyPost P fn R .ret a w := by
  have hp' : a.tmps[p]?.getD undef = .pointer (some ⟨g, 0, none⟩) := by simpa using hp
  have hv' : a.tmps[t1]?.getD undef = v := by simpa using hv
  have hu' : a.tmps[t3]?.getD undef = u := by simpa using hu3
  exact bodyPost_ret (v := .tuple #[v, .agg (row n f), u]) (by simp [results, h, hp', hv', hu', asAddr, run_loadVar_row w g t ty _ _ _ hg hu rfl (by rw [hi, row_size])]) hd hR
theorem built_ob (gc : Nat) : Tryd.prog.built 68 [(0, .pointer (some ⟨gc, 0, none⟩))] = some (obRow gc (fun _ => 0) (.slice none 0 0)) := by kernel_rfl
set_option maxHeartbeats 8000000 in
theorem rbegun_c (Ak An : Option Addr) (kn kc n c : Nat) (nf : Nat → UInt8) (E D : (Nat → UInt8) → Nat → UInt8) (w : World) (h1 : 1 ≤ n) (h2 : n ≤ 15)
    (hNew : ∀ w', Below w.heap.size w w' → Calls Tryd.prog 31 #[.slice Ak kn kc] w' fun e w'' => ∃ g, e = .returned (.tuple #[.pointer (some ⟨g, 0, none⟩), .bool true]) ∧ w'.heap.size ≤ g ∧ g < w''.heap.size ∧ (∀ W', W'.heap[g]? = w''.heap[g]? → RCap g E D W') ∧ Below w'.heap.size w' w'')
    (hN : ∀ w', Below w.heap.size w w' → Bts w' An n c nf) (st dl V : Nat → UInt8) (hst : st = E fun _ => 0) (hdl : dl = dblB st) (hV : V = offB E n nf) :
    Calls Tryd.prog 17 #[.slice Ak kn kc, .slice An n c] w fun e w' =>
      ∃ g gc gl cap, e = .returned (.tuple #[.pointer (some ⟨g, 0, none⟩), .agg (row 16 V), .bool true]) ∧ Ob g gc gl 1 cap st dl w' ∧ (∃ n0, w.heap.size ≤ n0 ∧ n0 ≤ g ∧ n0 ≤ gl ∧ ∀ W', Below n0 w' W' → RCap gc E D W') ∧ Below w.heap.size w w' := by
  have HN := Lib.hid hN
  have HW := Lib.hid hNew
  have hmc := (hN w (Below.refl _ _)).2.2
  obtain ⟨bn, on, hA, _⟩ := (hN w (Below.refl _ _)).1 (by omega)
  subst hA
  have HST := Lib.hid hst
  have HDL := Lib.hid hdl
  have HV := Lib.hid hV
  clear hN hNew hst hdl hV
  have h3 : ¬ (n : Int) < 1 := by omega
  have h4 : ¬ (15 : Int) < (n : Int) := by omega
  go_enter Tryd.func17, Tryd.ntmps17
  go_upto_region 1 with (fail)
  rw [zero16]
  have hr := Row.new w 44 16 (fun _ => 0)
  have hb : Below w.heap.size w (w.alloc (.cells (row 16 fun _ => 0) 44)) := (Below.refl _ _).alloc (Nat.le_refl _) _
  revert hr hb
  generalize w.alloc (.cells (row 16 fun _ => 0) 44) = w1
  intro hr hb
  go_upto_region 2 with (first | (go_at_fn 31))
  refine (HW.out w1 hb).mono ?_
  rintro e w2 ⟨gc, rfl, hg1, hg2, hcap, hb2⟩
  have hr0 := hr.lt
  have hr := hr.below hb2 hr.lt
  have hgc : w.heap.size < gc := Nat.lt_of_lt_of_le hr0 hg1
  have hb := hb.trans (hb2.mono hb.size)
  clear hb2 hg1 hr0
  have HR := Lib.hid hcap
  clear hcap
  go_upto_region 4 with (fail)
  go_upto_region 5 with (first | (refine wpList_build rfl 68 _ rfl (obRow gc (fun _ => 0) (.slice none 0 0)) _ rfl (built_ob gc) ?_))
  rw [ob0]
  have ho := Blk.new w2 68 (obRow gc (fun _ => 0) (.slice none 0 0))
  have hlt := hr.lt
  have hr := hr.alloc (.cells (obRow gc (fun _ => 0) (.slice none 0 0)) 68)
  have hb := hb.alloc hb.size (.cells (obRow gc (fun _ => 0) (.slice none 0 0)) 68)
  have hbg : Below w2.heap.size w2 (w2.alloc (.cells (obRow gc (fun _ => 0) (.slice none 0 0)) 68)) := (Below.refl _ _).alloc (Nat.le_refl _) _
  have HRC := Lib.hid (p := ∀ W', Below w2.heap.size w2 W' → RCap gc E D W') fun W' h => HR.out W' (h.block gc hg2)
  have HRF := Lib.hid (p := ∀ W', W'.heap[gc]? = w2.heap[gc]? → RCap gc E D W') HR.out
  clear HR
  revert ho hlt hr hb hbg
  clear hr hb
  generalize w2.alloc (.cells (obRow gc (fun _ => 0) (.slice none 0 0)) 68) = w3
  generalize w2.heap.size = g at *
  intro ho hlt hr hb hbg
  go_upto_region 5 with (fail)
  go_wp2_with (go_at_fn 32)
  have hx := oaes_g g gc _ (ob_c gc _ _) E D (fun _ => 0) w3 ho (HRC.out w3 hbg)
  rw [← HST.out] at hx
  refine hx.mono ?_
  rintro e w4 ⟨rfl, hb4⟩
  have hbg := hbg.trans (hb4.mono (by have := ho.lt; omega))
  have hr := hr.below hb4 hr.lt
  have ho := ho.below hb4 ho.lt
  have hb := hb.trans (hb4.mono hb.size)
  clear hx hb4
  go_upto_region 6 with (refine wpList_store_Part rfl 44 _ _ rfl g 1 rfl 16 st rfl (ho.there 1 16 (by rw [ob_size]; omega)) sizeBk ?_)
  have ho := Blk.setCells (row 16 st).toList 1 w4 _ ho
  rw [ob_put] at ho
  have hr : Row (w4.setCells g 1 (row 16 st).toList) w.heap.size 44 16 (fun _ => 0) := (setCells_other (by omega) _ _ _).trans hr
  have hb := below_setCells (w := w) (B := w.heap.size) (g := g) (by omega) (row 16 st).toList 1 w4 hb
  have hbg := below_setCells (w := w2) (B := g) (g := g) (Nat.le_refl _) (row 16 st).toList 1 w4 hbg
  revert ho hr hb hbg
  clear ho hr hb hbg
  generalize w4.setCells g 1 (row 16 st).toList = w5
  intro ho hr hb hbg
  simp only [Act.put]
  go_wp2_with (first | (refine wpList_load_Part rfl 44 _ rfl g 1 rfl 16 st _ (ho.range 1 16 st fun j hj => ob_st _ _ _ j hj) undBk sizeBk ?_) | (go_at_fn 33))
  have hx := rdouble_c st w5
  rw [← HDL.out] at hx
  refine hx.mono ?_
  rintro e w6 ⟨rfl, hb6⟩
  have hbg := hbg.trans (hb6.mono (by have := ho.lt; omega))
  have hr := hr.below hb6 hr.lt
  have ho := ho.below hb6 ho.lt
  have hb := hb.trans (hb6.mono hb.size)
  clear hx hb6
  obtain ⟨gl, hgl⟩ : ∃ gl, gl = w6.heap.size := ⟨_, rfl⟩
  have hgll : g < gl := by have := ho.lt; omega
  have hl := Row.new w6 44 16 dl
  have hr := hr.alloc (.cells (row 16 dl) 44)
  have hbg := hbg.alloc (by have := ho.lt; omega) (.cells (row 16 dl) 44)
  have hb := hb.alloc hb.size (.cells (row 16 dl) 44)
  have ho := ho.alloc (.cells (row 16 dl) 44)
  have e1 := (ho.cell 17).trans (ob_l gc st _)
  have e2 := (ho.there 17 1 (by rw [ob_size]; omega) 0 (by omega)).2
  rw [← hgl] at hl
  have HGL := Lib.hid hgl
  clear hgl
  go_upto_region 7 with (refine wpList_build1 rfl _ rfl dl rfl ?_)
  rw [← HGL.out]
  have ho : Ob g gc gl 1 1 st dl ((w6.alloc (.cells (row 16 dl) 44)).setCell ⟨g, 17, none⟩ (.slice (some ⟨gl, 0, none⟩) 1 1)) := ⟨by have h := heap_setCell_same _ g 17 _ _ (.slice (some ⟨gl, 0, none⟩) 1 1) ho; rw [ob_next] at h; exact h, by omega, by omega, by omega, by decide, row 16 dl, (Below.heap_setCell _ ⟨g, 17, none⟩ _ gl (by show gl ≠ g; omega)).trans hl, by simp [row_size], fun j hj i hi => by
    obtain rfl : j = 0 := by omega
    rw [show 16 * 0 + i = i by omega]
    exact row_get 16 dl i hi⟩
  have hr := hr.far (p := ⟨g, 17, none⟩) (by show w.heap.size ≠ g; omega) (.slice (some ⟨gl, 0, none⟩) 1 1)
  have hbg := hbg.setCell (p := ⟨g, 17, none⟩) (Nat.le_refl _) (.slice (some ⟨gl, 0, none⟩) 1 1)
  have hb := hb.setCell (p := ⟨g, 17, none⟩) (by show w.heap.size ≤ g; omega) (.slice (some ⟨gl, 0, none⟩) 1 1)
  revert ho hr hbg hb
  clear ho hr hb hbg hl e1 e2
  generalize (w6.alloc (.cells (row 16 dl) 44)).setCell ⟨g, 17, none⟩ (.slice (some ⟨gl, 0, none⟩) 1 1) = w7
  intro ho hr hbg hb
  clear HGL
  go_upto_region 8 with (first | (refine wpList_alloc_Row rfl 44 rfl 16 zeroBk ?_))
  have hgln := ho.ltl
  have hx := Row.new w7 44 16 (fun _ => 0)
  have hr := hr.alloc (.cells (row 16 fun _ => 0) 44)
  have hbg := hbg.alloc (by omega) (.cells (row 16 fun _ => 0) 44)
  have hb := hb.alloc hb.size (.cells (row 16 fun _ => 0) 44)
  have ho := ho.alloc (.cells (row 16 fun _ => 0) 44)
  revert hgln hx hr hbg hb ho
  clear hr hbg hb ho
  generalize w7.alloc (.cells (row 16 fun _ => 0) 44) = w8
  generalize w7.heap.size = gn at *
  intro hgln hx hr hbg hb ho
  obtain ⟨p, hp⟩ : ∃ p, p + 1 + n = 16 := ⟨15 - n, by omega⟩
  have hp15 : p < 15 := by omega
  have HP := Lib.hid hp
  have e16 : (16 : Int) - (n : Int) = (p : Int) + 1 := by omega
  have i0 : (0 : Int) ≤ (p : Int) + 1 := by omega
  have i1 : (p : Int) + 1 ≤ 16 := by omega
  have i2 : ((p : Int) + 1).toNat = p + 1 := by omega
  have i3 : p + 1 ≤ 16 := by omega
  have i4 : ¬ 16 = p + 1 := by omega
  have i5 : ¬ (p : Int) + 1 < 0 := by omega
  have i6 : ¬ (16 : Int) < (p : Int) + 1 := by omega
  clear hp
  go_upto_region 9 with (refine wpList_copy_Row rfl _ _ 22 22 rfl 5 undB size8 gn (p + 1) _ _ ⟨bn, on, none⟩ n c rfl rfl 44 16 (fun _ => 0) hx n nf (by have := HP.out; simp [Nat.min_def]; omega) (fun j hj => by rw [Addr.add_mid]; exact bts_at (HN.out w8 hb) j hj) (by have := HP.out; omega) ?_)
  clear e16 i0 i1 i2 i3 i4 i5 i6
  have hx := hx.setRow (cpy (p + 1) n (fun _ => 0) nf)
  have hr := hr.setRow_far (k := gn) (by omega) (row 16 (cpy (p + 1) n (fun _ => 0) nf))
  have ho := ho.setRow_far (x := gn) (by omega) (by omega) (row 16 (cpy (p + 1) n (fun _ => 0) nf))
  have hbg := below_setRow8 hbg (k := gn) (by omega) (row 16 (cpy (p + 1) n (fun _ => 0) nf))
  have hb := below_setRow8 hb (k := gn) (by omega) (row 16 (cpy (p + 1) n (fun _ => 0) nf))
  revert hx hr ho hbg hb
  clear hx hr ho hbg hb
  generalize w8.setRow gn (row 16 (cpy (p + 1) n (fun _ => 0) nf)) = w9
  intro hx hr ho hbg hb
  simp only [Act.put]
  have e15 : (15 : Int) - (n : Int) = (p : Int) := by have := HP.out; omega
  have j0 : (0 : Int) ≤ (p : Int) := by omega
  have j1 : (p : Int) < 16 := by omega
  have e1 : w9.cell? ⟨gn, p, none⟩ = some (.int .u8 0) := (hx.cell p (by omega)).trans (by unfold cpy; rw [if_neg (by omega)]; rfl)
  have e2 := hx.frozen p
  go_upto_region 10 with (fail)
  clear e15 j0 j1 e1 e2
  rw [show bits .or .u8 0 1 = (((1 : UInt8).toNat : Nat) : Int) from rfl]
  obtain ⟨N, hN⟩ : ∃ N : Nat → UInt8, N = nonB n nf := ⟨_, rfl⟩
  have hx := (hx.set_ p 1).congr (f' := N) fun j hj => by
    rw [hN]
    have hp := HP.out
    unfold cpy nonB
    by_cases h1 : j < p
    · rw [if_neg (by omega), if_neg (by omega), if_pos (by omega)]
    · by_cases h2 : j = p
      · rw [if_pos h2, if_neg (by omega), if_pos (by omega)]
      · rw [if_neg h2, if_pos (by omega), if_neg (by omega), if_neg (by omega)]
        congr 1
        omega
  have HNN := Lib.hid hN
  clear hN
  have hr := hr.far (p := ⟨gn, p, none⟩) (by show w.heap.size ≠ gn; omega) (.int .u8 (((1 : UInt8).toNat : Nat) : Int))
  have ho := ho.setCell_far (x := gn) (o := p) (by omega) (by omega) (.int .u8 (((1 : UInt8).toNat : Nat) : Int))
  have hbg := hbg.setCell (p := ⟨gn, p, none⟩) (by show g ≤ gn; omega) (.int .u8 (((1 : UInt8).toNat : Nat) : Int))
  have hb := hb.setCell (p := ⟨gn, p, none⟩) (by show w.heap.size ≤ gn; omega) (.int .u8 (((1 : UInt8).toNat : Nat) : Int))
  revert hx hr ho hbg hb
  clear hx hr ho hbg hb
  generalize w9.setCell ⟨gn, p, none⟩ (.int .u8 (((1 : UInt8).toNat : Nat) : Int)) = w10
  intro hx hr ho hbg hb
  have e1 := hx.cell 15 (by omega)
  obtain ⟨bt, hbt⟩ : ∃ bt : Nat, bt = (N 15 &&& 63).toNat := ⟨_, rfl⟩
  obtain ⟨v, hv⟩ : ∃ v : UInt8, v = N 15 &&& 192 := ⟨_, rfl⟩
  have ea := and63_int (N 15)
  have eb := and192_int (N 15)
  have hb64 := and63_lt (N 15)
  rw [← hbt] at ea hb64
  rw [← hv] at eb
  have HB := Lib.hid hbt
  have HVV := Lib.hid hv
  clear hbt hv
  have e3 := hx.frozen 15
  go_upto_region 12 with (fail)
  clear e1 ea eb e3
  obtain ⟨M, hM⟩ : ∃ M : Nat → UInt8, M = topB N := ⟨_, rfl⟩
  have hx := hx.set_ 15 v
  rw [show (fun j => if j = 15 then v else N j) = M by rw [hM, HVV.out]; rfl] at hx
  have HM := Lib.hid hM
  clear hM
  have hr := hr.far (p := ⟨gn, 15, none⟩) (by show w.heap.size ≠ gn; omega) (.int .u8 (v.toNat : Int))
  have ho := ho.setCell_far (x := gn) (o := 15) (by omega) (by omega) (.int .u8 (v.toNat : Int))
  have hbg := hbg.setCell (p := ⟨gn, 15, none⟩) (by show g ≤ gn; omega) (.int .u8 (v.toNat : Int))
  have hb := hb.setCell (p := ⟨gn, 15, none⟩) (by show w.heap.size ≤ gn; omega) (.int .u8 (v.toNat : Int))
  revert hx hr ho hbg hb
  clear hx hr ho hbg hb
  generalize w10.setCell ⟨gn, 15, none⟩ (.int .u8 (v.toNat : Int)) = w11
  intro hx hr ho hbg hb
  go_wp2_with (first | (refine wpList_load_Row rfl 44 _ rfl gn rfl 44 16 _ _ hx undBk sizeBk ?_) | (go_at_fn 32))
  obtain ⟨X, hX⟩ : ∃ X : Nat → UInt8, X = E M := ⟨_, rfl⟩
  have hc := oaes_c g gc gl 1 1 E D st dl M w11 ho (HRC.out w11 hbg)
  rw [← hX] at hc
  have HX := Lib.hid hX
  clear hX
  refine hc.mono ?_
  rintro e w12 ⟨rfl, hb12⟩
  have hgs : gl < w12.heap.size ∧ w.heap.size < w12.heap.size := ⟨Nat.lt_of_lt_of_le ho.ltl hb12.size, Nat.lt_of_lt_of_le hr.lt hb12.size⟩
  have hr := hr.below hb12 hr.lt
  have hbg := hbg.trans (hb12.mono (by have := ho.1.lt; omega))
  have hb := hb.trans (hb12.mono hb.size)
  have ho := ho.below hb12
  clear hc hx hb12
  go_upto_region 13 with (first | (refine wpList_alloc_Row rfl 44 rfl 16 zeroBk ?_) | (refine wpList_store_Row rfl 44 _ _ rfl w12.heap.size rfl 44 16 (fun _ => 0) _ rfl (Row.new _ _ _ _) sizeBk ?_))
  have hk := (Row.new w12 44 16 (fun _ => 0)).setRow X
  have hr := (hr.alloc (.cells (row 16 fun _ => 0) 44)).setRow_far (k := w12.heap.size) (by omega) (row 16 X)
  have hbg := below_setRow8 (hbg.alloc (by omega) (.cells (row 16 fun _ => 0) 44)) (k := w12.heap.size) (by omega) (row 16 X)
  have hb := below_setRow8 (hb.alloc hb.size (.cells (row 16 fun _ => 0) 44)) (k := w12.heap.size) (by omega) (row 16 X)
  have ho := (ho.alloc (.cells (row 16 fun _ => 0) 44)).setRow_far (x := w12.heap.size) (by omega) (by omega) (row 16 X)
  have hz : ((w12.alloc (.cells (row 16 fun _ => 0) 44)).setRow w12.heap.size (row 16 X)).heap.size = w12.heap.size + 1 := by simp [World.setRow]
  have hI : BgI w w2 g gc gl w12.heap.size (w12.heap.size + 1) st dl X ((w12.alloc (.cells (row 16 fun _ => 0) 44)).setRow w12.heap.size (row 16 X)) := ⟨ho, hr, hk, hbg, hb, by omega, by omega, by omega, by omega, by omega⟩
  revert hI hz
  clear hk hr hbg hb ho
  generalize (w12.alloc (.cells (row 16 fun _ => 0) 44)).setRow w12.heap.size (row 16 X) = w13
  generalize w12.heap.size = gk at *
  intro hz hI
  obtain ⟨S, hS⟩ : ∃ S, S = strB X := ⟨_, rfl⟩
  have hS0 : ∀ j, j < 16 → X j = S j := fun j hj => by rw [hS]; unfold strB; rw [if_pos hj]
  have hS1 : ∀ m, xr (X m) (X (m + 1)) = S (16 + m) := fun m => by rw [hS]; unfold strB; rw [if_neg (by omega), show 16 + m - 16 = m by omega, show 16 + m - 15 = m + 1 by omega]
  have HS := Lib.hid hS
  have HS0 := Lib.hid hS0
  have HS1 := Lib.hid hS1
  clear hS hS0 hS1
  have hnew := Own.new w13 (gk + 1) (by omega) (fun _ => 0)
  have hk := hI.2.2.1.alloc (.cells #[] 5)
  have HZ := Lib.hid hz
  clear hz
  go_upto_region 14 with (first | (refine wpList_app2 rfl _ _ rfl (gk + 1) _ 0 (fun _ => 0) rfl hnew ⟨gk, 0, none⟩ 16 16 X rfl (fun j hj => by rw [Addr.add_mid, Nat.zero_add]; exact hk.cell j hj) (by omega) (by have := HZ.out; simp; omega) ?_; intro sv w14 hown hgr))
  have hI := (hI.alloc (.cells #[] 5)).grown hnew hgr
  have hown := hown.congr (f' := S) fun j hj => by
    unfold both
    rw [if_neg (by omega)]
    exact HS0.out j (by omega)
  clear hnew hk hgr HZ
  go_wp2
  go_loopw [13, 85] (fun sv kv wr => ∃ m : Nat, m ≤ 8 ∧ kv = .int .i64 m ∧ Own wr (gk + 1) sv (16 + m) S ∧ BgI w w2 g gc gl gk (gk + 1) st dl X wr) (fun _ kv _ => 8 - (intOf kv).toNat)
  case atStart => exact ⟨0, by omega, rfl, hown, hI⟩
  case round =>
    clear hown hI
    obtain ⟨m, hm, rfl, hown, hI⟩ := hrel
    by_cases hlt : m < 8
    · have i3 : (m : Int) < 8 := by omega
      go_wp2
      have i4 : (m : Int) < 16 := by omega
      have i5 : (m : Int) + 1 < 16 := by omega
      have i6 : ((m : Int) + 1).toNat = m + 1 := by omega
      have i7 : IntKind.i64.wrap ((m : Int) + 1) = (m : Int) + 1 := IntWalk.i64_in _ (by omega)
      have i8 : (0 : Int) ≤ (m : Int) + 1 := by omega
      refine region_chain (fun q π W' => BgI w w2 g gc gl gk (gk + 1) st dl X W' ∧ (q < 2 → Own W' (gk + 1) u13 (16 + m) S) ∧ (1 ≤ q → ∃ gt, π 0 = .slice (some ⟨gt, 0, none⟩) 1 1 ∧ Row W' gt 5 1 (fun _ => S (16 + m)) ∧ gk + 1 ≤ gt ∧ u13.ownBlock ≠ some gt) ∧ (2 ≤ q → Own W' (gk + 1) (π 1) (16 + (m + 1)) S)) (fun i => i == 9 || i == 10) mixedOrders (by kernel_rfl) (by kernel_rfl) (by simp)
        ⟨hI.drew, fun _ => hown, fun h => by omega, fun h => by omega⟩ ?_
      clear hI hown
      refine SeqP.next ?_ (fun π q => Sure.val rfl (fun w' hS => ?_)) ?_
      rotate_left 1
      · clear hS
        go_simp
        rfl
      simp only [Act.put, List.setIfInBounds_toArray, List.set_cons_zero, List.set_cons_succ]
      refine SeqP.next ?_ (fun π q => Sure.val rfl (fun w' hS => ?_)) ?_
      rotate_left 1
      · clear hS
        go_simp
        rfl
      simp only [Act.put, List.setIfInBounds_toArray, List.set_cons_zero, List.set_cons_succ]
      refine SeqP.next ?_ (fun π q => Sure.val rfl (fun w' hS => ?_)) ?_
      rotate_left 1
      · have e1 := hS.1.2.2.1.cell m (by omega)
        have e2 := hS.1.2.2.1.cell (m + 1) (by omega)
        clear hS
        go_simp
        rfl
      simp only [Act.put, List.setIfInBounds_toArray, List.set_cons_zero, List.set_cons_succ]
      refine SeqP.next ?_ (fun π q => Sure.val rfl (fun w' hS => ?_)) ?_
      rotate_left 1
      · have e1 := hS.1.2.2.1.cell m (by omega)
        have e2 := hS.1.2.2.1.cell (m + 1) (by omega)
        clear hS
        go_simp
        rfl
      simp only [Act.put, List.setIfInBounds_toArray, List.set_cons_zero, List.set_cons_succ]
      refine SeqP.next ?_ (fun π q => Sure.val rfl (fun w' hS => ?_)) ?_
      rotate_left 1
      · have e1 := hS.1.2.2.1.cell m (by omega)
        have e2 := hS.1.2.2.1.cell (m + 1) (by omega)
        clear hS
        go_simp
        rfl
      simp only [Act.put, List.setIfInBounds_toArray, List.set_cons_zero, List.set_cons_succ]
      refine SeqP.next ?_ (fun π q => Sure.val rfl (fun w' hS => ?_)) ?_
      rotate_left 1
      · have e1 := hS.1.2.2.1.cell m (by omega)
        have e2 := hS.1.2.2.1.cell (m + 1) (by omega)
        clear hS
        go_simp
        rfl
      simp only [Act.put, List.setIfInBounds_toArray, List.set_cons_zero, List.set_cons_succ]
      refine SeqP.next ?_ (fun π q => Sure.val rfl (fun w' hS => ?_)) ?_
      rotate_left 1
      · have e1 := hS.1.2.2.1.cell m (by omega)
        have e2 := hS.1.2.2.1.cell (m + 1) (by omega)
        clear hS
        go_simp
        rfl
      simp only [Act.put, List.setIfInBounds_toArray, List.set_cons_zero, List.set_cons_succ]
      refine SeqP.next ?_ (fun π q => Sure.val rfl (fun w' hS => ?_)) ?_
      rotate_left 1
      · have e1 := hS.1.2.2.1.cell m (by omega)
        have e2 := hS.1.2.2.1.cell (m + 1) (by omega)
        clear hS
        go_simp
        rfl
      simp only [Act.put, List.setIfInBounds_toArray, List.set_cons_zero, List.set_cons_succ]
      refine SeqP.next (.int .u8 ((S (16 + m)).toNat : Int)) (fun π q => Sure.val rfl (fun w' hS => ?_)) ?_
      · clear hS
        go_simp
        rw [xor8, HS1.out]
      simp only [Act.put, List.setIfInBounds_toArray, List.set_cons_zero, List.set_cons_succ]
      refine SeqP.make rfl (fun π => ⟨rfl, fun w' hS => ⟨.slice (some ⟨w'.heap.size, 0, none⟩) 1 1, w'.alloc (.cells (row 1 fun _ => S (16 + m)) 5), exec_build8 _ rfl (S (16 + m)) rfl, ?_⟩⟩) ?_
      · exact ⟨hS.1.alloc _, fun _ => (hS.2.1 (by omega)).below ((Below.refl _ _).alloc (Nat.le_refl _) _), fun _ => ⟨w'.heap.size, upd_same _ _ _, Row.new _ _ _ _, hS.1.2.2.2.2.2.1, fun e => by have := (World.ownsRow.lt (hS.2.1 (by omega)) _ e).2; omega⟩, fun h => by omega⟩
      simp only [Act.put, List.setIfInBounds_toArray, List.set_cons_zero, List.set_cons_succ]
      refine SeqP.make rfl (fun π => ⟨rfl, fun w' hS => ?_⟩) ?_
      · obtain ⟨hI, hown, hbt, hx⟩ := hS
        clear hx
        obtain ⟨gt, hpi, hgt, hgb, hgn⟩ := hbt (by omega)
        have hown := hown (by omega)
        clear hbt
        obtain ⟨v', w2', hrun, hnew, hgr⟩ := run_app2 22 (gk + 1) u13 (16 + m) S hown ⟨gt, 0, none⟩ 1 1 (fun _ => S (16 + m)) (fun j hj => by rw [Addr.add_mid, Nat.zero_add]; exact hgt.cell j hj) (by omega) hI.2.2.2.2.2.1
        refine ⟨v', w2', exec_app2 (.tmp 88) (.tmp 97) rfl _ (.slice (some ⟨gt, 0, none⟩) 1 1) _ rfl (by exact hpi) hrun, hI.grown hown hgr, fun h => by omega, fun _ => ⟨gt, (upd_ne π _ (by omega)).trans hpi, (hgr.block gt hgt.lt (Ne.symm hgn)).trans hgt, hgb, hgn⟩, fun _ => ?_⟩
        rw [upd_same]
        exact hnew.congr fun j hj => by
          unfold both
          by_cases e : j < 16 + m
          · rw [if_pos e]
          · rw [if_neg e, show j = 16 + m by omega]
      simp only [Act.put, List.setIfInBounds_toArray, List.set_cons_zero, List.set_cons_succ]
      refine SeqP.last (fun π => rfl) fun π w' hS => ?_
      obtain ⟨hI, hx1, hx2, hown⟩ := hS
      have hown := hown (by omega)
      clear hx1 hx2
      go_simp
      go_wp2
      go_roundw
      case rel => exact ⟨m + 1, by omega, by go_num, hown, hI⟩
      case measure => simp [intOf]; omega
    · have i3 : ¬ (m : Int) < 8 := by omega
      obtain rfl : m = 8 := by omega
      go_upto_region 20 with (first | (refine wpList_alloc_Row rfl 44 rfl 16 zeroBk ?_))
      have hz := Row.new wr 44 16 (fun _ => 0)
      obtain ⟨gS, cS, hSV, hgS, hP, hcS1, hcS2⟩ := Own.prow hown (by omega)
      subst hSV
      have hltS := hP.lt
      have hP := hP.alloc (.cells (row 16 fun _ => 0) 44)
      have hgo := hI.2.2.2.2.2.1
      have hI := hI.alloc (.cells (row 16 fun _ => 0) 44)
      revert hz hltS hP hgo hI
      clear hI hown hP
      generalize wr.alloc (.cells (row 16 fun _ => 0) 44) = w15
      generalize wr.heap.size = go at *
      intro hz hltS hP hgo hI
      simp only [Act.put]
      obtain ⟨C, hC⟩ : ∃ C, C = cutB S bt := ⟨_, rfl⟩
      have hbit : ∀ q r q2 r2, r < 8 → r2 < 8 → bt + (8 * q + r) = 8 * q2 + r2 → bitv (S q2) (7 - r2) = bitv (C q) (7 - r) := fun q r q2 r2 a b c => by rw [hC, cut_bit S bt q r q2 r2 a b c]
      have HC := Lib.hid hC
      have HBIT := Lib.hid hbit
      clear hC hbit
      rw [← bits_zero C] at hz
      go_wp2
      go_loopw [100] (fun kv wr => ∃ m : Nat, m ≤ 128 ∧ kv = .int .i64 m ∧ BgI w w2 g gc gl gk (gk + 1) st dl X wr ∧ PRow wr gS 5 24 S ∧ Row wr go 44 16 (bitsB C m)) (fun kv _ => 128 - (intOf kv).toNat)
      case atStart => exact ⟨0, by omega, rfl, hI, hP, hz⟩
      case round =>
        clear hI hP hz
        obtain ⟨m, hm, rfl, hI, hP, hz⟩ := hrel
        by_cases hlt2 : m < 128
        · have k3 : (m : Int) < 128 := by omega
          go_upto_region 24 with (fail)
          obtain ⟨q, r, q2, r2, hr8, hr28, hmq, hat⟩ : ∃ q r q2 r2, r < 8 ∧ r2 < 8 ∧ m = 8 * q + r ∧ bt + m = 8 * q2 + r2 := ⟨m / 8, m % 8, (bt + m) / 8, (bt + m) % 8, by omega, by omega, by omega, by omega⟩
          have hq16 : q < 16 := by omega
          have hq24 : q2 < 24 := by omega
          have c1 := hP.cell q2 hq24
          have d1 : ((bt : Int) + (m : Int)) / 8 = (q2 : Int) := by omega
          have d1' : ((bt : Int) + (m : Int)).tdiv 8 = (q2 : Int) := by rw [Int.tdiv_eq_ediv_of_nonneg (by omega)]; omega
          have d2 : ((bt : Int) + (m : Int)) % 8 = (r2 : Int) := by omega
          have d2' : ((bt : Int) + (m : Int)).tmod 8 = (r2 : Int) := by rw [Int.tmod_eq_emod_of_nonneg (by omega)]; omega
          have d3 : (7 : Int) - (r2 : Int) = ((7 - r2 : Nat) : Int) := by omega
          have d4 : 0 ≤ ((7 - r2 : Nat) : Int) := by omega
          have d5 : (((7 - r2 : Nat) : Int)).toNat = 7 - r2 := by omega
          have d6 : (q2 : Int) < 24 := by omega
          have d7 : (bt + m) / 8 = q2 := by omega
          have d8 : (bt + m) % 8 = r2 := by omega
          have hbx := HBIT.out q r q2 r2 hr8 hr28 (by omega)
          have HMQ := Lib.hid hmq
          have HAT := Lib.hid hat
          have HBX := Lib.hid hbx
          clear hmq hat hbx
          go_upto_region 25 with (fail)
          clear c1 d1 d1' d2 d2' d3 d4 d5 d6 d7 d8
          rw [shr8_int, and1_int, show shr8 (S q2) (7 - r2) &&& 1 = bitv (C q) (7 - r) from HBX.out]
          obtain ⟨b, hb⟩ : ∃ b, b = bitv (C q) (7 - r) := ⟨_, rfl⟩
          rw [← hb]
          obtain ⟨G, hG⟩ : ∃ G, G = bitsB C m := ⟨_, rfl⟩
          rw [← hG] at hz
          obtain ⟨y, hy⟩ : ∃ y, y = G q ||| b <<< UInt8.ofNat (7 - r) := ⟨_, rfl⟩
          have hstep : (fun j => if j = q then y else G j) = bitsB C (m + 1) := by
            rw [hy, hb, hG, HMQ.out, bits_step C q r hr8]
          have HSTEP := Lib.hid hstep
          have HY := Lib.hid hy
          clear hb hG hy hstep
          have k4 : (m : Int) < 128 := k3
          refine region_seq (fun W' => BgI w w2 g gc gl gk (gk + 1) st dl X W' ∧ PRow W' gS 5 24 S ∧ Row W' go 44 16 G) mixedOrders (by kernel_rfl) (by simp) ⟨hI.drew, hP.drew, hz.drew⟩ ?_
          clear hI hP hz
          iterate 13
            refine Seq.next ?_ (Sure.val rfl (fun w' hS => ?_)) ?_
            rotate_left 1
            · have e1 := hS.2.2.cell q hq16
              have t1 : (m : Int).tdiv 8 = (q : Int) := by rw [Int.tdiv_eq_ediv_of_nonneg (by omega)]; have := HMQ.out; omega
              have t2 : (m : Int).tmod 8 = (r : Int) := by rw [Int.tmod_eq_emod_of_nonneg (by omega)]; have := HMQ.out; omega
              have t3 : IntKind.i64.wrap (q : Int) = (q : Int) := IntWalk.i64_in _ (by omega)
              have t4 : IntKind.i64.wrap (r : Int) = (r : Int) := IntWalk.i64_in _ (by omega)
              have t5 : IntKind.i64.wrap (7 - (r : Int)) = ((7 - r : Nat) : Int) := by rw [IntWalk.i64_in _ (by omega)]; omega
              have t6 : 0 ≤ ((7 - r : Nat) : Int) := by omega
              have t7 : (((7 - r : Nat) : Int)).toNat = 7 - r := by omega
              have t8 : (q : Int) < 16 := by omega
              have t9 : (m : Int) / 8 = (q : Int) := by have := HMQ.out; omega
              clear hS
              go_simp
              rfl
            simp only [Act.put, List.setIfInBounds_toArray, List.set_cons_zero, List.set_cons_succ]
          rw [IntKind.wrap_u8', shl_int _ (7 - r) (by omega), or8, ← HY.out]
          refine Seq.last rfl fun w' hS => ?_
          obtain ⟨hI, hP, hz⟩ := hS
          have e1 := hz.cell q hq16
          have e3 := hz.frozen q
          have t8 : (q : Int) < 16 := by omega
          go_simp
          clear e1 e3 t8
          have hI := hI.far (x := go) (o := q) hgo (.int .u8 (y.toNat : Int))
          have hP := hP.far (p := ⟨go, q, none⟩) (by show gS ≠ go; omega) (.int .u8 (y.toNat : Int))
          have hz := hz.set_ q y
          rw [HSTEP.out] at hz
          revert hI hP hz
          clear hI hP hz
          generalize w'.setCell ⟨go, q, none⟩ (.int .u8 (y.toNat : Int)) = w16
          intro hI hP hz
          go_wp2
          go_roundw
          case rel => exact ⟨m + 1, by omega, by go_num, hI, hP, hz⟩
          case measure => simp [intOf]; omega
        · have k3 : ¬ (m : Int) < 128 := by omega
          have hm8 : m = 128 := by omega
          rw [hm8] at hz
          have HVX := HV.out
          have hVC : ∀ j, j < 16 → bitsB C 128 j = V j := fun j hj => by
            rw [bits_all C j hj, HV.out, HC.out, HS.out, HX.out, HM.out, HB.out, HNN.out]
            unfold offB
            rw [show nonB n nf 15 = nf (n - 1) by
              have hp := HP.out
              unfold nonB
              rw [if_neg (by omega), if_neg (by omega)]
              congr 1
              omega]
          have hz := hz.congr hVC
          clear hm8 HVX hVC
          go_wp2
          refine region_chain (fun k π W' => (Ob g gc gl 1 1 st dl W' ∧ W'.heap[gc]? = w2.heap[gc]? ∧ Below w.heap.size w W' ∧ w.heap.size < g ∧ g < gl) ∧ Row W' go 44 16 V ∧ w.heap.size < go ∧ (k < 1 → Row W' w.heap.size 44 16 (fun _ => 0)) ∧ (1 ≤ k → Row W' w.heap.size 44 16 V)) (fun i => i == 3) mixedOrders (by kernel_rfl) (by kernel_rfl) (by simp)
            ⟨⟨hI.1.drew, hI.2.2.2.1.drew.block gc hg2, hI.2.2.2.2.1.drew, hI.2.2.2.2.2.2.1, hI.2.2.2.2.2.2.2.1⟩, hz.drew, by have := hI.2.2.2.2.2.2; omega, fun _ => hI.2.1.drew, fun h => by omega⟩ ?_
          clear hI hP hz
          refine SeqP.next ?_ (fun π q => Sure.val rfl (fun w' hS => ?_)) ?_
          rotate_left 1
          · clear hS
            go_simp
            rfl
          simp only [Act.put, List.setIfInBounds_toArray, List.set_cons_zero, List.set_cons_succ]
          refine SeqP.next (.agg (row 16 V)) (fun π q => Sure.load_Row rfl 44 _ rfl go rfl 44 16 _ _ (fun w' hS => hS.2.1) undBk sizeBk) ?_
          simp only [Act.put, List.setIfInBounds_toArray, List.set_cons_zero, List.set_cons_succ]
          refine SeqP.next ?_ (fun π q => Sure.val rfl (fun w' hS => ?_)) ?_
          rotate_left 1
          · clear hS
            go_simp
            rfl
          simp only [Act.put, List.setIfInBounds_toArray, List.set_cons_zero, List.set_cons_succ]
          refine SeqP.store rfl (fun π => rfl) (fun π w' hS => ⟨_, exec_store_Row 44 _ _ rfl w.heap.size rfl 44 16 (fun _ => 0) V rfl (hS.2.2.2.1 (by omega)) sizeBk, ?_⟩) ?_
          · obtain ⟨⟨a, b, c, d, e⟩, f, h, i, j⟩ := hS
            exact ⟨⟨a.setRow_far (by omega) (by omega) _, (setRow_other _ _ _ _ (by omega)).trans b, below_setRow8 c (by omega) _, d, e⟩, f.setRow_far (by omega) _, h, fun h => by omega, fun _ => (i (by omega)).setRow V⟩
          simp only [Act.put]
          refine SeqP.last (fun π => rfl) fun π w' hS => ?_
          obtain ⟨⟨a, b, c, d, e⟩, f, h, i, j⟩ := hS
          have hres := j (by omega)
          clear i j f
          go_simp
          go_wp2
          exact ret_tmp_Row_tmp rfl rfl w.heap.size 44 16 V _ _ _ rfl rfl rfl hres undBk sizeBk ⟨g, gc, gl, 1, rfl, a, ⟨g, by omega, Nat.le_refl _, by omega, fun W' hW => HRF.out W' ((hW.block gc hg2).trans b)⟩, c⟩
end Go.Proofs.YtajifdnfibojfaaDoor
