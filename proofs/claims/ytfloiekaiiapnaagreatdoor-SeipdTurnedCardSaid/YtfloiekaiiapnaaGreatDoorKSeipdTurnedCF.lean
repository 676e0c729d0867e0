/- What the claim leans on, part 6: plain theorems, and walks of functions of the program and of the document. -/
import Derived.Test.YtfloiekaiiapnaaGreatDoorKSeipdTurnedCC
import Derived.Test.YtfloiekaiiapnaaGreatDoorKSeipdTurnedCB
import Derived.Test.YtfloiekaiiapnaaGreatDoorKSeipdTurnedCE
import Derived.Test.YtfloiekaiiapnaaGreatDoorKSeipdTurnedCD
import Derived.Test.YtfloiekaiiapnaaGreatDoorProg
import Derived.Test.YtfloiekaiiapnaaGreatDoorKSeipdTurnedCA
import Derived.WalkKit
import Derived.OwnWalkIn
import Derived.LoopNIn
import Derived.LoopIn
import Derived.Shelf.Abstract
import Derived.Shelf.RegionOpen
namespace Go.Proofs.YtfloiekaiiapnaaGreatDoor
open Go Go.RowKit
section
variable {P : Program} {a : Act} {o : Oper} {w : World}
theorem opMakeFuncB {f : FuncId} {xs : List Operand} {vs : List Value} (ho : o.op = .makeFunc (.func f) xs.toArray #[]) (hx : Evs a xs vs) : (execOp a.eval o).run P w = .ok (.value (.func (.func f) vs.toArray #[])) w := by
  have e := hx.map
  unfold execOp
  simp only [ho, List.map_toArray]
  simp [Instr.makeFunc, e]
theorem opCallB {f : FuncId} {fn : Func} {z : Operand} {cp xs : List Value} {ys : List Operand} {ts : Array TypeId} (ho : o.op = .call { callee := .value z, args := ys.toArray, argTypes := ts }) (hz : a.eval z = .func (.func f) cp.toArray #[]) (hf : P.funcs[f]? = some fn) (hn : (fn.name == "runtime.NumGoroutine") = false) (hb : fn.body.isNone = false)
    (hx : Evs a ys xs) (w : World) : (execOp a.eval o).run P w = .ok (.enter f (cp ++ xs).toArray) w := by
  have e := hx.map
  unfold execOp
  simp only [ho, resolve, hz, Deferred.ofValue, Sem.run_bind, Sem.run_pure, Result.andThen_ok, invoke, callFunc, run_program, hf, hn, hb, List.map_toArray]
  simp [e]
end
section
variable {P : Program} {ops : Array Oper} {n : Sz} {w0 : World} {R : List Nat} {Hs : List Hl} {l : Slots} {its : List It}
theorem Sp.cr {f : FuncId} {fn : Func} {i d : Nat} {ns ds : List Nat} {V : Chs → Value} {xs : List Operand} {vs : Chs → List Value} {ts : Array TypeId} {Rd : World → Prop} (F : P.funcs[f]? = some fn) (hq : ∀ G, Pure P f (vs G).toArray Rd (V (onD ds G))) (hR : ∀ w Xs, HH w0 R Xs w → Rd w)
    (ho : (opAt ops i).op = .call { callee := .value (.func f), args := xs.toArray, argTypes := ts } := by exact rfl) (hx : ∀ G, vos (availG l its ns G) xs = some (vs G) := by exact fun _ => rfl) (h1 : (fn.name == "runtime.NumGoroutine") = false := by exact rfl) (h2 : fn.body.isNone = false := by exact rfl) : Sp P ops n w0 R Hs l its (pv i d ns ds V) := fun G a w Xs hF hH =>
  (Sm.call (n := n) F (hq G).does ho (hx G) h1 h2 a hF w (Has.nil w) (hR w _ hH)).mono fun v w' ⟨E', h3, h4⟩ => by
    obtain ⟨rfl, rfl⟩ := h3
    refine ⟨ch0, trivial, fun _ => rfl, (hH.add h4).cast ?_⟩
    simp [pv]
theorem Sm.callB {o : Oper} {E : Hl} {Rd : World → Prop} {post : Value → Hl → Prop} {f : FuncId} {fn : Func} {cp vs : List Value} {xs : List Operand} {z : Operand} {ts : Array TypeId} (F : P.funcs[f]? = some fn) (hd : Does P f (cp ++ vs).toArray E Rd post) (ho : o.op = .call { callee := .value z, args := xs.toArray, argTypes := ts }) (hz : vo l z = some (.func (.func f) cp.toArray #[])) (hx : vos l xs = some vs) (h1 : (fn.name == "runtime.NumGoroutine") = false) (h2 : fn.body.isNone = false) : Sm P n l o E Rd post := fun _ hF =>
  Does.small hd (fun w => opCallB ho (hF.vo hz) F h1 h2 (hF.vos hx) w)
theorem Sp.cb {f : FuncId} {fn : Func} {i d : Nat} {ns ds : List Nat} {V : Chs → Value} {xs : List Operand} {cp : List Value} {z : Operand} {vs : Chs → List Value} {ts : Array TypeId} {Rd : World → Prop} (F : P.funcs[f]? = some fn) (hq : ∀ G, Pure P f (cp ++ vs G).toArray Rd (V (onD ds G))) (hR : ∀ w Xs, HH w0 R Xs w → Rd w)
    (ho : (opAt ops i).op = .call { callee := .value z, args := xs.toArray, argTypes := ts } := by exact rfl) (hz : ∀ G, vo (availG l its ns G) z = some (.func (.func f) cp.toArray #[]) := by exact fun _ => rfl) (hx : ∀ G, vos (availG l its ns G) xs = some (vs G) := by exact fun _ => rfl) (h1 : (fn.name == "runtime.NumGoroutine") = false := by exact rfl) (h2 : fn.body.isNone = false := by exact rfl) : Sp P ops n w0 R Hs l its (pv i d ns ds V) := fun G a w Xs hF hH =>
  (Sm.callB (n := n) F (hq G).does ho (hz G) (hx G) h1 h2 a hF w (Has.nil w) (hR w _ hH)).mono fun v w' ⟨E', h3, h4⟩ => by
    obtain ⟨rfl, rfl⟩ := h3
    refine ⟨ch0, trivial, fun _ => rfl, (hH.add h4).cast ?_⟩
    simp [pv]
end
end Go.Proofs.YtfloiekaiiapnaaGreatDoor

namespace Go.Proofs.YtfloiekaiiapnaaGreatDoor
open Go Go.RowKit
set_option maxRecDepth 100000

theorem chk16_d (A : Option Addr) (n c : Nat) : Does Tryz.prog 13 #[.slice A n c, .int .i64 16] [] (fun _ => True) (fun v E' => ∃ B, v = .func (.func 28) #[] #[.pointer (some ⟨B, 0, none⟩), .pointer (some ⟨B + 1, 0, none⟩)] ∧ E' = [bl B 23 #[.slice A n c], bl (B + 1) 3 #[.int .i64 16]]) := fun w _ _ =>
  (chk16_c A n c w).mono fun e w' ⟨h1, h2⟩ => ⟨_, _, h1, ⟨w.heap.size, rfl, rfl⟩, by
    subst h2
    have h3 := ((Hold.init w).new (.cells #[.slice A n c] 23)).new (.cells #[.int .i64 16] 3)
    rw [World.size_alloc] at h3
    exact h3⟩
theorem part16_vu {w : World} {A : Option Addr} {c b off i : Nat} {l : List UInt8} (h : Vu cByte w A l.length c l) (hA : 0 < l.length → A = some ⟨b, off, none⟩) (hi : 16 * i < l.length) :
    Vu cByte w (some ⟨b, off + 16 * i, none⟩) (pl16 l.length i) (pl16 l.length i) ((l.drop (16 * i)).take 16) := by
  have hl : ((l.drop (16 * i)).take 16).length = pl16 l.length i := by rw [List.length_take, List.length_drop]; rfl
  refine ⟨hl, Nat.le_refl _, fun h => (by cases h), fun _ => ⟨b, _, rfl, ?_⟩⟩
  obtain ⟨b', off', e, hL⟩ := h.open (by omega)
  rw [hA (by omega)] at e
  cases e
  intro j x hx
  have h1 : l[16 * i + j]? = some x := by
    rw [List.getElem?_take] at hx
    split at hx
    · rw [List.getElem?_drop] at hx; exact hx
    · cases hx
  have h2 := hL _ x h1
  have e : off + 16 * i + j * cByte.sz = off + (16 * i + j) * cByte.sz := by show off + 16 * i + j * 1 = off + (16 * i + j) * 1; omega
  rw [e]
  exact h2
theorem vu16_lt {w : World} {A : Option Addr} {n c b off : Nat} {l : List UInt8} (h : Vu cByte w A n c l) (hA : 0 < n → A = some ⟨b, off, none⟩) (hn : 0 < n) : b < w.heap.size := by
  obtain ⟨b', off', e, _, hb, _⟩ := h.blk (R := []) (by decide) (Off.nil _ _) hn
  rw [hA hn] at e
  cases e
  exact hb
theorem blk_lt {w : World} {g : Nat} {o : Obj} (h : w.heap[g]? = some o) : g < w.heap.size := (Array.getElem?_eq_some_iff.1 h).1
theorem HH.freshR {w w0 : World} {R : List Nat} {Hs : List Hl} {E : Hl} (h : HH w0 R Hs w) (i : Nat) (hi : Hs[i]? = some E) {g : Nat} (hg : g < w0.heap.size) (hR : g ∉ R) : g ∉ bks E := fun hm => by
  obtain ⟨y, hy, e⟩ := List.mem_map.1 hm
  have : y ∈ Hs.flatten := List.mem_flatten.2 ⟨E, List.mem_of_getElem? hi, hy⟩
  rcases Hold.own h y this with h1 | h1
  · omega
  · exact hR (e ▸ h1)
theorem prt16 {l : List UInt8} {i : Nat} : pdB (pl16 l.length i) (cutF ((l.drop (16 * i)).take 16) 0) = prB l i := by
  funext j
  unfold prB pdB
  by_cases h : j < pl16 l.length i
  · rw [if_pos h, if_pos h]
    have := pl_le l.length i
    unfold cutF
    rw [Nat.zero_add, List.getD_eq_getElem?_getD, List.getD_eq_getElem?_getD, List.getElem?_take, if_pos (by omega), List.getElem?_drop]
  · rw [if_neg h, if_neg h]
/-- The next step, whatever the part. -/
theorem goto_c (g : Nat) (K : Option Addr × Nat × Nat) (st dl : Nat → UInt8) (s : (Nat → UInt8) × Nat) (hn : s.2 < 9223372036854775807) (B : Option Addr) (n i c : Nat) : Does Tryz.prog 63 #[(.pointer (some ⟨g, 0, none⟩)), (.slice B (pl16 n i) c)] [bl g 78 (cWk.enc ((K, st, dl), s))] (fun w => w.heap[4]? = some (.cells ((cArr 64).enc dbF) 104 (0, 0))) (fun v E' => v = .tuple #[] ∧ E' = [bl g 78 (cWk.enc ((K, st, dl), nxO st dl n s i))]) := by
  unfold nxO
  by_cases h : pl16 n i < 16
  · rw [if_pos h]
    exact fun w hE _ => gor_c g (K, st, dl) s.1 s.2 B (pl16 n i) c h w hE trivial
  · rw [if_neg h]
    exact gow_c g (K, st, dl) s.1 s.2 hn B (pl16 n i) c (by omega)
end Go.Proofs.YtfloiekaiiapnaaGreatDoor

namespace Go.Proofs.YtfloiekaiiapnaaGreatDoor
open Go Go.RowKit
set_option maxRecDepth 100000

set_option maxHeartbeats 8000000 in
theorem sum_o (A : Option Addr) (c : Nat) (l : List UInt8) (hl : l.length ≤ 140737488355328) : Pure Tryz.prog 66 #[(.slice A l.length c)] (fun w => Vu cByte w A l.length c l) ((cArr 16).val (smL l)) := by
  refine pure_ofM (fn := Tryz.f66) Tryz.func66 rfl Tryz.ntmps66 (Nat.le_of_ble_eq_true rfl) rfl ?_
  intro w0 hH hR
  have hcc := hR.cap
  refine zr ?_
  refine zm hH (.al (cArr 16) (fun _ => 0)) trivial 0 ?_
  clear hH
  rintro _ _ w ⟨g1, rfl, rfl⟩ hH
  refine zn ?_
  refine zr ?_
  refine zm hH (.al (cArr 16) (fun _ => 0)) trivial 0 ?_
  clear hH
  rintro _ _ w ⟨g2, rfl, rfl⟩ hH
  refine zn ?_
  refine cxSeq ?_
  refine zr ?_
  refine zv .mv 4 ?_
  refine zm hH (.call Tryz.func13 (chk16_d A l.length c)) trivial 1 ?_
  clear hH
  rintro _ _ w ⟨B, rfl, rfl⟩ hH
  refine zn ?_
  refine cxBlock ?_
  obtain ⟨b0, off, hA⟩ : ∃ b off, 0 < l.length → A = some ⟨b, off, none⟩ := by
    by_cases h : 0 < l.length
    · obtain ⟨b, off, h1, _⟩ := hR.open h; exact ⟨b, off, fun _ => h1⟩
    · exact ⟨0, 0, fun h' => absurd h' h⟩
  have hH1 : HH w0 [] [[bl B 23 #[.slice A l.length c], bl (B + 1) 3 #[.int .i64 16]], [bl g1 61 ((cArr 16).enc (fun _ => 0))], [bl g2 61 ((cArr 16).enc (fun _ => 0))]] w := HH.sel hH [2, 0, 1] rfl (by decide)
  have hH2 : HH w0 [] ([[bl B 23 #[.slice A l.length c], bl (B + 1) 3 #[.int .i64 16]]] ++ [[bl g1 61 ((cArr 16).enc (fun _ => 0)), bl g2 61 ((cArr 16).enc (fun _ => 0))]]) w := hH1.cast (by simp)
  clear hH1
  have hcB1 : Blk w B 23 #[.slice A l.length c] := (hH2.has 0 rfl).blk (bl B 23 #[.slice A l.length c]) (by simp)
  have hcB2 : Blk w (B + 1) 3 #[.int .i64 16] := (hH2.has 0 rfl).blk (bl (B + 1) 3 #[.int .i64 16]) (by simp)
  have hB1 := hcB2.lt
  clear hH
  refine cxRange (α := Pts16 l.length) (S := fun ys => ys.map (·.1) = List.range ((l.length + 15) / 16)) (N := (l.length + 15) / 16) (Kp := Kp16 B) (encs := fun x => pv16 b0 off l.length x.1) (fun (pre : List (Pts16 l.length)) E => E = [bl g1 61 ((cArr 16).enc (fun _ => 0)), bl g2 61 ((cArr 16).enc (flS l (pre.map (·.1))))])
    0 hH2 rfl (enters_of Tryz.func28 (by kernel_rfl) rfl) (chk16_stops 2 B b0 off l.length c A w (by omega) hA (by omega) (by omega) hcB1 hcB2) (fun h k => h.trans k)
    (fun W l' o o' hl _ _ _ => ⟨World.putObj_heap_other (by omega), World.putObj_heap_other (by omega)⟩)
    (fun W W' h h' => ⟨(h'.blk (bl B 23 #[.slice A l.length c]) (by simp)).trans (h.blk (bl B 23 #[.slice A l.length c]) (by simp)).symm, (h'.blk (bl (B + 1) 3 #[.int .i64 16]) (by simp)).trans (h.blk (bl (B + 1) 3 #[.int .i64 16]) (by simp)).symm⟩)
    (fun x hx => by simp only [List.flatten_cons, List.flatten_nil, List.append_nil, List.mem_cons, List.not_mem_nil, or_false] at hx; rcases hx with rfl | rfl <;> rfl)
    (fun pre E h x hx => by subst h; simp only [List.mem_cons, List.not_mem_nil, or_false] at hx; rcases hx with rfl | rfl <;> rfl)
    rfl rfl (by decide) (fun a W v h => opAssign rfl h) rfl (fun _ => rfl) rfl rfl (by decide) ?_ ?_
  rintro pre x E W lp rfl hlen hH
  obtain ⟨fs, hfs⟩ : ∃ q, q = flS l (pre.map (·.1)) := ⟨_, rfl⟩
  rw [← hfs] at hH ⊢
  have hV := part16_vu (hH.vu hR (by decide) (Off.nil _ _)) hA x.2
  have hoff : b0 ∉ bks [bl g1 61 ((cArr 16).enc (fun _ => 0)), bl g2 61 ((cArr 16).enc fs)] := hH.fresh 1 rfl (vu16_lt hR hA (by have := x.2; omega))
  have hpl := pl_le l.length x.1
  replace hH : HH W (bks [bl g1 61 ((cArr 16).enc (fun _ => 0)), bl g2 61 ((cArr 16).enc fs)]) [[bl g1 61 ((cArr 16).enc (fun _ => 0))], [bl g2 61 ((cArr 16).enc fs)]] W := ((hH.has 1 rfl).start).cast (by simp)
  clear hH2 hcB1 hcB2 hB1
  obtain ⟨w0, rfl⟩ : ∃ u, u = W := ⟨_, rfl⟩
  show CXi lp _ _ _ ⟨13, []⟩ [(4, (.slice (some ⟨b0, off + 16 * x.1, none⟩) (pl16 l.length x.1) (pl16 l.length x.1))), (6, (.func (.func 28) #[] #[(.pointer (some ⟨B, 0, none⟩)), (.pointer (some ⟨(B + 1), 0, none⟩))])), (3, (.pointer (some ⟨g2, 0, none⟩))), (2, (.pointer (some ⟨g1, 0, none⟩)))] _
  refine cxBlockI ?_
  refine cxRegXI ?_
  replace hH := hH.drew
  refine rld 0 (hH.q 1 rfl) (.ld (cArr 16) fs (fun _ hS => (holds_blk0 hS))) 10 ?_
  refine rv 1 .mv 2 ?_
  refine rx1k 2 (rpc 2 Tryz.func83 (pad_n (some ⟨b0, off + 16 * x.1, none⟩) (pl16 l.length x.1) (pl16 l.length x.1) ((l.drop (16 * x.1)).take 16) (by omega)) (hH.vu hV (by decide) (fun _ _ e _ => by cases e; exact hoff)) hH 1 (.keep (.nil _ [])) ?_)
  clear hH
  intro w hH
  refine ⟨pcons (hH.blk 1 rfl) pnil, ?_⟩
  refine rx1k 3 (rpc 3 Tryz.func64 (xor_c fs (pdB (pl16 l.length x.1) (cutF ((l.drop (16 * x.1)).take 16) 0))) trivial hH 3 (pgo [] (.nil _ [])) ?_)
  clear hH
  intro w hH
  refine ⟨pnil, ?_⟩
  refine rx1k 4 ?_
  refine re0 4 1 hH rfl (.sw (cArr 16) fs (added fs (pdB (pl16 l.length x.1) (cutF ((l.drop (16 * x.1)).take 16) 0)))) trivial (.nil _ []) ?_
  clear hH
  rintro _ _ w rfl hH
  refine ⟨pnil, ?_⟩
  refine rxEndI (by kernel_rfl) ?_
  refine qxInN ?_
  have he : (added fs (pdB (pl16 l.length x.1) (cutF ((l.drop (16 * x.1)).take 16) 0))) = flS l ((pre ++ [x]).map (·.1)) := by rw [List.map_append, List.map_cons, List.map_nil, flS_snoc, prt16, hfs]
  rw [he] at hH
  exact fun _ _ => ⟨_, rfl, by simpa [HH] using hH⟩
  rintro xs E D w hxs rfl hH
  replace hH : HH w0 [] [[bl B 23 #[.slice A l.length c], bl (B + 1) 3 #[.int .i64 16]], [bl g1 61 ((cArr 16).enc (fun _ => 0))], [bl g2 61 ((cArr 16).enc (flS l (xs.map (·.1))))], [(D, .deferred (some []))]] w := hH.cast (by simp)
  clear hH2 hcB1 hcB2 hB1
  rw [hxs] at hH
  have he3 : (cArr 16).enc (smL l) = (cArr 16).enc (flS l (List.range ((l.length + 15) / 16))) := arr_congr (fun j hj => (flS_all j hj).symm)
  replace hH : HH w0 [] [[bl B 23 #[.slice A l.length c], bl (B + 1) 3 #[.int .i64 16]], [bl g1 61 ((cArr 16).enc (fun _ => 0))], [bl g2 61 ((cArr 16).enc (smL l))], [(D, .deferred (some []))]] w := by rw [he3]; exact hH
  obtain ⟨f2, hf2⟩ : ∃ q, q = smL l := ⟨_, rfl⟩
  rw [← hf2] at hH
  refine qxInN ?_
  refine qxThen ?_
  refine zr ?_
  refine zs (hH.q 2 rfl) (.ld (cArr 16) f2 (fun _ hS => (holds_blk0 hS))) 3 ?_
  refine ze0 1 hH rfl (.sw (cArr 16) (fun _ => 0) f2) trivial ?_
  clear hH
  rintro _ _ w rfl hH
  refine zn ?_
  refine cxRet ?_
  refine qxDRetC 1 3 1 hH rfl rfl rfl rfl (by kernel_rfl) (Cod.size _ _) (by kernel_rfl) (fun w hH => ?_)
  subst hf2
  exact ⟨rfl, HH.toBelow hH⟩

set_option maxHeartbeats 8000000 in
theorem hash_o (A : Option Addr) (z : Nat) (l : List UInt8) (hk : l.length = 16 ∨ l.length = 32) (st dl : Nat → UInt8) (Aa : Option Addr) (y : Nat) (a : List UInt8) (ha : a.length ≤ 140737488355328) : Pure Tryz.prog 67 #[(cMk.val ((A, l.length, z), st, dl)), (.slice Aa a.length y)] (fun w => w.heap[2]? = some (.cells ((cArr 256).enc boxF) 105 (0, 0)) ∧ w.heap[4]? = some (.cells ((cArr 64).enc dbF) 104 (0, 0)) ∧ Vu cByte w A l.length z l ∧ Vu cByte w Aa a.length y a) ((cArr 16).val (hsL (aeE l) st dl a)) := by
  refine pure_ofM (fn := Tryz.f67) Tryz.func67 rfl Tryz.ntmps67 (Nat.le_of_ble_eq_true rfl) rfl ?_
  intro w0 hH hR
  have hcc := hR.2.2.2.cap
  refine zr ?_
  refine zm hH (.bx cMk ((A, l.length, z), st, dl)) trivial 1 ?_
  clear hH
  rintro _ _ w ⟨g1, rfl, rfl⟩ hH
  refine zm hH (.al (cArr 16) (fun _ => 0)) trivial 0 ?_
  clear hH
  rintro _ _ w ⟨g2, rfl, rfl⟩ hH
  refine zn ?_
  refine zr ?_
  refine zs (hH.q 0 rfl) (.ld cMk ((A, l.length, z), st, dl) (fun _ hS => (holds_blk0 hS))) 0 ?_
  refine zv (v := (cWk.val (((A, l.length, z), st, dl), (fun _ => 0), 0))) (fun _ _ hF => opBuildP (cells := cWk.enc (((A, l.length, z), st, dl), (fun _ => 0), 0)) rfl (EvP.cons (v := (cMk.val ((A, l.length, z), st, dl))) (hF.ev 0 rfl) EvP.nil) (built_1of3 (A := cMk) (B := cArr 16) (C := cNat .u64) ((none, 0, 0), fun _ => 0, fun _ => 0) (fun _ => 0) 0 (by kernel_rfl) (by kernel_rfl) rfl) _) 1 ?_
  refine zm hH (.al cWk (((none, 0, 0), fun _ => 0, fun _ => 0), (fun _ => 0), 0)) trivial 0 ?_
  clear hH
  rintro _ _ w ⟨g3, rfl, rfl⟩ hH
  refine ze0 2 hH rfl (.sw cWk (((none, 0, 0), fun _ => 0, fun _ => 0), (fun _ => 0), 0) (((A, l.length, z), st, dl), (fun _ => 0), 0)) trivial ?_
  clear hH
  rintro _ _ w rfl hH
  refine zn ?_
  refine zr ?_
  refine zm hH (.al (cArr 16) (fun _ => 0)) trivial 2 ?_
  clear hH
  rintro _ _ w ⟨g4, rfl, rfl⟩ hH
  refine zn ?_
  refine cxSeq ?_
  refine zr ?_
  refine zv .mv 16 ?_
  refine zm hH (.call Tryz.func13 (chk16_d Aa a.length y)) trivial 1 ?_
  clear hH
  rintro _ _ w ⟨B, rfl, rfl⟩ hH
  refine zn ?_
  refine cxBlock ?_
  obtain ⟨b0, off, hA⟩ : ∃ b off, 0 < a.length → Aa = some ⟨b, off, none⟩ := by
    by_cases h : 0 < a.length
    · obtain ⟨b, off, h1, _⟩ := hR.2.2.2.open h; exact ⟨b, off, fun _ => h1⟩
    · exact ⟨0, 0, fun h' => absurd h' h⟩
  have hH1 : HH w0 [] [[bl B 23 #[.slice Aa a.length y], bl (B + 1) 3 #[.int .i64 16]], [bl g1 73 (cMk.enc ((A, l.length, z), st, dl))], [bl g2 61 ((cArr 16).enc (fun _ => 0))], [bl g3 78 (cWk.enc (((A, l.length, z), st, dl), (fun _ => 0), 0))], [bl g4 61 ((cArr 16).enc (fun _ => 0))]] w := HH.sel hH [4, 0, 1, 2, 3] rfl (by decide)
  have hH2 : HH w0 [] ([[bl B 23 #[.slice Aa a.length y], bl (B + 1) 3 #[.int .i64 16]]] ++ [[bl g1 73 (cMk.enc ((A, l.length, z), st, dl)), bl g2 61 ((cArr 16).enc (fun _ => 0)), bl g3 78 (cWk.enc (((A, l.length, z), st, dl), (fun _ => 0), 0)), bl g4 61 ((cArr 16).enc (fun _ => 0))]]) w := hH1.cast (by simp)
  clear hH1
  have hcB1 : Blk w B 23 #[.slice Aa a.length y] := (hH2.has 0 rfl).blk (bl B 23 #[.slice Aa a.length y]) (by simp)
  have hcB2 : Blk w (B + 1) 3 #[.int .i64 16] := (hH2.has 0 rfl).blk (bl (B + 1) 3 #[.int .i64 16]) (by simp)
  have hB1 := hcB2.lt
  clear hH
  refine cxRange (α := Pts16 a.length) (S := fun ys => ys.map (·.1) = List.range ((a.length + 15) / 16)) (N := (a.length + 15) / 16) (Kp := Kp16 B) (encs := fun x => pv16 b0 off a.length x.1) (fun (pre : List (Pts16 a.length)) E => E = [bl g1 73 (cMk.enc ((A, l.length, z), st, dl)), bl g2 61 ((cArr 16).enc (fun _ => 0)), bl g3 78 (cWk.enc (((A, l.length, z), st, dl), (flO st dl a.length (fun _ => 0) (pre.map (·.1))))), bl g4 61 ((cArr 16).enc (flH (aeE l) st dl a (pre.map (·.1))))])
    0 hH2 rfl (enters_of Tryz.func28 (by kernel_rfl) rfl) (chk16_stops 2 B b0 off a.length y Aa w (by omega) hA (by omega) (by omega) hcB1 hcB2) (fun h k => h.trans k)
    (fun W l' o o' hl _ _ _ => ⟨World.putObj_heap_other (by omega), World.putObj_heap_other (by omega)⟩)
    (fun W W' h h' => ⟨(h'.blk (bl B 23 #[.slice Aa a.length y]) (by simp)).trans (h.blk (bl B 23 #[.slice Aa a.length y]) (by simp)).symm, (h'.blk (bl (B + 1) 3 #[.int .i64 16]) (by simp)).trans (h.blk (bl (B + 1) 3 #[.int .i64 16]) (by simp)).symm⟩)
    (fun x hx => by simp only [List.flatten_cons, List.flatten_nil, List.append_nil, List.mem_cons, List.not_mem_nil, or_false] at hx; rcases hx with rfl | rfl <;> rfl)
    (fun pre E h x hx => by subst h; simp only [List.mem_cons, List.not_mem_nil, or_false] at hx; rcases hx with rfl | rfl | rfl | rfl <;> rfl)
    rfl rfl (by decide) (fun a W v h => opAssign rfl h) rfl (fun _ => rfl) rfl rfl (by decide) ?_ ?_
  rintro pre x E W lp rfl hlen hH
  obtain ⟨so, hso⟩ : ∃ q, q = (flO st dl a.length (fun _ => 0) (pre.map (·.1))) := ⟨_, rfl⟩
  rw [← hso] at hH ⊢
  obtain ⟨sh, hsh⟩ : ∃ q, q = (flH (aeE l) st dl a (pre.map (·.1))) := ⟨_, rfl⟩
  rw [← hsh] at hH ⊢
  have hV := part16_vu (hH.vu hR.2.2.2 (by decide) (Off.nil _ _)) hA x.2
  have hoff : b0 ∉ bks [bl g1 73 (cMk.enc ((A, l.length, z), st, dl)), bl g2 61 ((cArr 16).enc (fun _ => 0)), bl g3 78 (cWk.enc (((A, l.length, z), st, dl), so)), bl g4 61 ((cArr 16).enc sh)] := hH.fresh 1 rfl (vu16_lt hR.2.2.2 hA (by have := x.2; omega))
  have hpl := pl_le a.length x.1
  have hVk := hH.vu hR.2.2.1 (by decide) (Off.nil _ _)
  have hok : Off A l.length (bks [bl g1 73 (cMk.enc ((A, l.length, z), st, dl)), bl g2 61 ((cArr 16).enc (fun _ => 0)), bl g3 78 (cWk.enc (((A, l.length, z), st, dl), so)), bl g4 61 ((cArr 16).enc sh)]) := hH.off 1 rfl hR.2.2.1 (by decide) (Off.nil _ _)
  have hbx := hH.oldBlk hR.1 (by simp)
  have hbn := hH.freshR 1 rfl (blk_lt hR.1) (by simp)
  have hdb := hH.oldBlk hR.2.1 (by simp)
  have hdn := hH.freshR 1 rfl (blk_lt hR.2.1) (by simp)
  have hcnt : so.2 < 9223372036854775807 := by have h := flO_le (st := st) (dl := dl) (o := fun _ => 0) (n := a.length) (pre.map (·.1)); rw [List.length_map, ← hso] at h; omega
  replace hH : HH W (bks [bl g1 73 (cMk.enc ((A, l.length, z), st, dl)), bl g2 61 ((cArr 16).enc (fun _ => 0)), bl g3 78 (cWk.enc (((A, l.length, z), st, dl), so)), bl g4 61 ((cArr 16).enc sh)]) [[bl g1 73 (cMk.enc ((A, l.length, z), st, dl))], [bl g2 61 ((cArr 16).enc (fun _ => 0))], [bl g3 78 (cWk.enc (((A, l.length, z), st, dl), so))], [bl g4 61 ((cArr 16).enc sh)]] W := ((hH.has 1 rfl).start).cast (by simp)
  clear hH2 hcB1 hcB2 hB1
  obtain ⟨w0, rfl⟩ : ∃ u, u = W := ⟨_, rfl⟩
  show CXi lp _ _ _ ⟨25, []⟩ [(7, (.slice (some ⟨b0, off + 16 * x.1, none⟩) (pl16 a.length x.1) (pl16 a.length x.1))), (11, (.func (.func 28) #[] #[(.pointer (some ⟨B, 0, none⟩)), (.pointer (some ⟨(B + 1), 0, none⟩))])), (6, (.pointer (some ⟨g4, 0, none⟩))), (5, (.pointer (some ⟨g3, 0, none⟩))), (4, (.pointer (some ⟨g2, 0, none⟩))), (2, (.pointer (some ⟨g1, 0, none⟩)))] _
  refine cxBlockI ?_
  refine zrI ?_
  refine zv .mv 18 ?_
  refine ze 2 hH rfl (.call Tryz.func63 (goto_c g3 (A, l.length, z) st dl so hcnt (some ⟨b0, off + 16 * x.1, none⟩) a.length x.1 (pl16 a.length x.1))) (hH.oldBlk hdb hdn) 1 ?_
  clear hH
  rintro _ _ w ⟨rfl, rfl⟩ hH
  refine znI ?_
  refine cxRegXI ?_
  replace hH := hH.drew
  refine rld 0 (hH.q 3 rfl) (.ld (cArr 16) sh (fun _ hS => (holds_blk0 hS))) 1 ?_
  refine rld 1 (hH.q 0 rfl) (.ld cMk ((A, l.length, z), st, dl) (fun _ hS => (holds_blk0 hS))) 16 ?_
  refine rv 2 .mv 4 ?_
  refine rv 4 (.fld 33) 16 ?_
  refine rld 5 (hH.q 2 rfl) (.ld (cArr 16) ((nxO st dl a.length so x.1).1) (fun _ hS => ((holds_blk0 hS).snd).fst)) 1 ?_
  refine rx1k 3 (rpc 3 Tryz.func83 (pad_n (some ⟨b0, off + 16 * x.1, none⟩) (pl16 a.length x.1) (pl16 a.length x.1) ((a.drop (16 * x.1)).take 16) (by omega)) (hH.vu hV (by decide) (fun _ _ e _ => by cases e; exact hoff)) hH 2 (.keep (.keep (.keep (.nil _ [])))) ?_)
  clear hH
  intro w hH
  refine ⟨pcons (hH.blk 2 rfl) (pcons (hH.blk 0 rfl) (pcons (hH.blk 3 rfl) pnil)), ?_⟩
  refine rx1k 6 (rpc 6 Tryz.func64 (xor_c (pdB (pl16 a.length x.1) (cutF ((a.drop (16 * x.1)).take 16) 0)) ((nxO st dl a.length so x.1).1)) trivial hH 3 (pgo [] (.keep (.keep (.nil _ [])))) ?_)
  clear hH
  intro w hH
  refine ⟨pcons (hH.blk 0 rfl) (pcons (hH.blk 3 rfl) pnil), ?_⟩
  refine rx1k 7 (rpc 7 Tryz.func45 (maeE_c A z l hk st dl (added (pdB (pl16 a.length x.1) (cutF ((a.drop (16 * x.1)).take 16) 0)) ((nxO st dl a.length so x.1).1))) (⟨(hH.oldBlk hbx hbn), (hH.vu hVk (by decide) hok)⟩) hH 3 (pgo [] (.keep (.nil _ []))) ?_)
  clear hH
  intro w hH
  refine ⟨pcons (hH.blk 3 rfl) pnil, ?_⟩
  refine rx1k 8 (rpc 8 Tryz.func64 (xor_c sh (aeE l (added (pdB (pl16 a.length x.1) (cutF ((a.drop (16 * x.1)).take 16) 0)) ((nxO st dl a.length so x.1).1)))) trivial hH 3 (pgo [] (.nil _ [])) ?_)
  clear hH
  intro w hH
  refine ⟨pnil, ?_⟩
  refine rx1k 9 ?_
  refine re0 9 3 hH rfl (.sw (cArr 16) sh (added sh (aeE l (added (pdB (pl16 a.length x.1) (cutF ((a.drop (16 * x.1)).take 16) 0)) ((nxO st dl a.length so x.1).1))))) trivial (.nil _ []) ?_
  clear hH
  rintro _ _ w rfl hH
  refine ⟨pnil, ?_⟩
  refine rxEndI (by kernel_rfl) ?_
  refine qxInN ?_
  have e1 : (nxO st dl a.length so x.1) = (flO st dl a.length (fun _ => 0) ((pre ++ [x]).map (·.1))) := by rw [List.map_append, List.map_cons, List.map_nil, flO_snoc, hso]
  rw [e1] at hH
  have e2 : (added sh (aeE l (added (pdB (pl16 a.length x.1) (cutF ((a.drop (16 * x.1)).take 16) 0)) ((flO st dl a.length (fun _ => 0) ((pre ++ [x]).map (·.1))).1)))) = (flH (aeE l) st dl a ((pre ++ [x]).map (·.1))) := by rw [List.map_append, List.map_cons, List.map_nil, flH_snoc, prt16, hsh]
  rw [e2] at hH
  exact fun _ _ => ⟨_, rfl, by simpa [HH] using hH⟩
  rintro xs E D w hxs rfl hH
  replace hH : HH w0 [] [[bl B 23 #[.slice Aa a.length y], bl (B + 1) 3 #[.int .i64 16]], [bl g1 73 (cMk.enc ((A, l.length, z), st, dl))], [bl g2 61 ((cArr 16).enc (fun _ => 0))], [bl g3 78 (cWk.enc (((A, l.length, z), st, dl), (flO st dl a.length (fun _ => 0) (xs.map (·.1)))))], [bl g4 61 ((cArr 16).enc (flH (aeE l) st dl a (xs.map (·.1))))], [(D, .deferred (some []))]] w := hH.cast (by simp)
  clear hH2 hcB1 hcB2 hB1
  rw [hxs] at hH
  have he5 : (cArr 16).enc (hsL (aeE l) st dl a) = (cArr 16).enc (flH (aeE l) st dl a (List.range ((a.length + 15) / 16))) := arr_congr (fun j hj => (flH_all (fun x y h => aeE_E16 l (by unfold aeR; omega) h) j hj).symm)
  replace hH : HH w0 [] [[bl B 23 #[.slice Aa a.length y], bl (B + 1) 3 #[.int .i64 16]], [bl g1 73 (cMk.enc ((A, l.length, z), st, dl))], [bl g2 61 ((cArr 16).enc (fun _ => 0))], [bl g3 78 (cWk.enc (((A, l.length, z), st, dl), flO st dl a.length (fun _ => 0) (List.range ((a.length + 15) / 16))))], [bl g4 61 ((cArr 16).enc (hsL (aeE l) st dl a))], [(D, .deferred (some []))]] w := by rw [he5]; exact hH
  obtain ⟨f2, hf2⟩ : ∃ q, q = hsL (aeE l) st dl a := ⟨_, rfl⟩
  rw [← hf2] at hH
  refine qxInN ?_
  refine qxThen ?_
  refine zr ?_
  refine zs (hH.q 4 rfl) (.ld (cArr 16) f2 (fun _ hS => (holds_blk0 hS))) 23 ?_
  refine ze0 2 hH rfl (.sw (cArr 16) (fun _ => 0) f2) trivial ?_
  clear hH
  rintro _ _ w rfl hH
  refine zn ?_
  refine cxRet ?_
  refine qxDRetC 1 5 2 hH rfl rfl rfl rfl (by kernel_rfl) (Cod.size _ _) (by kernel_rfl) (fun w hH => ?_)
  subst hf2
  exact ⟨rfl, HH.toBelow hH⟩
end Go.Proofs.YtfloiekaiiapnaaGreatDoor

namespace Go.Proofs.YtfloiekaiiapnaaGreatDoor
open Go Go.RowKit
set_option maxRecDepth 100000

theorem rst_step {X L : List UInt8} {k p i : Nat} {y : UInt8} {F : Nat → UInt8} (hL : L = X.take k ++ (lst i (added (cutF X k) F) ++ X.drop (k + i))) (hi : i < p) (hk : k + p ≤ X.length) (hx : ((L.take (k + p)).drop k)[i]? = some y) : L.set (k + i) (y ^^^ F i) = X.take k ++ (lst (i + 1) (added (cutF X k) F) ++ X.drop (k + (i + 1))) := by
  have hl : (X.take k).length = k := by rw [List.length_take]; omega
  have h1 : X[k + i]? = some y := by
    rw [List.getElem?_drop, List.getElem?_take, if_pos (by omega), hL, List.getElem?_append_right (by omega), List.getElem?_append_right (by rw [lst_len]; omega), lst_len, List.getElem?_drop] at hx
    rw [← hx]
    congr 1
    omega
  have h2 : y ^^^ F i = added (cutF X k) F i := by rw [← cut_of h1]; rfl
  have h3 : k + i < X.length := by omega
  rw [h2, hL, List.set_append_right _ _ (by omega), hl, Nat.add_sub_cancel_left, List.set_append_right _ _ (by rw [lst_len]; omega), lst_len, Nat.sub_self, List.drop_eq_getElem_cons h3, List.set_cons_zero, show lst (i + 1) (added (cutF X k) F) = lst i (added (cutF X k) F) ++ [added (cutF X k) F i] by simp [lst, List.range_succ], List.append_assoc]
  rfl
theorem part_at {X : List UInt8} {k p q : Nat} (hq : q < p) : cutF ((X.take (k + p)).drop k) 0 q = cutF X k q := by
  unfold cutF
  rw [Nat.zero_add, List.getD_eq_getElem?_getD, List.getD_eq_getElem?_getD, List.getElem?_drop, List.getElem?_take, if_pos (by omega)]
theorem not2 {x a b : Nat} (h1 : x ∉ [a]) (h2 : x ∉ [b]) : x ∉ [a, b] := fun h => by
  rcases List.mem_cons.1 h with rfl | h
  · exact h1 (by simp)
  · exact h2 h

set_option maxHeartbeats 8000000 in
theorem thraeE_c (A : Option Addr) (z : Nat) (l : List UInt8) (hk : l.length = 16 ∨ l.length = 32) (st dl o : Nat → UInt8) (g gt n c cap : Nat) (cur : Array Value) (X : List UInt8) (hB : Bk cByte cap cur X) (hn : n ≤ X.length) (hnc : n ≤ c) (hX : X.length ≤ 140737488355328) : Does Tryz.prog 44 #[(.pointer (some ⟨g, 0, none⟩)), (.slice (some ⟨gt, 0, none⟩) n c), (.func (.func 45) #[(cMk.val ((A, l.length, z), st, dl))] #[])] [bl g 78 (cWk.enc (((A, l.length, z), st, dl), o, 0)), bl gt 5 cur] (fun w => w.heap[2]? = some (.cells ((cArr 256).enc boxF) 105 (0, 0)) ∧ w.heap[4]? = some (.cells ((cArr 64).enc dbF) 104 (0, 0)) ∧ Vu cByte w A l.length z l ∧ Off A l.length [g, gt]) (fun v E' => v = .tuple #[] ∧ ∃ cu, E' = [bl g 78 (cWk.enc (((A, l.length, z), st, dl), ofE st dl o n, n / 16)), bl gt 5 cu] ∧ Bk cByte cap cu (thL (aeE l) (aeE l) st dl o (X.take n) ++ X.drop n)) := by
  refine does_ofM (fn := Tryz.f44) Tryz.func44 rfl Tryz.ntmps44 (Nat.le_of_ble_eq_true rfl) rfl ?_
  intro w0 hH hR
  have hcap := hB.le
  replace hH : HH w0 (bks ([bl g 78 (cWk.enc (((A, l.length, z), st, dl), o, 0)), bl gt 5 cur])) [[bl g 78 (cWk.enc (((A, l.length, z), st, dl), o, 0))], [bl gt 5 cur]] w0 := hH.cast (by simp)
  have hb0 : 2 ∉ (bks ([bl g 78 (cWk.enc (((A, l.length, z), st, dl), o, 0)), bl gt 5 cur])) := not2 (ne_ty hR.1 (hH.blk 0 rfl) rfl) (ne_ty hR.1 (hH.blk 1 rfl) rfl)
  have hd0 : 4 ∉ (bks ([bl g 78 (cWk.enc (((A, l.length, z), st, dl), o, 0)), bl gt 5 cur])) := not2 (ne_ty hR.2.1 (hH.blk 0 rfl) rfl) (ne_ty hR.2.1 (hH.blk 1 rfl) rfl)
  refine zr ?_
  refine zm hH (fun _ hF => smBox rfl (hF.ev 0 rfl) rfl) trivial 1 ?_
  clear hH
  rintro _ _ w ⟨g1, rfl, rfl⟩ hH
  refine zm hH (fun _ hF => smBox rfl (hF.ev 2 rfl) rfl) trivial 4 ?_
  clear hH
  rintro _ _ w ⟨g2, rfl, rfl⟩ hH
  refine zn ?_
  refine zr ?_
  refine zv .mv 4 ?_
  refine zm hH (.call Tryz.func13 (chk16_d (some ⟨gt, 0, none⟩) n c)) trivial 1 ?_
  clear hH
  rintro _ _ w ⟨B, rfl, rfl⟩ hH
  refine zn ?_
  refine cxBlock ?_
  have hH1 : HH w0 (bks ([bl g 78 (cWk.enc (((A, l.length, z), st, dl), o, 0)), bl gt 5 cur])) [[bl B 23 #[.slice (some ⟨gt, 0, none⟩) n c], bl (B + 1) 3 #[.int .i64 16]], [bl g 78 (cWk.enc (((A, l.length, z), st, dl), o, 0))], [bl gt 5 cur], [bl g1 100 #[(.pointer (some ⟨g, 0, none⟩))]], [bl g2 80 #[(.func (.func 45) #[(cMk.val ((A, l.length, z), st, dl))] #[])]]] w := HH.sel hH [4, 0, 1, 2, 3] rfl (by decide)
  have hH2 : HH w0 (bks ([bl g 78 (cWk.enc (((A, l.length, z), st, dl), o, 0)), bl gt 5 cur])) ([[bl B 23 #[.slice (some ⟨gt, 0, none⟩) n c], bl (B + 1) 3 #[.int .i64 16]]] ++ [[bl g 78 (cWk.enc (((A, l.length, z), st, dl), o, 0)), bl gt 5 cur, bl g1 100 #[(.pointer (some ⟨g, 0, none⟩))], bl g2 80 #[(.func (.func 45) #[(cMk.val ((A, l.length, z), st, dl))] #[])]]]) w := hH1.cast (by simp)
  clear hH1
  have hcB1 : Blk w B 23 #[.slice (some ⟨gt, 0, none⟩) n c] := (hH2.has 0 rfl).blk (bl B 23 #[.slice (some ⟨gt, 0, none⟩) n c]) (by simp)
  have hcB2 : Blk w (B + 1) 3 #[.int .i64 16] := (hH2.has 0 rfl).blk (bl (B + 1) 3 #[.int .i64 16]) (by simp)
  have hB1 := hcB2.lt
  clear hH
  refine cxRange (α := Pts16 n) (S := fun ys => ys.map (·.1) = List.range ((n + 15) / 16)) (N := (n + 15) / 16) (Kp := Kp16 B) (encs := fun x => pv16 gt 0 n x.1) (fun (pre : List (Pts16 n)) E => ∃ cu, E = [bl g 78 (cWk.enc (((A, l.length, z), st, dl), (flO st dl n o (pre.map (·.1))))), bl gt 5 cu, bl g1 100 #[(.pointer (some ⟨g, 0, none⟩))], bl g2 80 #[(.func (.func 45) #[(cMk.val ((A, l.length, z), st, dl))] #[])]] ∧ Bk cByte cap cu (flT (aeE l) (aeE l) st dl n o X (pre.map (·.1))))
    0 hH2 rfl (enters_of Tryz.func28 (by kernel_rfl) rfl) (chk16_stops 2 B gt 0 n c (some ⟨gt, 0, none⟩) w (by omega) (fun _ => rfl) (by omega) (by omega) hcB1 hcB2) (fun h k => h.trans k)
    (fun W l' o o' hl _ _ _ => ⟨World.putObj_heap_other (by omega), World.putObj_heap_other (by omega)⟩)
    (fun W W' h h' => ⟨(h'.blk (bl B 23 #[.slice (some ⟨gt, 0, none⟩) n c]) (by simp)).trans (h.blk (bl B 23 #[.slice (some ⟨gt, 0, none⟩) n c]) (by simp)).symm, (h'.blk (bl (B + 1) 3 #[.int .i64 16]) (by simp)).trans (h.blk (bl (B + 1) 3 #[.int .i64 16]) (by simp)).symm⟩)
    (fun x hx => by simp only [List.flatten_cons, List.flatten_nil, List.append_nil, List.mem_cons, List.not_mem_nil, or_false] at hx; rcases hx with rfl | rfl <;> rfl)
    (fun pre E ⟨_, h, _⟩ x hx => by subst h; simp only [List.mem_cons, List.not_mem_nil, or_false] at hx; rcases hx with rfl | rfl | rfl | rfl <;> rfl)
    ⟨_, rfl, hB⟩ rfl (by decide) (fun a W v h => opAssign rfl h) rfl (fun _ => rfl) rfl rfl (by decide) ?_ ?_
  rintro pre x E W lp ⟨cu, rfl, hBt⟩ hlen hH
  obtain ⟨so, hso⟩ : ∃ q, q = (flO st dl n o (pre.map (·.1))) := ⟨_, rfl⟩
  rw [← hso] at hH ⊢
  obtain ⟨X1, hX1⟩ : ∃ q, q = (flT (aeE l) (aeE l) st dl n o X (pre.map (·.1))) := ⟨_, rfl⟩
  rw [← hX1] at hBt
  have hl1 : X1.length = X.length := by rw [hX1]; exact flT_len hn _ (fun i hi => by obtain ⟨y, _, rfl⟩ := List.mem_map.1 hi; exact y.2)
  have hpl := pl_le n x.1
  have hx2 := x.2
  have hpn : 16 * x.1 + pl16 n x.1 ≤ n := by unfold pl16; omega
  have hle := hBt.le
  have hVk := hH.vu hR.2.2.1 (by decide) hR.2.2.2
  have hok : Off A l.length (bks [bl g 78 (cWk.enc (((A, l.length, z), st, dl), so)), bl gt 5 cu, bl g1 100 #[(.pointer (some ⟨g, 0, none⟩))], bl g2 80 #[(.func (.func 45) #[(cMk.val ((A, l.length, z), st, dl))] #[])]]) := hH.off 1 rfl hR.2.2.1 (by decide) hR.2.2.2
  have hbx := hH.oldBlk hR.1 hb0
  have hbn := hH.freshR 1 rfl (blk_lt hR.1) hb0
  have hdb := hH.oldBlk hR.2.1 hd0
  have hdn := hH.freshR 1 rfl (blk_lt hR.2.1) hd0
  have hcnt : so.2 < 9223372036854775807 := by have h := flO_le (st := st) (dl := dl) (o := o) (n := n) (pre.map (·.1)); rw [List.length_map, ← hso] at h; omega
  replace hH : HH W (bks [bl g 78 (cWk.enc (((A, l.length, z), st, dl), so)), bl gt 5 cu, bl g1 100 #[(.pointer (some ⟨g, 0, none⟩))], bl g2 80 #[(.func (.func 45) #[(cMk.val ((A, l.length, z), st, dl))] #[])]]) [[bl g 78 (cWk.enc (((A, l.length, z), st, dl), so))], [bl gt 5 cu], [bl g1 100 #[(.pointer (some ⟨g, 0, none⟩))]], [bl g2 80 #[(.func (.func 45) #[(cMk.val ((A, l.length, z), st, dl))] #[])]]] W := ((hH.has 1 rfl).start).cast (by simp)
  clear hH2 hcB1 hcB2 hB1
  obtain ⟨w0, rfl⟩ : ∃ u, u = W := ⟨_, rfl⟩
  show CXi lp _ _ _ ⟨61, []⟩ [(6, (.slice (some ⟨gt, 0 + 16 * x.1, none⟩) (pl16 n x.1) (pl16 n x.1))), (11, (.func (.func 28) #[] #[(.pointer (some ⟨B, 0, none⟩)), (.pointer (some ⟨(B + 1), 0, none⟩))])), (5, (.pointer (some ⟨g2, 0, none⟩))), (3, (.pointer (some ⟨g1, 0, none⟩)))] _
  rw [show 0 + 16 * x.1 = 0 + 16 * x.1 * 1 by omega]
  refine cxBlockI ?_
  refine zrI ?_
  refine zs (hH.q 2 rfl) .lc 2 ?_
  refine zv .mv 0 ?_
  refine ze 0 hH rfl (.call Tryz.func63 (goto_c g (A, l.length, z) st dl so hcnt (some ⟨gt, 0 + 16 * x.1 * 1, none⟩) n x.1 (pl16 n x.1))) (hH.oldBlk hdb hdn) 3 ?_
  clear hH
  rintro _ _ w ⟨rfl, rfl⟩ hH
  refine znI ?_
  refine cxSeqI ?_
  refine zrI ?_
  refine zv .mv 1 ?_
  refine zv .len 1 ?_
  refine zv (.lt ((pl16 n x.1) < 16)) 1 ?_
  refine znI ?_
  refine zPI (fun hc3 => ?_) (fun hc3 => ?_)
  refine zxI ?_
  replace hH := hH.drew
  refine rxPg 0 [ldv 0 19 [] [] [1002] fun G => (.pointer (some ⟨g, 0, none⟩)), pv 1 20 [0] [] fun G => (.pointer (some ⟨g, 0, none⟩)), pv 2 21 [1] [] fun G => (.pointer (some ⟨g, 0, none⟩)), ldv 3 22 [2] [] [1000] fun G => (cMk.val ((A, l.length, z), st, dl)), ldv 4 23 [] [] [1002] fun G => (.pointer (some ⟨g, 0, none⟩)), pv 5 24 [4] [] fun G => (.pointer (some ⟨g, 0, none⟩)), pv 6 25 [5] [] fun G => (.pointer (some ⟨g, 33, none⟩)), ldv 7 26 [6] [] [1000] fun G => ((cArr 16).val ((nxO st dl n so x.1).1)), pv 8 27 [3, 7] [] fun G => ((cArr 16).val (aeE l ((nxO st dl n so x.1).1))), alv 9 7 [] [] fun G g => [bl g 61 ((cArr 16).enc (fun _ => 0))], stv 10 [8, 9] [9] 9 fun G => [bl (G 9).g 61 ((cArr 16).enc (aeE l ((nxO st dl n so x.1).1)))]] (fun G => [(7, (.pointer (some ⟨(G 9).g, 0, none⟩))), (6, (.slice (some ⟨gt, 0 + 16 * x.1 * 1, none⟩) (pl16 n x.1) (pl16 n x.1)))]) (fun G => [[bl g 78 (cWk.enc (((A, l.length, z), st, dl), nxO st dl n so x.1))], [bl gt 5 cu], [bl g1 100 #[(.pointer (some ⟨g, 0, none⟩))]], [bl g2 80 #[(.func (.func 45) #[(cMk.val ((A, l.length, z), st, dl))] #[])]], [bl (G 9).g 61 ((cArr 16).enc (aeE l ((nxO st dl n so x.1).1)))]]) hH (.c (.ld (fun G _ _ hH => (hH.q 0 rfl)) fun G => .lc) <| .c (.v fun G => .nc) <| .c (.v fun G => (.fld 0)) <| .c (.ld (fun G _ _ hH => (hH.q 0 rfl)) fun G => (.ld cMk ((A, l.length, z), st, dl) (fun _ hS => (holds_blk0 hS).fst))) <| .c (.ld (fun G _ _ hH => (hH.q 0 rfl)) fun G => .lc) <| .c (.v fun G => .nc) <| .c (.v fun G => (.fld 33)) <| .c (.ld (fun G _ _ hH => (hH.q 0 rfl)) fun G => (.ld (cArr 16) ((nxO st dl n so x.1).1) (fun _ hS => ((holds_blk0 hS).snd).fst))) <| .c (Sp.cr Tryz.func45 (fun G => (maeE_c A z l hk st dl ((nxO st dl n so x.1).1))) fun _ _ hH => ⟨(hH.oldBlk hbx hbn), (hH.vu hVk (by decide) hok)⟩) <| .c (.a (fun _ _ _ _ => trivial) (fun G => (.al (cArr 16) (fun _ => 0))) fun _ _ _ h => h) <| .c (.tn (fun G => (.sw (cArr 16) (fun _ => 0) (aeE l ((nxO st dl n so x.1).1)))) (fun _ _ _ _ => trivial) fun _ _ _ h => h) <| .nil) ?_
  clear hH
  rintro G w - hH
  revert hH
  generalize (G 9).g = g4
  intro hH
  refine rnI ?_
  refine cxSeqI ?_
  refine zrI ?_
  refine zv .mv 0 ?_
  refine zv .len 1 ?_
  refine zv .mv 0 ?_
  refine znI ?_
  refine cxBlockI ?_
  refine zL3I (fun (i : Nat) (_ : List UInt8) (_ : Array Value) => [(30, (.int .i64 (((i) : Nat) : Int))), (29, (.int .i64 ((((pl16 n x.1)) : Nat) : Int))), (7, (.pointer (some ⟨g4, 0, none⟩))), (6, (.slice (some ⟨gt, 0 + 16 * x.1 * 1, none⟩) (pl16 n x.1) (pl16 n x.1)))]) (fun i L cur' w => HH w0 (bks [bl g 78 (cWk.enc (((A, l.length, z), st, dl), so)), bl gt 5 cu, bl g1 100 #[(.pointer (some ⟨g, 0, none⟩))], bl g2 80 #[(.func (.func 45) #[(cMk.val ((A, l.length, z), st, dl))] #[])]]) [[bl g 78 (cWk.enc (((A, l.length, z), st, dl), nxO st dl n so x.1))], [bl gt 5 cur'], [bl g1 100 #[(.pointer (some ⟨g, 0, none⟩))]], [bl g2 80 #[(.func (.func 45) #[(cMk.val ((A, l.length, z), st, dl))] #[])]], [bl g4 61 ((cArr 16).enc (aeE l ((nxO st dl n so x.1).1)))]] w ∧ (i ≤ pl16 n x.1) ∧ (Bk cByte cap cur' L) ∧ (L.length = X.length) ∧ (L = X1.take (16 * x.1) ++ (lst i (added (cutF X1 (16 * x.1)) (aeE l (nxO st dl n so x.1).1)) ++ X1.drop (16 * x.1 + i)))) (fun i _ _ => pl16 n x.1 - i) 0 X1 cu ⟨hH, (Nat.zero_le _), hBt, hl1, (by rw [Nat.add_zero]; exact (List.take_append_drop _ _).symm)⟩ ?_
  clear hH
  rintro i L cur' w ⟨hH, hi, hB', hLl, hL⟩
  refine zrI ?_
  refine zv (.lt (i < (pl16 n x.1))) 0 ?_
  refine znI ?_
  refine cxSeqI ?_
  refine zPI (fun hc5 => ?_) (fun hc5 => ?_)
  refine cxSkipI ?_
  refine qxThenI ?_
  refine cxSeqI ?_
  refine cxBlockI ?_
  refine zrI ?_
  refine zv .mv 1 ?_
  refine zv .mv 1 ?_
  refine znI ?_
  refine cxRegXI ?_
  replace hH := hH.drew
  refine rv 0 .mv 0 ?_
  refine rv 1 .mv 0 ?_
  have hi6 : i < (pl16 n x.1) := by omega
  have hj9 : i < ((L.take (16 * x.1 + pl16 n x.1)).drop (16 * x.1)).length := by first | exact hi6 | (simp only [List.length_drop]; omega) | (simp only [List.length_drop, List.length_take]; omega) | omega
  obtain ⟨x7, hx8⟩ := get_at ((L.take (16 * x.1 + pl16 n x.1)).drop (16 * x.1)) i hj9
  have hb10 := UInt8.toNat_lt x7
  refine rv 2 (.ix 1 i (hi := hi6)) 0 ?_
  refine rld 3 (hH.q 1 rfl) (.ld cByte x7 (fun _ hS => (((hB'.holdsL hS).cut (16 * x.1) (16 * x.1 + pl16 n x.1)) i _ hx8))) 1 ?_
  refine rv 4 .mv 8 ?_
  have hi11 : i < 16 := by omega
  refine rv 5 (.ia 1 16 i (hi := hi11)) 1 ?_
  refine rld 6 (hH.q 4 rfl) (.ld cByte ((aeE l ((nxO st dl n so x.1).1)) i) (fun _ hS => ((holds_blk0 hS).elt hi11))) 1 ?_
  refine rv 7 (.xb (x7 ^^^ ((aeE l ((nxO st dl n so x.1).1)) i)) (u := x7) (v := ((aeE l ((nxO st dl n so x.1).1)) i))) 3 ?_
  have hi12 : i < (pl16 n x.1) := by omega
  have hj15 : i < ((L.take (16 * x.1 + pl16 n x.1)).drop (16 * x.1)).length := by first | exact hi12 | (simp only [List.length_drop]; omega) | (simp only [List.length_drop, List.length_take]; omega) | omega
  obtain ⟨x13, hx14⟩ := get_at ((L.take (16 * x.1 + pl16 n x.1)).drop (16 * x.1)) i hj15
  have hb16 := UInt8.toNat_lt x13
  refine rv 8 (.ix 1 i (hi := hi12)) 6 ?_
  have hk20 : (16 * x.1) + i < L.length := by omega
  obtain ⟨cur18, hcs19, hB17⟩ : ∃ cs, putL cur' (0 + (16 * x.1) * 1 + i * 1) (cByte.enc (x7 ^^^ ((aeE l ((nxO st dl n so x.1).1)) i))).toList = cs ∧ Bk cByte cap cs (L.set ((16 * x.1) + i) (x7 ^^^ ((aeE l ((nxO st dl n so x.1).1)) i))) := ⟨_, rfl, put_from hB' (16 * x.1) i hk20 (x7 ^^^ ((aeE l ((nxO st dl n so x.1).1)) i))⟩
  refine rx1k 9 ?_
  refine re0 9 1 hH rfl (fun _ hF => smStoreT (C := cByte) (z := (x7 ^^^ ((aeE l ((nxO st dl n so x.1).1)) i))) rfl (hF.ev 0 rfl) (hF.ev 1 rfl) rfl (by kernel_rfl) (room_from hB' hk20) hcs19) trivial (pgo [] (pgo [] (.nil _ []))) ?_
  clear hH
  rintro _ _ w rfl hH
  refine ⟨pnil, ?_⟩
  refine rxEndI (by kernel_rfl) ?_
  refine qxInN ?_
  refine qxThenI ?_
  refine cxRegI ?_
  refine zv (.add ((i + 1 : Nat) : Int)) 7 ?_
  refine zv .mv 1 ?_
  refine pxEndI ?_
  exact zR3 (i + 1) (L.set ((16 * x.1) + i) (x7 ^^^ ((aeE l ((nxO st dl n so x.1).1)) i))) cur18 ⟨hH, (by omega), hB17, (by rw [List.length_set]; exact hLl), (rst_step hL (p := pl16 n x.1) (by omega) (by omega) hx8)⟩ (by omega)
  refine cxExitI ?_
  refine qxThenE ?_
  refine qxThenE ?_
  refine qxInE ?_
  refine qxThenI ?_
  refine cxExitI ?_
  refine qxThenE ?_
  refine qxInE ?_
  replace hH : HH w0 (bks [bl g 78 (cWk.enc (((A, l.length, z), st, dl), so)), bl gt 5 cu, bl g1 100 #[(.pointer (some ⟨g, 0, none⟩))], bl g2 80 #[(.func (.func 45) #[(cMk.val ((A, l.length, z), st, dl))] #[])]]) [[bl g 78 (cWk.enc (((A, l.length, z), st, dl), nxO st dl n so x.1))], [bl gt 5 cur'], [bl g1 100 #[(.pointer (some ⟨g, 0, none⟩))]], [bl g2 80 #[(.func (.func 45) #[(cMk.val ((A, l.length, z), st, dl))] #[])]]] w := hH.only [true, true, true, true, false]
  have e1 : (nxO st dl n so x.1) = (flO st dl n o ((pre ++ [x]).map (·.1))) := by rw [List.map_append, List.map_cons, List.map_nil, flO_snoc, hso]
  rw [e1] at hH
  have e2 : L = (flT (aeE l) (aeE l) st dl n o X ((pre ++ [x]).map (·.1))) := by
    have e3 := e1; rw [List.map_append, List.map_cons, List.map_nil] at e3; rw [List.map_append, List.map_cons, List.map_nil, flT_snoc, ← hX1, ← e3]
    rw [hL]; unfold nxT; rw [if_pos hc3, show i = pl16 n x.1 by omega]
  exact fun _ _ => ⟨_, ⟨_, rfl, e2 ▸ hB'⟩, by simpa [HH] using hH⟩
  refine cxSkipI ?_
  refine qxThenI ?_
  refine zxI ?_
  replace hH := hH.drew
  refine rxPg 0 [ldv 0 43 [] [] [1003] fun G => (.func (.func 45) #[(cMk.val ((A, l.length, z), st, dl))] #[]), pv 1 44 [] [] fun G => (.slice (some ⟨gt, 0 + 16 * x.1 * 1, none⟩) (pl16 n x.1) (pl16 n x.1)), pv 2 45 [1] [] fun G => (.pointer (some ⟨gt, 0 + 16 * x.1 * 1, none⟩)), ldv 3 46 [2] [] [1001] fun G => ((cArr 16).val (cutF ((X1.take (16 * x.1 + pl16 n x.1)).drop (16 * x.1)) 0)), ldv 4 47 [] [] [1002] fun G => (.pointer (some ⟨g, 0, none⟩)), pv 5 48 [4] [] fun G => (.pointer (some ⟨g, 0, none⟩)), pv 6 49 [5] [] fun G => (.pointer (some ⟨g, 33, none⟩)), ldv 7 50 [6] [] [1000] fun G => ((cArr 16).val ((nxO st dl n so x.1).1)), pv 8 51 [3, 7] [] fun G => ((cArr 16).val (added (cutF ((X1.take (16 * x.1 + pl16 n x.1)).drop (16 * x.1)) 0) ((nxO st dl n so x.1).1))), pv 9 52 [0, 8] [] fun G => ((cArr 16).val (aeE l (added (cutF ((X1.take (16 * x.1 + pl16 n x.1)).drop (16 * x.1)) 0) ((nxO st dl n so x.1).1)))), ldv 10 53 [] [] [1002] fun G => (.pointer (some ⟨g, 0, none⟩)), pv 11 54 [10] [] fun G => (.pointer (some ⟨g, 0, none⟩)), pv 12 55 [11] [] fun G => (.pointer (some ⟨g, 33, none⟩)), ldv 13 56 [12] [] [1000] fun G => ((cArr 16).val ((nxO st dl n so x.1).1)), pv 14 57 [9, 13] [] fun G => ((cArr 16).val (added (aeE l (added (cutF ((X1.take (16 * x.1 + pl16 n x.1)).drop (16 * x.1)) 0) ((nxO st dl n so x.1).1))) ((nxO st dl n so x.1).1))), alv 15 9 [] [] fun G g => [bl g 61 ((cArr 16).enc (fun _ => 0))], stv 16 [14, 15] [15] 15 fun G => [bl (G 15).g 61 ((cArr 16).enc (added (aeE l (added (cutF ((X1.take (16 * x.1 + pl16 n x.1)).drop (16 * x.1)) 0) ((nxO st dl n so x.1).1))) ((nxO st dl n so x.1).1)))]] (fun G => [(9, (.pointer (some ⟨(G 15).g, 0, none⟩))), (6, (.slice (some ⟨gt, 0 + 16 * x.1 * 1, none⟩) (pl16 n x.1) (pl16 n x.1)))]) (fun G => [[bl g 78 (cWk.enc (((A, l.length, z), st, dl), nxO st dl n so x.1))], [bl gt 5 cu], [bl g1 100 #[(.pointer (some ⟨g, 0, none⟩))]], [bl g2 80 #[(.func (.func 45) #[(cMk.val ((A, l.length, z), st, dl))] #[])]], [bl (G 15).g 61 ((cArr 16).enc (added (aeE l (added (cutF ((X1.take (16 * x.1 + pl16 n x.1)).drop (16 * x.1)) 0) ((nxO st dl n so x.1).1))) ((nxO st dl n so x.1).1)))]]) hH (.c (.ld (fun G _ _ hH => (hH.q 0 rfl)) fun G => .lc) <| .c (.v fun G => .mv) <| .c (.v fun G => (fun _ _ hF => opToArray (m := 16) (e := 5) rfl (by kernel_rfl) (hF.ev 0 rfl) (by omega))) <| .c (.ld (fun G _ _ hH => (hH.q 0 rfl)) fun G => (.ld (cArr 16) (cutF ((X1.take (16 * x.1 + pl16 n x.1)).drop (16 * x.1)) 0) (fun _ hS => (((hBt.holdsL hS).cut (16 * x.1) (16 * x.1 + pl16 n x.1)).arr 0 16 (by first | omega | (rw [lst_len]; omega) | (simp only [List.length_drop, List.length_take]; omega) | (simp only [List.length_drop, List.length_take, lst_len]; omega)))))) <| .c (.ld (fun G _ _ hH => (hH.q 0 rfl)) fun G => .lc) <| .c (.v fun G => .nc) <| .c (.v fun G => (.fld 33)) <| .c (.ld (fun G _ _ hH => (hH.q 0 rfl)) fun G => (.ld (cArr 16) ((nxO st dl n so x.1).1) (fun _ hS => ((holds_blk0 hS).snd).fst))) <| .c (Sp.c Tryz.func64 (fun G => (xor_c (cutF ((X1.take (16 * x.1 + pl16 n x.1)).drop (16 * x.1)) 0) ((nxO st dl n so x.1).1))) fun _ => trivial) <| .c (Sp.cb (cp := [(cMk.val ((A, l.length, z), st, dl))]) Tryz.func45 (fun G => (maeE_c A z l hk st dl (added (cutF ((X1.take (16 * x.1 + pl16 n x.1)).drop (16 * x.1)) 0) ((nxO st dl n so x.1).1)))) fun _ _ hH => ⟨(hH.oldBlk hbx hbn), (hH.vu hVk (by decide) hok)⟩) <| .c (.ld (fun G _ _ hH => (hH.q 0 rfl)) fun G => .lc) <| .c (.v fun G => .nc) <| .c (.v fun G => (.fld 33)) <| .c (.ld (fun G _ _ hH => (hH.q 0 rfl)) fun G => (.ld (cArr 16) ((nxO st dl n so x.1).1) (fun _ hS => ((holds_blk0 hS).snd).fst))) <| .c (Sp.c Tryz.func64 (fun G => (xor_c (aeE l (added (cutF ((X1.take (16 * x.1 + pl16 n x.1)).drop (16 * x.1)) 0) ((nxO st dl n so x.1).1))) ((nxO st dl n so x.1).1))) fun _ => trivial) <| .c (.a (fun _ _ _ _ => trivial) (fun G => (.al (cArr 16) (fun _ => 0))) fun _ _ _ h => h) <| .c (.tn (fun G => (.sw (cArr 16) (fun _ => 0) (added (aeE l (added (cutF ((X1.take (16 * x.1 + pl16 n x.1)).drop (16 * x.1)) 0) ((nxO st dl n so x.1).1))) ((nxO st dl n so x.1).1)))) (fun _ _ _ _ => trivial) fun _ _ _ h => h) <| .nil) ?_
  clear hH
  rintro G w - hH
  revert hH
  generalize (G 15).g = g21
  intro hH
  refine rnI ?_
  have hs1 : cByte.sz = 1 := rfl
  have hcz : cu.size = cap * 1 := hBt.size
  have hll : (lst 16 (added (aeE l (added (cutF ((X1.take (16 * x.1 + pl16 n x.1)).drop (16 * x.1)) 0) ((nxO st dl n so x.1).1))) ((nxO st dl n so x.1).1))).length = 16 := lst_len _ _
  refine cxRegI ?_
  refine zv .mv 2 ?_
  refine zv (v := (.slice (some ⟨g21, 0, none⟩) 16 16)) (fun _ _ hF => opSliceA (n := 16) (e := 5) (sz := 1) rfl (by kernel_rfl) (by kernel_rfl) (hF.ev 1 rfl)) 2 ?_
  obtain ⟨cur23, hcs24, hB22⟩ : ∃ cs, putL cu (0 + 16 * x.1 * 1) (flat cByte (lst 16 (added (aeE l (added (cutF ((X1.take (16 * x.1 + pl16 n x.1)).drop (16 * x.1)) 0) ((nxO st dl n so x.1).1))) ((nxO st dl n so x.1).1)))) = cs ∧ Bk cByte cap cs (X1.take (16 * x.1) ++ ((lst 16 (added (aeE l (added (cutF ((X1.take (16 * x.1 + pl16 n x.1)).drop (16 * x.1)) 0) ((nxO st dl n so x.1).1))) ((nxO st dl n so x.1).1))) ++ X1.drop (16 * x.1 + (lst 16 (added (aeE l (added (cutF ((X1.take (16 * x.1 + pl16 n x.1)).drop (16 * x.1)) 0) ((nxO st dl n so x.1).1))) ((nxO st dl n so x.1).1))).length))) := ⟨_, rfl, hBt.copy (16 * x.1) (lst 16 (added (aeE l (added (cutF ((X1.take (16 * x.1 + pl16 n x.1)).drop (16 * x.1)) 0) ((nxO st dl n so x.1).1))) ((nxO st dl n so x.1).1))) (by omega)⟩
  refine ze 1 hH rfl (fun _ hF => smCopyT (C := cByte) (m := (lst 16 (added (aeE l (added (cutF ((X1.take (16 * x.1 + pl16 n x.1)).drop (16 * x.1)) 0) ((nxO st dl n so x.1).1))) ((nxO st dl n so x.1).1)))) (e := 5) rfl (by kernel_rfl) (by kernel_rfl) (ltb rfl) (hF.ev 1 rfl) (hF.ev 0 rfl) (by omega) rfl (by omega) hcs24) (vu_arr (hH.blk 4 rfl)) 3 ?_
  clear hH
  rintro _ _ w ⟨rfl, rfl⟩ hH
  refine pxEndI ?_
  refine qxInN ?_
  replace hH : HH w0 (bks [bl g 78 (cWk.enc (((A, l.length, z), st, dl), so)), bl gt 5 cu, bl g1 100 #[(.pointer (some ⟨g, 0, none⟩))], bl g2 80 #[(.func (.func 45) #[(cMk.val ((A, l.length, z), st, dl))] #[])]]) [[bl g 78 (cWk.enc (((A, l.length, z), st, dl), nxO st dl n so x.1))], [bl gt 5 cur23], [bl g1 100 #[(.pointer (some ⟨g, 0, none⟩))]], [bl g2 80 #[(.func (.func 45) #[(cMk.val ((A, l.length, z), st, dl))] #[])]]] w := hH.only [true, true, true, true, false]
  have e1 : (nxO st dl n so x.1) = (flO st dl n o ((pre ++ [x]).map (·.1))) := by rw [List.map_append, List.map_cons, List.map_nil, flO_snoc, hso]
  rw [e1] at hH
  have e2 : (X1.take (16 * x.1) ++ ((lst 16 (added (aeE l (added (cutF ((X1.take (16 * x.1 + pl16 n x.1)).drop (16 * x.1)) 0) ((nxO st dl n so x.1).1))) ((nxO st dl n so x.1).1))) ++ X1.drop (16 * x.1 + (lst 16 (added (aeE l (added (cutF ((X1.take (16 * x.1 + pl16 n x.1)).drop (16 * x.1)) 0) ((nxO st dl n so x.1).1))) ((nxO st dl n so x.1).1))).length))) = (flT (aeE l) (aeE l) st dl n o X ((pre ++ [x]).map (·.1))) := by
    have e3 := e1; rw [List.map_append, List.map_cons, List.map_nil] at e3; rw [List.map_append, List.map_cons, List.map_nil, flT_snoc, ← hX1, ← e3]
    unfold nxT; rw [if_neg hc3, lst_len]; refine congrArg (X1.take (16 * x.1) ++ ·) (congrArg (· ++ X1.drop (16 * x.1 + 16)) (lst_congr fun j hj => ?_))
    exact wb_E16 (fun x y h => aeE_E16 l (by unfold aeR; omega) h) (fun q hq => part_at (by omega)) j hj
  exact fun _ _ => ⟨_, ⟨_, rfl, e2 ▸ hB22⟩, by simpa [HH] using hH⟩
  rintro xs E D w hxs ⟨cu, rfl, hBt⟩ hH
  replace hH : HH w0 (bks ([bl g 78 (cWk.enc (((A, l.length, z), st, dl), o, 0)), bl gt 5 cur])) [[bl B 23 #[.slice (some ⟨gt, 0, none⟩) n c], bl (B + 1) 3 #[.int .i64 16]], [bl g 78 (cWk.enc (((A, l.length, z), st, dl), (flO st dl n o (xs.map (·.1)))))], [bl gt 5 cu], [bl g1 100 #[(.pointer (some ⟨g, 0, none⟩))]], [bl g2 80 #[(.func (.func 45) #[(cMk.val ((A, l.length, z), st, dl))] #[])]], [(D, .deferred (some []))]] w := hH.cast (by simp)
  clear hH2 hcB1 hcB2 hB1
  rw [hxs, flO_all] at hH
  rw [hxs, flT_all (fun x y h => aeE_E16 l (by unfold aeR; omega) h) hn] at hBt
  refine qxInN ?_
  refine qxDEnd0 5 hH rfl rfl (fun w hH => ?_)
  exact ⟨_, _, rfl, ⟨rfl, _, rfl, hBt⟩, hH.out [false, true, true, false, false, false]⟩

set_option maxHeartbeats 8000000 in
theorem thraeD_c (A : Option Addr) (z : Nat) (l : List UInt8) (hk : l.length = 16 ∨ l.length = 32) (st dl o : Nat → UInt8) (g gt n c cap : Nat) (cur : Array Value) (X : List UInt8) (hB : Bk cByte cap cur X) (hn : n ≤ X.length) (hnc : n ≤ c) (hX : X.length ≤ 140737488355328) : Does Tryz.prog 44 #[(.pointer (some ⟨g, 0, none⟩)), (.slice (some ⟨gt, 0, none⟩) n c), (.func (.func 73) #[(cMk.val ((A, l.length, z), st, dl))] #[])] [bl g 78 (cWk.enc (((A, l.length, z), st, dl), o, 0)), bl gt 5 cur] (fun w => w.heap[2]? = some (.cells ((cArr 256).enc boxF) 105 (0, 0)) ∧ w.heap[4]? = some (.cells ((cArr 64).enc dbF) 104 (0, 0)) ∧ Vu cByte w A l.length z l ∧ Off A l.length [g, gt]) (fun v E' => v = .tuple #[] ∧ ∃ cu, E' = [bl g 78 (cWk.enc (((A, l.length, z), st, dl), ofE st dl o n, n / 16)), bl gt 5 cu] ∧ Bk cByte cap cu (thL (aeD l) (aeE l) st dl o (X.take n) ++ X.drop n)) := by
  refine does_ofM (fn := Tryz.f44) Tryz.func44 rfl Tryz.ntmps44 (Nat.le_of_ble_eq_true rfl) rfl ?_
  intro w0 hH hR
  have hcap := hB.le
  replace hH : HH w0 (bks ([bl g 78 (cWk.enc (((A, l.length, z), st, dl), o, 0)), bl gt 5 cur])) [[bl g 78 (cWk.enc (((A, l.length, z), st, dl), o, 0))], [bl gt 5 cur]] w0 := hH.cast (by simp)
  have hb0 : 2 ∉ (bks ([bl g 78 (cWk.enc (((A, l.length, z), st, dl), o, 0)), bl gt 5 cur])) := not2 (ne_ty hR.1 (hH.blk 0 rfl) rfl) (ne_ty hR.1 (hH.blk 1 rfl) rfl)
  have hd0 : 4 ∉ (bks ([bl g 78 (cWk.enc (((A, l.length, z), st, dl), o, 0)), bl gt 5 cur])) := not2 (ne_ty hR.2.1 (hH.blk 0 rfl) rfl) (ne_ty hR.2.1 (hH.blk 1 rfl) rfl)
  refine zr ?_
  refine zm hH (fun _ hF => smBox rfl (hF.ev 0 rfl) rfl) trivial 1 ?_
  clear hH
  rintro _ _ w ⟨g1, rfl, rfl⟩ hH
  refine zm hH (fun _ hF => smBox rfl (hF.ev 2 rfl) rfl) trivial 4 ?_
  clear hH
  rintro _ _ w ⟨g2, rfl, rfl⟩ hH
  refine zn ?_
  refine zr ?_
  refine zv .mv 4 ?_
  refine zm hH (.call Tryz.func13 (chk16_d (some ⟨gt, 0, none⟩) n c)) trivial 1 ?_
  clear hH
  rintro _ _ w ⟨B, rfl, rfl⟩ hH
  refine zn ?_
  refine cxBlock ?_
  have hH1 : HH w0 (bks ([bl g 78 (cWk.enc (((A, l.length, z), st, dl), o, 0)), bl gt 5 cur])) [[bl B 23 #[.slice (some ⟨gt, 0, none⟩) n c], bl (B + 1) 3 #[.int .i64 16]], [bl g 78 (cWk.enc (((A, l.length, z), st, dl), o, 0))], [bl gt 5 cur], [bl g1 100 #[(.pointer (some ⟨g, 0, none⟩))]], [bl g2 80 #[(.func (.func 73) #[(cMk.val ((A, l.length, z), st, dl))] #[])]]] w := HH.sel hH [4, 0, 1, 2, 3] rfl (by decide)
  have hH2 : HH w0 (bks ([bl g 78 (cWk.enc (((A, l.length, z), st, dl), o, 0)), bl gt 5 cur])) ([[bl B 23 #[.slice (some ⟨gt, 0, none⟩) n c], bl (B + 1) 3 #[.int .i64 16]]] ++ [[bl g 78 (cWk.enc (((A, l.length, z), st, dl), o, 0)), bl gt 5 cur, bl g1 100 #[(.pointer (some ⟨g, 0, none⟩))], bl g2 80 #[(.func (.func 73) #[(cMk.val ((A, l.length, z), st, dl))] #[])]]]) w := hH1.cast (by simp)
  clear hH1
  have hcB1 : Blk w B 23 #[.slice (some ⟨gt, 0, none⟩) n c] := (hH2.has 0 rfl).blk (bl B 23 #[.slice (some ⟨gt, 0, none⟩) n c]) (by simp)
  have hcB2 : Blk w (B + 1) 3 #[.int .i64 16] := (hH2.has 0 rfl).blk (bl (B + 1) 3 #[.int .i64 16]) (by simp)
  have hB1 := hcB2.lt
  clear hH
  refine cxRange (α := Pts16 n) (S := fun ys => ys.map (·.1) = List.range ((n + 15) / 16)) (N := (n + 15) / 16) (Kp := Kp16 B) (encs := fun x => pv16 gt 0 n x.1) (fun (pre : List (Pts16 n)) E => ∃ cu, E = [bl g 78 (cWk.enc (((A, l.length, z), st, dl), (flO st dl n o (pre.map (·.1))))), bl gt 5 cu, bl g1 100 #[(.pointer (some ⟨g, 0, none⟩))], bl g2 80 #[(.func (.func 73) #[(cMk.val ((A, l.length, z), st, dl))] #[])]] ∧ Bk cByte cap cu (flT (aeD l) (aeE l) st dl n o X (pre.map (·.1))))
    0 hH2 rfl (enters_of Tryz.func28 (by kernel_rfl) rfl) (chk16_stops 2 B gt 0 n c (some ⟨gt, 0, none⟩) w (by omega) (fun _ => rfl) (by omega) (by omega) hcB1 hcB2) (fun h k => h.trans k)
    (fun W l' o o' hl _ _ _ => ⟨World.putObj_heap_other (by omega), World.putObj_heap_other (by omega)⟩)
    (fun W W' h h' => ⟨(h'.blk (bl B 23 #[.slice (some ⟨gt, 0, none⟩) n c]) (by simp)).trans (h.blk (bl B 23 #[.slice (some ⟨gt, 0, none⟩) n c]) (by simp)).symm, (h'.blk (bl (B + 1) 3 #[.int .i64 16]) (by simp)).trans (h.blk (bl (B + 1) 3 #[.int .i64 16]) (by simp)).symm⟩)
    (fun x hx => by simp only [List.flatten_cons, List.flatten_nil, List.append_nil, List.mem_cons, List.not_mem_nil, or_false] at hx; rcases hx with rfl | rfl <;> rfl)
    (fun pre E ⟨_, h, _⟩ x hx => by subst h; simp only [List.mem_cons, List.not_mem_nil, or_false] at hx; rcases hx with rfl | rfl | rfl | rfl <;> rfl)
    ⟨_, rfl, hB⟩ rfl (by decide) (fun a W v h => opAssign rfl h) rfl (fun _ => rfl) rfl rfl (by decide) ?_ ?_
  rintro pre x E W lp ⟨cu, rfl, hBt⟩ hlen hH
  obtain ⟨so, hso⟩ : ∃ q, q = (flO st dl n o (pre.map (·.1))) := ⟨_, rfl⟩
  rw [← hso] at hH ⊢
  obtain ⟨X1, hX1⟩ : ∃ q, q = (flT (aeD l) (aeE l) st dl n o X (pre.map (·.1))) := ⟨_, rfl⟩
  rw [← hX1] at hBt
  have hl1 : X1.length = X.length := by rw [hX1]; exact flT_len hn _ (fun i hi => by obtain ⟨y, _, rfl⟩ := List.mem_map.1 hi; exact y.2)
  have hpl := pl_le n x.1
  have hx2 := x.2
  have hpn : 16 * x.1 + pl16 n x.1 ≤ n := by unfold pl16; omega
  have hle := hBt.le
  have hVk := hH.vu hR.2.2.1 (by decide) hR.2.2.2
  have hok : Off A l.length (bks [bl g 78 (cWk.enc (((A, l.length, z), st, dl), so)), bl gt 5 cu, bl g1 100 #[(.pointer (some ⟨g, 0, none⟩))], bl g2 80 #[(.func (.func 73) #[(cMk.val ((A, l.length, z), st, dl))] #[])]]) := hH.off 1 rfl hR.2.2.1 (by decide) hR.2.2.2
  have hbx := hH.oldBlk hR.1 hb0
  have hbn := hH.freshR 1 rfl (blk_lt hR.1) hb0
  have hdb := hH.oldBlk hR.2.1 hd0
  have hdn := hH.freshR 1 rfl (blk_lt hR.2.1) hd0
  have hcnt : so.2 < 9223372036854775807 := by have h := flO_le (st := st) (dl := dl) (o := o) (n := n) (pre.map (·.1)); rw [List.length_map, ← hso] at h; omega
  replace hH : HH W (bks [bl g 78 (cWk.enc (((A, l.length, z), st, dl), so)), bl gt 5 cu, bl g1 100 #[(.pointer (some ⟨g, 0, none⟩))], bl g2 80 #[(.func (.func 73) #[(cMk.val ((A, l.length, z), st, dl))] #[])]]) [[bl g 78 (cWk.enc (((A, l.length, z), st, dl), so))], [bl gt 5 cu], [bl g1 100 #[(.pointer (some ⟨g, 0, none⟩))]], [bl g2 80 #[(.func (.func 73) #[(cMk.val ((A, l.length, z), st, dl))] #[])]]] W := ((hH.has 1 rfl).start).cast (by simp)
  clear hH2 hcB1 hcB2 hB1
  obtain ⟨w0, rfl⟩ : ∃ u, u = W := ⟨_, rfl⟩
  show CXi lp _ _ _ ⟨61, []⟩ [(6, (.slice (some ⟨gt, 0 + 16 * x.1, none⟩) (pl16 n x.1) (pl16 n x.1))), (11, (.func (.func 28) #[] #[(.pointer (some ⟨B, 0, none⟩)), (.pointer (some ⟨(B + 1), 0, none⟩))])), (5, (.pointer (some ⟨g2, 0, none⟩))), (3, (.pointer (some ⟨g1, 0, none⟩)))] _
  rw [show 0 + 16 * x.1 = 0 + 16 * x.1 * 1 by omega]
  refine cxBlockI ?_
  refine zrI ?_
  refine zs (hH.q 2 rfl) .lc 2 ?_
  refine zv .mv 0 ?_
  refine ze 0 hH rfl (.call Tryz.func63 (goto_c g (A, l.length, z) st dl so hcnt (some ⟨gt, 0 + 16 * x.1 * 1, none⟩) n x.1 (pl16 n x.1))) (hH.oldBlk hdb hdn) 3 ?_
  clear hH
  rintro _ _ w ⟨rfl, rfl⟩ hH
  refine znI ?_
  refine cxSeqI ?_
  refine zrI ?_
  refine zv .mv 1 ?_
  refine zv .len 1 ?_
  refine zv (.lt ((pl16 n x.1) < 16)) 1 ?_
  refine znI ?_
  refine zPI (fun hc3 => ?_) (fun hc3 => ?_)
  refine zxI ?_
  replace hH := hH.drew
  refine rxPg 0 [ldv 0 19 [] [] [1002] fun G => (.pointer (some ⟨g, 0, none⟩)), pv 1 20 [0] [] fun G => (.pointer (some ⟨g, 0, none⟩)), pv 2 21 [1] [] fun G => (.pointer (some ⟨g, 0, none⟩)), ldv 3 22 [2] [] [1000] fun G => (cMk.val ((A, l.length, z), st, dl)), ldv 4 23 [] [] [1002] fun G => (.pointer (some ⟨g, 0, none⟩)), pv 5 24 [4] [] fun G => (.pointer (some ⟨g, 0, none⟩)), pv 6 25 [5] [] fun G => (.pointer (some ⟨g, 33, none⟩)), ldv 7 26 [6] [] [1000] fun G => ((cArr 16).val ((nxO st dl n so x.1).1)), pv 8 27 [3, 7] [] fun G => ((cArr 16).val (aeE l ((nxO st dl n so x.1).1))), alv 9 7 [] [] fun G g => [bl g 61 ((cArr 16).enc (fun _ => 0))], stv 10 [8, 9] [9] 9 fun G => [bl (G 9).g 61 ((cArr 16).enc (aeE l ((nxO st dl n so x.1).1)))]] (fun G => [(7, (.pointer (some ⟨(G 9).g, 0, none⟩))), (6, (.slice (some ⟨gt, 0 + 16 * x.1 * 1, none⟩) (pl16 n x.1) (pl16 n x.1)))]) (fun G => [[bl g 78 (cWk.enc (((A, l.length, z), st, dl), nxO st dl n so x.1))], [bl gt 5 cu], [bl g1 100 #[(.pointer (some ⟨g, 0, none⟩))]], [bl g2 80 #[(.func (.func 73) #[(cMk.val ((A, l.length, z), st, dl))] #[])]], [bl (G 9).g 61 ((cArr 16).enc (aeE l ((nxO st dl n so x.1).1)))]]) hH (.c (.ld (fun G _ _ hH => (hH.q 0 rfl)) fun G => .lc) <| .c (.v fun G => .nc) <| .c (.v fun G => (.fld 0)) <| .c (.ld (fun G _ _ hH => (hH.q 0 rfl)) fun G => (.ld cMk ((A, l.length, z), st, dl) (fun _ hS => (holds_blk0 hS).fst))) <| .c (.ld (fun G _ _ hH => (hH.q 0 rfl)) fun G => .lc) <| .c (.v fun G => .nc) <| .c (.v fun G => (.fld 33)) <| .c (.ld (fun G _ _ hH => (hH.q 0 rfl)) fun G => (.ld (cArr 16) ((nxO st dl n so x.1).1) (fun _ hS => ((holds_blk0 hS).snd).fst))) <| .c (Sp.cr Tryz.func45 (fun G => (maeE_c A z l hk st dl ((nxO st dl n so x.1).1))) fun _ _ hH => ⟨(hH.oldBlk hbx hbn), (hH.vu hVk (by decide) hok)⟩) <| .c (.a (fun _ _ _ _ => trivial) (fun G => (.al (cArr 16) (fun _ => 0))) fun _ _ _ h => h) <| .c (.tn (fun G => (.sw (cArr 16) (fun _ => 0) (aeE l ((nxO st dl n so x.1).1)))) (fun _ _ _ _ => trivial) fun _ _ _ h => h) <| .nil) ?_
  clear hH
  rintro G w - hH
  revert hH
  generalize (G 9).g = g4
  intro hH
  refine rnI ?_
  refine cxSeqI ?_
  refine zrI ?_
  refine zv .mv 0 ?_
  refine zv .len 1 ?_
  refine zv .mv 0 ?_
  refine znI ?_
  refine cxBlockI ?_
  refine zL3I (fun (i : Nat) (_ : List UInt8) (_ : Array Value) => [(30, (.int .i64 (((i) : Nat) : Int))), (29, (.int .i64 ((((pl16 n x.1)) : Nat) : Int))), (7, (.pointer (some ⟨g4, 0, none⟩))), (6, (.slice (some ⟨gt, 0 + 16 * x.1 * 1, none⟩) (pl16 n x.1) (pl16 n x.1)))]) (fun i L cur' w => HH w0 (bks [bl g 78 (cWk.enc (((A, l.length, z), st, dl), so)), bl gt 5 cu, bl g1 100 #[(.pointer (some ⟨g, 0, none⟩))], bl g2 80 #[(.func (.func 73) #[(cMk.val ((A, l.length, z), st, dl))] #[])]]) [[bl g 78 (cWk.enc (((A, l.length, z), st, dl), nxO st dl n so x.1))], [bl gt 5 cur'], [bl g1 100 #[(.pointer (some ⟨g, 0, none⟩))]], [bl g2 80 #[(.func (.func 73) #[(cMk.val ((A, l.length, z), st, dl))] #[])]], [bl g4 61 ((cArr 16).enc (aeE l ((nxO st dl n so x.1).1)))]] w ∧ (i ≤ pl16 n x.1) ∧ (Bk cByte cap cur' L) ∧ (L.length = X.length) ∧ (L = X1.take (16 * x.1) ++ (lst i (added (cutF X1 (16 * x.1)) (aeE l (nxO st dl n so x.1).1)) ++ X1.drop (16 * x.1 + i)))) (fun i _ _ => pl16 n x.1 - i) 0 X1 cu ⟨hH, (Nat.zero_le _), hBt, hl1, (by rw [Nat.add_zero]; exact (List.take_append_drop _ _).symm)⟩ ?_
  clear hH
  rintro i L cur' w ⟨hH, hi, hB', hLl, hL⟩
  refine zrI ?_
  refine zv (.lt (i < (pl16 n x.1))) 0 ?_
  refine znI ?_
  refine cxSeqI ?_
  refine zPI (fun hc5 => ?_) (fun hc5 => ?_)
  refine cxSkipI ?_
  refine qxThenI ?_
  refine cxSeqI ?_
  refine cxBlockI ?_
  refine zrI ?_
  refine zv .mv 1 ?_
  refine zv .mv 1 ?_
  refine znI ?_
  refine cxRegXI ?_
  replace hH := hH.drew
  refine rv 0 .mv 0 ?_
  refine rv 1 .mv 0 ?_
  have hi6 : i < (pl16 n x.1) := by omega
  have hj9 : i < ((L.take (16 * x.1 + pl16 n x.1)).drop (16 * x.1)).length := by first | exact hi6 | (simp only [List.length_drop]; omega) | (simp only [List.length_drop, List.length_take]; omega) | omega
  obtain ⟨x7, hx8⟩ := get_at ((L.take (16 * x.1 + pl16 n x.1)).drop (16 * x.1)) i hj9
  have hb10 := UInt8.toNat_lt x7
  refine rv 2 (.ix 1 i (hi := hi6)) 0 ?_
  refine rld 3 (hH.q 1 rfl) (.ld cByte x7 (fun _ hS => (((hB'.holdsL hS).cut (16 * x.1) (16 * x.1 + pl16 n x.1)) i _ hx8))) 1 ?_
  refine rv 4 .mv 8 ?_
  have hi11 : i < 16 := by omega
  refine rv 5 (.ia 1 16 i (hi := hi11)) 1 ?_
  refine rld 6 (hH.q 4 rfl) (.ld cByte ((aeE l ((nxO st dl n so x.1).1)) i) (fun _ hS => ((holds_blk0 hS).elt hi11))) 1 ?_
  refine rv 7 (.xb (x7 ^^^ ((aeE l ((nxO st dl n so x.1).1)) i)) (u := x7) (v := ((aeE l ((nxO st dl n so x.1).1)) i))) 3 ?_
  have hi12 : i < (pl16 n x.1) := by omega
  have hj15 : i < ((L.take (16 * x.1 + pl16 n x.1)).drop (16 * x.1)).length := by first | exact hi12 | (simp only [List.length_drop]; omega) | (simp only [List.length_drop, List.length_take]; omega) | omega
  obtain ⟨x13, hx14⟩ := get_at ((L.take (16 * x.1 + pl16 n x.1)).drop (16 * x.1)) i hj15
  have hb16 := UInt8.toNat_lt x13
  refine rv 8 (.ix 1 i (hi := hi12)) 6 ?_
  have hk20 : (16 * x.1) + i < L.length := by omega
  obtain ⟨cur18, hcs19, hB17⟩ : ∃ cs, putL cur' (0 + (16 * x.1) * 1 + i * 1) (cByte.enc (x7 ^^^ ((aeE l ((nxO st dl n so x.1).1)) i))).toList = cs ∧ Bk cByte cap cs (L.set ((16 * x.1) + i) (x7 ^^^ ((aeE l ((nxO st dl n so x.1).1)) i))) := ⟨_, rfl, put_from hB' (16 * x.1) i hk20 (x7 ^^^ ((aeE l ((nxO st dl n so x.1).1)) i))⟩
  refine rx1k 9 ?_
  refine re0 9 1 hH rfl (fun _ hF => smStoreT (C := cByte) (z := (x7 ^^^ ((aeE l ((nxO st dl n so x.1).1)) i))) rfl (hF.ev 0 rfl) (hF.ev 1 rfl) rfl (by kernel_rfl) (room_from hB' hk20) hcs19) trivial (pgo [] (pgo [] (.nil _ []))) ?_
  clear hH
  rintro _ _ w rfl hH
  refine ⟨pnil, ?_⟩
  refine rxEndI (by kernel_rfl) ?_
  refine qxInN ?_
  refine qxThenI ?_
  refine cxRegI ?_
  refine zv (.add ((i + 1 : Nat) : Int)) 7 ?_
  refine zv .mv 1 ?_
  refine pxEndI ?_
  exact zR3 (i + 1) (L.set ((16 * x.1) + i) (x7 ^^^ ((aeE l ((nxO st dl n so x.1).1)) i))) cur18 ⟨hH, (by omega), hB17, (by rw [List.length_set]; exact hLl), (rst_step hL (p := pl16 n x.1) (by omega) (by omega) hx8)⟩ (by omega)
  refine cxExitI ?_
  refine qxThenE ?_
  refine qxThenE ?_
  refine qxInE ?_
  refine qxThenI ?_
  refine cxExitI ?_
  refine qxThenE ?_
  refine qxInE ?_
  replace hH : HH w0 (bks [bl g 78 (cWk.enc (((A, l.length, z), st, dl), so)), bl gt 5 cu, bl g1 100 #[(.pointer (some ⟨g, 0, none⟩))], bl g2 80 #[(.func (.func 73) #[(cMk.val ((A, l.length, z), st, dl))] #[])]]) [[bl g 78 (cWk.enc (((A, l.length, z), st, dl), nxO st dl n so x.1))], [bl gt 5 cur'], [bl g1 100 #[(.pointer (some ⟨g, 0, none⟩))]], [bl g2 80 #[(.func (.func 73) #[(cMk.val ((A, l.length, z), st, dl))] #[])]]] w := hH.only [true, true, true, true, false]
  have e1 : (nxO st dl n so x.1) = (flO st dl n o ((pre ++ [x]).map (·.1))) := by rw [List.map_append, List.map_cons, List.map_nil, flO_snoc, hso]
  rw [e1] at hH
  have e2 : L = (flT (aeD l) (aeE l) st dl n o X ((pre ++ [x]).map (·.1))) := by
    have e3 := e1; rw [List.map_append, List.map_cons, List.map_nil] at e3; rw [List.map_append, List.map_cons, List.map_nil, flT_snoc, ← hX1, ← e3]
    rw [hL]; unfold nxT; rw [if_pos hc3, show i = pl16 n x.1 by omega]
  exact fun _ _ => ⟨_, ⟨_, rfl, e2 ▸ hB'⟩, by simpa [HH] using hH⟩
  refine cxSkipI ?_
  refine qxThenI ?_
  refine zxI ?_
  replace hH := hH.drew
  refine rxPg 0 [ldv 0 43 [] [] [1003] fun G => (.func (.func 73) #[(cMk.val ((A, l.length, z), st, dl))] #[]), pv 1 44 [] [] fun G => (.slice (some ⟨gt, 0 + 16 * x.1 * 1, none⟩) (pl16 n x.1) (pl16 n x.1)), pv 2 45 [1] [] fun G => (.pointer (some ⟨gt, 0 + 16 * x.1 * 1, none⟩)), ldv 3 46 [2] [] [1001] fun G => ((cArr 16).val (cutF ((X1.take (16 * x.1 + pl16 n x.1)).drop (16 * x.1)) 0)), ldv 4 47 [] [] [1002] fun G => (.pointer (some ⟨g, 0, none⟩)), pv 5 48 [4] [] fun G => (.pointer (some ⟨g, 0, none⟩)), pv 6 49 [5] [] fun G => (.pointer (some ⟨g, 33, none⟩)), ldv 7 50 [6] [] [1000] fun G => ((cArr 16).val ((nxO st dl n so x.1).1)), pv 8 51 [3, 7] [] fun G => ((cArr 16).val (added (cutF ((X1.take (16 * x.1 + pl16 n x.1)).drop (16 * x.1)) 0) ((nxO st dl n so x.1).1))), pv 9 52 [0, 8] [] fun G => ((cArr 16).val (aeD l (added (cutF ((X1.take (16 * x.1 + pl16 n x.1)).drop (16 * x.1)) 0) ((nxO st dl n so x.1).1)))), ldv 10 53 [] [] [1002] fun G => (.pointer (some ⟨g, 0, none⟩)), pv 11 54 [10] [] fun G => (.pointer (some ⟨g, 0, none⟩)), pv 12 55 [11] [] fun G => (.pointer (some ⟨g, 33, none⟩)), ldv 13 56 [12] [] [1000] fun G => ((cArr 16).val ((nxO st dl n so x.1).1)), pv 14 57 [9, 13] [] fun G => ((cArr 16).val (added (aeD l (added (cutF ((X1.take (16 * x.1 + pl16 n x.1)).drop (16 * x.1)) 0) ((nxO st dl n so x.1).1))) ((nxO st dl n so x.1).1))), alv 15 9 [] [] fun G g => [bl g 61 ((cArr 16).enc (fun _ => 0))], stv 16 [14, 15] [15] 15 fun G => [bl (G 15).g 61 ((cArr 16).enc (added (aeD l (added (cutF ((X1.take (16 * x.1 + pl16 n x.1)).drop (16 * x.1)) 0) ((nxO st dl n so x.1).1))) ((nxO st dl n so x.1).1)))]] (fun G => [(9, (.pointer (some ⟨(G 15).g, 0, none⟩))), (6, (.slice (some ⟨gt, 0 + 16 * x.1 * 1, none⟩) (pl16 n x.1) (pl16 n x.1)))]) (fun G => [[bl g 78 (cWk.enc (((A, l.length, z), st, dl), nxO st dl n so x.1))], [bl gt 5 cu], [bl g1 100 #[(.pointer (some ⟨g, 0, none⟩))]], [bl g2 80 #[(.func (.func 73) #[(cMk.val ((A, l.length, z), st, dl))] #[])]], [bl (G 15).g 61 ((cArr 16).enc (added (aeD l (added (cutF ((X1.take (16 * x.1 + pl16 n x.1)).drop (16 * x.1)) 0) ((nxO st dl n so x.1).1))) ((nxO st dl n so x.1).1)))]]) hH (.c (.ld (fun G _ _ hH => (hH.q 0 rfl)) fun G => .lc) <| .c (.v fun G => .mv) <| .c (.v fun G => (fun _ _ hF => opToArray (m := 16) (e := 5) rfl (by kernel_rfl) (hF.ev 0 rfl) (by omega))) <| .c (.ld (fun G _ _ hH => (hH.q 0 rfl)) fun G => (.ld (cArr 16) (cutF ((X1.take (16 * x.1 + pl16 n x.1)).drop (16 * x.1)) 0) (fun _ hS => (((hBt.holdsL hS).cut (16 * x.1) (16 * x.1 + pl16 n x.1)).arr 0 16 (by first | omega | (rw [lst_len]; omega) | (simp only [List.length_drop, List.length_take]; omega) | (simp only [List.length_drop, List.length_take, lst_len]; omega)))))) <| .c (.ld (fun G _ _ hH => (hH.q 0 rfl)) fun G => .lc) <| .c (.v fun G => .nc) <| .c (.v fun G => (.fld 33)) <| .c (.ld (fun G _ _ hH => (hH.q 0 rfl)) fun G => (.ld (cArr 16) ((nxO st dl n so x.1).1) (fun _ hS => ((holds_blk0 hS).snd).fst))) <| .c (Sp.c Tryz.func64 (fun G => (xor_c (cutF ((X1.take (16 * x.1 + pl16 n x.1)).drop (16 * x.1)) 0) ((nxO st dl n so x.1).1))) fun _ => trivial) <| .c (Sp.cb (cp := [(cMk.val ((A, l.length, z), st, dl))]) Tryz.func73 (fun G => (maeD_c A z l hk st dl (added (cutF ((X1.take (16 * x.1 + pl16 n x.1)).drop (16 * x.1)) 0) ((nxO st dl n so x.1).1)))) fun _ _ hH => ⟨(hH.oldBlk hbx hbn), (hH.vu hVk (by decide) hok)⟩) <| .c (.ld (fun G _ _ hH => (hH.q 0 rfl)) fun G => .lc) <| .c (.v fun G => .nc) <| .c (.v fun G => (.fld 33)) <| .c (.ld (fun G _ _ hH => (hH.q 0 rfl)) fun G => (.ld (cArr 16) ((nxO st dl n so x.1).1) (fun _ hS => ((holds_blk0 hS).snd).fst))) <| .c (Sp.c Tryz.func64 (fun G => (xor_c (aeD l (added (cutF ((X1.take (16 * x.1 + pl16 n x.1)).drop (16 * x.1)) 0) ((nxO st dl n so x.1).1))) ((nxO st dl n so x.1).1))) fun _ => trivial) <| .c (.a (fun _ _ _ _ => trivial) (fun G => (.al (cArr 16) (fun _ => 0))) fun _ _ _ h => h) <| .c (.tn (fun G => (.sw (cArr 16) (fun _ => 0) (added (aeD l (added (cutF ((X1.take (16 * x.1 + pl16 n x.1)).drop (16 * x.1)) 0) ((nxO st dl n so x.1).1))) ((nxO st dl n so x.1).1)))) (fun _ _ _ _ => trivial) fun _ _ _ h => h) <| .nil) ?_
  clear hH
  rintro G w - hH
  revert hH
  generalize (G 15).g = g21
  intro hH
  refine rnI ?_
  have hs1 : cByte.sz = 1 := rfl
  have hcz : cu.size = cap * 1 := hBt.size
  have hll : (lst 16 (added (aeD l (added (cutF ((X1.take (16 * x.1 + pl16 n x.1)).drop (16 * x.1)) 0) ((nxO st dl n so x.1).1))) ((nxO st dl n so x.1).1))).length = 16 := lst_len _ _
  refine cxRegI ?_
  refine zv .mv 2 ?_
  refine zv (v := (.slice (some ⟨g21, 0, none⟩) 16 16)) (fun _ _ hF => opSliceA (n := 16) (e := 5) (sz := 1) rfl (by kernel_rfl) (by kernel_rfl) (hF.ev 1 rfl)) 2 ?_
  obtain ⟨cur23, hcs24, hB22⟩ : ∃ cs, putL cu (0 + 16 * x.1 * 1) (flat cByte (lst 16 (added (aeD l (added (cutF ((X1.take (16 * x.1 + pl16 n x.1)).drop (16 * x.1)) 0) ((nxO st dl n so x.1).1))) ((nxO st dl n so x.1).1)))) = cs ∧ Bk cByte cap cs (X1.take (16 * x.1) ++ ((lst 16 (added (aeD l (added (cutF ((X1.take (16 * x.1 + pl16 n x.1)).drop (16 * x.1)) 0) ((nxO st dl n so x.1).1))) ((nxO st dl n so x.1).1))) ++ X1.drop (16 * x.1 + (lst 16 (added (aeD l (added (cutF ((X1.take (16 * x.1 + pl16 n x.1)).drop (16 * x.1)) 0) ((nxO st dl n so x.1).1))) ((nxO st dl n so x.1).1))).length))) := ⟨_, rfl, hBt.copy (16 * x.1) (lst 16 (added (aeD l (added (cutF ((X1.take (16 * x.1 + pl16 n x.1)).drop (16 * x.1)) 0) ((nxO st dl n so x.1).1))) ((nxO st dl n so x.1).1))) (by omega)⟩
  refine ze 1 hH rfl (fun _ hF => smCopyT (C := cByte) (m := (lst 16 (added (aeD l (added (cutF ((X1.take (16 * x.1 + pl16 n x.1)).drop (16 * x.1)) 0) ((nxO st dl n so x.1).1))) ((nxO st dl n so x.1).1)))) (e := 5) rfl (by kernel_rfl) (by kernel_rfl) (ltb rfl) (hF.ev 1 rfl) (hF.ev 0 rfl) (by omega) rfl (by omega) hcs24) (vu_arr (hH.blk 4 rfl)) 3 ?_
  clear hH
  rintro _ _ w ⟨rfl, rfl⟩ hH
  refine pxEndI ?_
  refine qxInN ?_
  replace hH : HH w0 (bks [bl g 78 (cWk.enc (((A, l.length, z), st, dl), so)), bl gt 5 cu, bl g1 100 #[(.pointer (some ⟨g, 0, none⟩))], bl g2 80 #[(.func (.func 73) #[(cMk.val ((A, l.length, z), st, dl))] #[])]]) [[bl g 78 (cWk.enc (((A, l.length, z), st, dl), nxO st dl n so x.1))], [bl gt 5 cur23], [bl g1 100 #[(.pointer (some ⟨g, 0, none⟩))]], [bl g2 80 #[(.func (.func 73) #[(cMk.val ((A, l.length, z), st, dl))] #[])]]] w := hH.only [true, true, true, true, false]
  have e1 : (nxO st dl n so x.1) = (flO st dl n o ((pre ++ [x]).map (·.1))) := by rw [List.map_append, List.map_cons, List.map_nil, flO_snoc, hso]
  rw [e1] at hH
  have e2 : (X1.take (16 * x.1) ++ ((lst 16 (added (aeD l (added (cutF ((X1.take (16 * x.1 + pl16 n x.1)).drop (16 * x.1)) 0) ((nxO st dl n so x.1).1))) ((nxO st dl n so x.1).1))) ++ X1.drop (16 * x.1 + (lst 16 (added (aeD l (added (cutF ((X1.take (16 * x.1 + pl16 n x.1)).drop (16 * x.1)) 0) ((nxO st dl n so x.1).1))) ((nxO st dl n so x.1).1))).length))) = (flT (aeD l) (aeE l) st dl n o X ((pre ++ [x]).map (·.1))) := by
    have e3 := e1; rw [List.map_append, List.map_cons, List.map_nil] at e3; rw [List.map_append, List.map_cons, List.map_nil, flT_snoc, ← hX1, ← e3]
    unfold nxT; rw [if_neg hc3, lst_len]; refine congrArg (X1.take (16 * x.1) ++ ·) (congrArg (· ++ X1.drop (16 * x.1 + 16)) (lst_congr fun j hj => ?_))
    exact wb_E16 (fun x y h => aeD_E16 l h) (fun q hq => part_at (by omega)) j hj
  exact fun _ _ => ⟨_, ⟨_, rfl, e2 ▸ hB22⟩, by simpa [HH] using hH⟩
  rintro xs E D w hxs ⟨cu, rfl, hBt⟩ hH
  replace hH : HH w0 (bks ([bl g 78 (cWk.enc (((A, l.length, z), st, dl), o, 0)), bl gt 5 cur])) [[bl B 23 #[.slice (some ⟨gt, 0, none⟩) n c], bl (B + 1) 3 #[.int .i64 16]], [bl g 78 (cWk.enc (((A, l.length, z), st, dl), (flO st dl n o (xs.map (·.1)))))], [bl gt 5 cu], [bl g1 100 #[(.pointer (some ⟨g, 0, none⟩))]], [bl g2 80 #[(.func (.func 73) #[(cMk.val ((A, l.length, z), st, dl))] #[])]], [(D, .deferred (some []))]] w := hH.cast (by simp)
  clear hH2 hcB1 hcB2 hB1
  rw [hxs, flO_all] at hH
  rw [hxs, flT_all (fun x y h => aeD_E16 l h) hn] at hBt
  refine qxInN ?_
  refine qxDEnd0 5 hH rfl rfl (fun w hH => ?_)
  exact ⟨_, _, rfl, ⟨rfl, _, rfl, hBt⟩, hH.out [false, true, true, false, false, false]⟩
end Go.Proofs.YtfloiekaiiapnaaGreatDoor

namespace Go.Proofs.YtfloiekaiiapnaaGreatDoor
open Go Go.RowKit
set_option maxRecDepth 100000

set_option maxHeartbeats 8000000 in
theorem tag_o (A : Option Addr) (z : Nat) (l : List UInt8) (hk : l.length = 16 ∨ l.length = 32) (st dl o : Nat → UInt8) (g k : Nat) (Aa : Option Addr) (ya : Nat) (a : List UInt8) (ha : a.length ≤ 140737488355328) (Ap : Option Addr) (yp : Nat) (p : List UInt8) (hp : p.length ≤ 140737488355328) : Pure Tryz.prog 46 #[(.pointer (some ⟨g, 0, none⟩)), (.slice Aa a.length ya), (.slice Ap p.length yp)] (fun w => w.heap[g]? = some (.cells (cWk.enc (((A, l.length, z), st, dl), o, k)) 78 (0, 0)) ∧ w.heap[2]? = some (.cells ((cArr 256).enc boxF) 105 (0, 0)) ∧ w.heap[4]? = some (.cells ((cArr 64).enc dbF) 104 (0, 0)) ∧ Vu cByte w A l.length z l ∧ Vu cByte w Aa a.length ya a ∧ Vu cByte w Ap p.length yp p) ((cArr 16).val (added (aeE l (added (smL p) (added o dl))) (hsL (aeE l) st dl a))) := by
  refine pure_of (fn := Tryz.f46) Tryz.func46 rfl Tryz.ntmps46 (Nat.le_of_ble_eq_true rfl) rfl ?_
  intro w0 hH hR
  refine zr ?_
  refine zm hH (.al (cArr 16) (fun _ => 0)) trivial 0 ?_
  clear hH
  rintro _ _ w ⟨g1, rfl, rfl⟩ hH
  refine zn ?_
  refine zx ?_
  replace hH := hH.drew
  refine rxPg 0 [pv 0 8 [] [] fun G => (.pointer (some ⟨g, 0, none⟩)), pv 1 9 [0] [] fun G => (.pointer (some ⟨g, 0, none⟩)), pv 2 10 [1] [] fun G => (.pointer (some ⟨g, 33, none⟩)), ldv 3 11 [2] [] [] fun G => ((cArr 16).val o), pv 4 12 [] [] fun G => (.pointer (some ⟨g, 0, none⟩)), pv 5 13 [4] [] fun G => (.pointer (some ⟨g, 0, none⟩)), pv 6 14 [5] [] fun G => (.pointer (some ⟨g, 0, none⟩)), pv 7 15 [6] [] fun G => (.pointer (some ⟨g, 17, none⟩)), ldv 8 16 [7] [] [] fun G => ((cArr 16).val dl), pv 9 17 [3, 8] [] fun G => ((cArr 16).val (added o dl)), alv 10 7 [] [] fun G g => [bl g 61 ((cArr 16).enc (fun _ => 0))], stv 11 [9, 10] [10] 10 fun G => [bl (G 10).g 61 ((cArr 16).enc (added o dl))]] (fun G => [(7, (.pointer (some ⟨(G 10).g, 0, none⟩))), (6, (.pointer (some ⟨g1, 0, none⟩))), (0, (.pointer (some ⟨g, 0, none⟩))), (1, (.slice Aa a.length ya)), (2, (.slice Ap p.length yp))]) (fun G => [[bl g1 61 ((cArr 16).enc (fun _ => 0))], [bl (G 10).g 61 ((cArr 16).enc (added o dl))]]) hH (.c (.v fun G => .mv) <| .c (.v fun G => .nc) <| .c (.v fun G => (.fld 33)) <| .c (.ld (fun G _ _ hH => (hH.ob hR.1)) fun G => (.ld (cArr 16) o (fun _ hS => ((holds_blk0 hS).snd).fst))) <| .c (.v fun G => .mv) <| .c (.v fun G => .nc) <| .c (.v fun G => (.fld 0)) <| .c (.v fun G => (.fld 17)) <| .c (.ld (fun G _ _ hH => (hH.ob hR.1)) fun G => (.ld (cArr 16) dl (fun _ hS => (((holds_blk0 hS).fst).snd).snd))) <| .c (Sp.c Tryz.func64 (fun G => (xor_c o dl)) fun _ => trivial) <| .c (.a (fun _ _ _ _ => trivial) (fun G => (.al (cArr 16) (fun _ => 0))) fun _ _ _ h => h) <| .c (.tn (fun G => (.sw (cArr 16) (fun _ => 0) (added o dl))) (fun _ _ _ _ => trivial) fun _ _ _ h => h) <| .nil) ?_
  clear hH
  rintro G w - hH
  revert hH
  generalize (G 10).g = g2
  intro hH
  refine rn ?_
  refine zx ?_
  replace hH := hH.drew
  refine rv 0 .mv 0 ?_
  refine rv 1 .nc 1 ?_
  refine rv 2 (.fld 0) 1 ?_
  refine rld 3 (hH.ob hR.1) (.ld cMk ((A, l.length, z), st, dl) (fun _ hS => (holds_blk0 hS).fst)) 1 ?_
  refine rv 4 .mv 32 ?_
  refine rld 6 (hH.q 1 rfl) (.ld (cArr 16) (added o dl) (fun _ hS => (holds_blk0 hS))) 4 ?_
  refine rv 9 .mv 16 ?_
  refine rv 10 .nc 1 ?_
  refine rv 11 (.fld 0) 1 ?_
  refine rld 12 (hH.ob hR.1) (.ld cMk ((A, l.length, z), st, dl) (fun _ hS => (holds_blk0 hS).fst)) 1 ?_
  refine rv 13 .mv 32 ?_
  refine rx1k 5 (rpc 5 Tryz.func66 (sum_o Ap yp p (by omega)) (hH.vu hR.2.2.2.2.2 (by decide) (Off.nil _ _)) hH 8 (.keep (.keep (.keep (.nil _ [])))) ?_)
  clear hH
  intro w hH
  refine ⟨pcons (hH.oldBlk hR.1 (by simp)) (pcons (hH.blk 1 rfl) (pcons (hH.oldBlk hR.1 (by simp)) pnil)), ?_⟩
  refine rx1k 7 (rpc 7 Tryz.func64 (xor_c (smL p) (added o dl)) trivial hH 9 (.keep (pgo [] (.keep (.nil _ [])))) ?_)
  clear hH
  intro w hH
  refine ⟨pcons (hH.oldBlk hR.1 (by simp)) (pcons (hH.oldBlk hR.1 (by simp)) pnil), ?_⟩
  refine rx1k 8 (rpc 8 Tryz.func45 (maeE_c A z l hk st dl (added (smL p) (added o dl))) (⟨(hH.oldBlk hR.2.1 (by simp)), (hH.vu hR.2.2.2.1 (by decide) (Off.nil _ _))⟩) hH 9 (.keep (pgo [] (.nil _ []))) ?_)
  clear hH
  intro w hH
  refine ⟨pcons (hH.oldBlk hR.1 (by simp)) pnil, ?_⟩
  refine rx1k 14 (rpc 14 Tryz.func67 (hash_o A z l hk st dl Aa ya a (by omega)) (⟨(hH.oldBlk hR.2.1 (by simp)), (hH.oldBlk hR.2.2.1 (by simp)), (hH.vu hR.2.2.2.1 (by decide) (Off.nil _ _)), (hH.vu hR.2.2.2.2.1 (by decide) (Off.nil _ _))⟩) hH 6 (pgo [] (.nil _ [])) ?_)
  clear hH
  intro w hH
  refine ⟨pnil, ?_⟩
  refine rx1k 15 (rpc 15 Tryz.func64 (xor_c (aeE l (added (smL p) (added o dl))) (hsL (aeE l) st dl a)) trivial hH 3 (.nil _ []) ?_)
  clear hH
  intro w hH
  refine ⟨pnil, ?_⟩
  refine rx1k 16 ?_
  refine re0 16 0 hH rfl (.sw (cArr 16) (fun _ => 0) (added (aeE l (added (smL p) (added o dl))) (hsL (aeE l) st dl a))) trivial (.nil _ []) ?_
  clear hH
  rintro _ _ w rfl hH
  refine ⟨pnil, ?_⟩
  refine rn ?_
  refine cxRet ?_
  refine qxRetC 1 (hH.blk 0 rfl) rfl rfl (by kernel_rfl) (Cod.size _ _) (by kernel_rfl) ?_
  exact ⟨rfl, HH.toBelow hH⟩
end Go.Proofs.YtfloiekaiiapnaaGreatDoor

namespace Go.Proofs.YtfloiekaiiapnaaGreatDoor
open Go Go.RowKit
set_option maxRecDepth 100000

theorem tag_n (A : Option Addr) (z : Nat) (l : List UInt8) (hk : l.length = 16 ∨ l.length = 32) (st dl o : Nat → UInt8) (g k : Nat) (Aa : Option Addr) (na ya : Nat) (a : List UInt8) (ha : na ≤ 140737488355328) (Ap : Option Addr) (np yp : Nat) (p : List UInt8) (hp : np ≤ 140737488355328) : Pure Tryz.prog 46 #[(.pointer (some ⟨g, 0, none⟩)), (.slice Aa na ya), (.slice Ap np yp)] (fun w => w.heap[g]? = some (.cells (cWk.enc (((A, l.length, z), st, dl), o, k)) 78 (0, 0)) ∧ w.heap[2]? = some (.cells ((cArr 256).enc boxF) 105 (0, 0)) ∧ w.heap[4]? = some (.cells ((cArr 64).enc dbF) 104 (0, 0)) ∧ Vu cByte w A l.length z l ∧ Vu cByte w Aa na ya a ∧ Vu cByte w Ap np yp p) ((cArr 16).val (added (aeE l (added (smL p) (added o dl))) (hsL (aeE l) st dl a))) := fun w hR => by
  obtain rfl := hR.2.2.2.2.1.len
  obtain rfl := hR.2.2.2.2.2.len
  exact tag_o A z l hk st dl o g k Aa ya a ha Ap yp p hp w hR
theorem ocG_iff {K N A S : List UInt8} (h : 16 ≤ S.length) : ocG K N A S ↔ lst 16 (ocT K N A (ocP K N S)) = lst 16 (cutF S (S.length - 16)) := by
  have e : lst 16 (cutF S (S.length - 16)) = S.drop (S.length - 16) := (lst_of_known (fun j hj => by rw [List.getElem?_drop]; exact cut_get (by omega)) (by rw [List.length_drop]; omega)).symm
  unfold ocG
  rw [e]
  exact ⟨fun h => h.2, fun h2 => ⟨h, h2⟩⟩
def ocE (K N A S : List UInt8) : Nat := if ocG K N A S then 0 else 5
def ocR (K N A S : List UInt8) : List UInt8 := if ocG K N A S then ocP K N S else []
theorem ocP_len (K N S : List UInt8) : (ocP K N S).length = S.length - 16 := by unfold ocP; rw [thL_len, List.length_take]; omega

set_option maxHeartbeats 8000000 in
theorem open_o (A : Option Addr) (z : Nat) (l : List UInt8) (hk : l.length = 16 ∨ l.length = 32) (B : Option Addr) (y : Nat) (N : List UInt8) (h1 : 1 ≤ N.length) (h15 : N.length ≤ 15) (Aa : Option Addr) (ya : Nat) (a : List UInt8) (ha : a.length ≤ 140737488355328) (Ap : Option Addr) (yp : Nat) (p : List UInt8) (hp : p.length ≤ 140737488350000) : Does Tryz.prog 55 #[(.slice A l.length z), (.slice B N.length y), (.slice Aa a.length ya), (.slice Ap p.length yp)] [] (fun w => w.heap[2]? = some (.cells ((cArr 256).enc boxF) 105 (0, 0)) ∧ w.heap[4]? = some (.cells ((cArr 64).enc dbF) 104 (0, 0)) ∧ Vu cByte w A l.length z l ∧ Vu cByte w B N.length y N ∧ Vu cByte w Aa a.length ya a ∧ Vu cByte w Ap p.length yp p) (fun v E' => ∃ s, v = .tuple #[s, .int .i64 (((ocE l N a p) : Nat) : Int)] ∧ OwnT cByte 5 s (ocR l N a p) E') := by
  refine does_of (fn := Tryz.f55) Tryz.func55 rfl Tryz.ntmps55 (Nat.le_of_ble_eq_true rfl) rfl ?_
  intro w0 hH hR
  replace hH : HH w0 [] [] w0 := hH.only [false]
  have hca := hR.2.2.2.2.1.cap
  have hcp := hR.2.2.2.2.2.cap
  refine zr ?_
  refine zv .mv 0 ?_
  refine zv .mv 1 ?_
  refine zn ?_
  refine zr ?_
  refine zv .mv 3 ?_
  refine zv .mv 0 ?_
  refine zc Tryz.func42 (begin_c A z l hk B y N h1 h15) (⟨(hH.oldBlk hR.1 (by simp)), (hH.vu hR.2.2.1 (by decide) (Off.nil _ _)), (hH.vu hR.2.2.2.1 (by decide) (Off.nil _ _))⟩) hH 3 ?_
  clear hH
  intro w hH
  refine zv .mv 1 ?_
  refine zv .ext 0 ?_
  refine zv .ext 2 ?_
  refine zm hH (.al cMk ((none, 0, 0), fun _ => 0, fun _ => 0)) trivial 0 ?_
  clear hH
  rintro _ _ w ⟨g1, rfl, rfl⟩ hH
  refine ze0 0 hH rfl (.sw cMk ((none, 0, 0), fun _ => 0, fun _ => 0) ((A, l.length, z), (ocSt l), (ocDl l))) trivial ?_
  clear hH
  rintro _ _ w rfl hH
  refine zv .mv 6 ?_
  refine zn ?_
  refine cxSeq ?_
  refine zr ?_
  refine zv .mv 0 ?_
  refine zv (v := (.bool false)) (fun _ _ hF => opNeI rfl (hF.ev 0 rfl) rfl (by decide)) 1 ?_
  refine zn ?_
  refine zF ?_
  refine cxSkip ?_
  refine qxThen ?_
  refine cxSeq ?_
  refine zr ?_
  refine zv .mv 3 ?_
  refine zv .len 1 ?_
  refine zv (.lt (p.length < 16)) 1 ?_
  refine zn ?_
  refine zP (fun hc2 => ?_) (fun hc2 => ?_)
  refine zr ?_
  refine zv .mv 31 ?_
  refine zv .mv 0 ?_
  refine zn ?_
  refine cxRet ?_
  refine qxThenR ?_
  refine qxRet2 1 0 rfl rfl rfl ?_
  have hg : ¬ ocG l N a p := fun h => by have := h.1; omega
  have hE : ocE l N a p = 5 := if_neg hg
  have hL : ocR l N a p = [] := if_neg hg
  exact ⟨_, _, rfl, ⟨_, by rw [hE]; rfl, hL ▸ OwnT.nil _ _⟩, HH.out (HH.pad hH 1) [false, true]⟩
  have h16 : 16 ≤ p.length := by omega
  refine cxSkip ?_
  refine qxThen ?_
  refine zr ?_
  refine zv .mv 1 ?_
  refine zv .len 1 ?_
  refine zv (.sub (((p.length - 16) : Nat) : Int)) 1 ?_
  refine zm hH (fun _ hF => smMake (e := 5) (n := p.length - 16) (sz := 1) (by_ := 1) (z := (.int .u8 0)) (cs := madeCells (cByte.enc 0) ((p.length - 16) * 1)) rfl (by kernel_rfl) (by kernel_rfl) (hF.ev 0 rfl) (hF.ev 0 rfl) rfl rfl (by omega) (by omega) rfl) trivial 1 ?_
  clear hH
  rintro _ _ w ⟨g3, rfl, rfl⟩ hH
  refine zv .mv 1 ?_
  refine zn ?_
  have hs1 : cByte.sz = 1 := rfl
  have hp2 : (p.take (p.length - 16)).length = p.length - 16 := by rw [List.length_take]; omega
  obtain ⟨T0, hB0, hT0, hl0⟩ : ∃ T, Bk cByte (p.length - 16) (madeCells (cByte.enc 0) ((p.length - 16) * 1)) T ∧ T = (List.replicate (p.length - 16) 0) ∧ T.length = p.length - 16 := ⟨_, (Bk.make (C := cByte) 0 (p.length - 16) (ltb rfl) (by unfold maxLen; omega)), rfl, List.length_replicate⟩
  have hz0 : ((madeCells (cByte.enc 0) ((p.length - 16) * 1))).size = (p.length - 16) * 1 := hB0.size
  refine zr ?_
  refine zv .mv 0 ?_
  refine zv .mv 0 ?_
  obtain ⟨cu1, hcs1, hB1, hl1⟩ : ∃ cs, putL (madeCells (cByte.enc 0) ((p.length - 16) * 1)) 0 (flat cByte (p.take (p.length - 16))) = cs ∧ Bk cByte (p.length - 16) cs (p.take (p.length - 16)) ∧ (p.take (p.length - 16)).length = p.length - 16 := by
    have h := hB0.copy 0 (p.take (p.length - 16)) (by omega)
    rw [List.take_zero, List.nil_append, Nat.zero_add, hp2, List.drop_eq_nil_of_le (by omega), List.append_nil] at h
    exact ⟨_, rfl, by simpa using h, hp2⟩
  refine ze 1 hH rfl (fun _ hF => smCopyK (C := cByte) (m := p) (e := 5) (p.length - 16) (show min p.length (p.length - 16) = p.length - 16 by omega) rfl (by kernel_rfl) (by kernel_rfl) (ltb rfl) (hF.ev 1 rfl) (hF.ev 0 rfl) rfl (by show 0 + (p.length - 16) * 1 ≤ _; omega) hcs1) (hH.vu hR.2.2.2.2.2 (by decide) (Off.nil _ _)) 3 ?_
  clear hH
  rintro _ _ w ⟨rfl, rfl⟩ hH
  refine zn ?_
  refine zx ?_
  replace hH := hH.drew
  refine rxPg 0 [ldv 0 33 [] [] [1000] fun G => (cMk.val ((A, l.length, z), (ocSt l), (ocDl l))), ldv 1 34 [] [] [1000] fun G => (cMk.val ((A, l.length, z), (ocSt l), (ocDl l))), pv 2 35 [] [] fun G => (.slice B N.length y), pv 3 36 [1, 2] [] fun G => ((cArr 16).val (of0 (aeE l) N)), pv 4 37 [0, 3] [] fun G => (cWk.val (((A, l.length, z), (ocSt l), (ocDl l)), (of0 (aeE l) N), 0)), alv 5 13 [] [] fun G g => [bl g 78 (cWk.enc (((none, 0, 0), fun _ => 0, fun _ => 0), (fun _ => 0), 0))], stv 6 [4, 5] [5] 5 fun G => [bl (G 5).g 78 (cWk.enc (((A, l.length, z), (ocSt l), (ocDl l)), (of0 (aeE l) N), 0))]] (fun G => [(13, (.pointer (some ⟨(G 5).g, 0, none⟩))), (12, (.slice (some ⟨g3, 0, none⟩) (p.length - 16) (p.length - 16))), (10, (.pointer (some ⟨g1, 0, none⟩))), (2, (.slice Aa a.length ya)), (3, (.slice Ap p.length yp))]) (fun G => [[bl g1 73 (cMk.enc ((A, l.length, z), (ocSt l), (ocDl l)))], [bl g3 5 cu1], [bl (G 5).g 78 (cWk.enc (((A, l.length, z), (ocSt l), (ocDl l)), (of0 (aeE l) N), 0))]]) hH (.c (.ld (fun G _ _ hH => (hH.q 0 rfl)) fun G => (.ld cMk ((A, l.length, z), (ocSt l), (ocDl l)) (fun _ hS => (holds_blk0 hS)))) <| .c (.ld (fun G _ _ hH => (hH.q 0 rfl)) fun G => (.ld cMk ((A, l.length, z), (ocSt l), (ocDl l)) (fun _ hS => (holds_blk0 hS)))) <| .c (.v fun G => .mv) <| .c (Sp.cr Tryz.func43 (fun G => (fo_c A z l hk (ocSt l) (ocDl l) B y N h1 h15)) fun _ _ hH => ⟨(hH.oldBlk hR.1 (by simp)), (hH.vu hR.2.2.1 (by decide) (Off.nil _ _)), (hH.vu hR.2.2.2.1 (by decide) (Off.nil _ _))⟩) <| .c (.v fun G => (fun _ _ hF => opBuildP (cells := cWk.enc (((A, l.length, z), (ocSt l), (ocDl l)), (of0 (aeE l) N), 0)) rfl (EvP.cons (v := (cMk.val ((A, l.length, z), (ocSt l), (ocDl l)))) (hF.ev 0 rfl) (EvP.cons (v := ((cArr 16).val (of0 (aeE l) N))) (hF.ev 1 rfl) EvP.nil)) (built_2of3 (A := cMk) (B := cArr 16) (C := cNat .u64) ((none, 0, 0), fun _ => 0, fun _ => 0) (fun _ => 0) 0 (by kernel_rfl) (by kernel_rfl) rfl rfl) _)) <| .c (.a (fun _ _ _ _ => trivial) (fun G => (.al cWk (((none, 0, 0), fun _ => 0, fun _ => 0), (fun _ => 0), 0))) fun _ _ _ h => h) <| .c (.tn (fun G => (.sw cWk (((none, 0, 0), fun _ => 0, fun _ => 0), (fun _ => 0), 0) (((A, l.length, z), (ocSt l), (ocDl l)), (of0 (aeE l) N), 0))) (fun _ _ _ _ => trivial) fun _ _ _ h => h) <| .nil) ?_
  clear hH
  rintro G w - hH
  revert hH
  generalize (G 5).g = g4
  intro hH
  refine rn ?_
  replace hH : HH w0 [] [[bl g4 78 (cWk.enc (((A, l.length, z), (ocSt l), (ocDl l)), (of0 (aeE l) N), 0))], [bl g3 5 cu1], [bl g1 73 (cMk.enc ((A, l.length, z), (ocSt l), (ocDl l)))]] w := HH.sel hH [2, 1, 0] rfl (by decide)
  replace hH : HH w0 [] [([[bl g4 78 (cWk.enc (((A, l.length, z), (ocSt l), (ocDl l)), (of0 (aeE l) N), 0))], [bl g3 5 cu1]] : List Hl).flatten, [bl g1 73 (cMk.enc ((A, l.length, z), (ocSt l), (ocDl l)))]] w := hH.cast (by simp)
  refine zr ?_
  refine zv .mv 0 ?_
  refine zs (hH.q 1 rfl) (.ld cMk ((A, l.length, z), (ocSt l), (ocDl l)) (fun _ hS => (holds_blk0 hS))) 8 ?_
  refine zv (v := (.func (.func 73) #[(cMk.val ((A, l.length, z), (ocSt l), (ocDl l)))] #[])) (fun _ _ hF => opMakeFuncB rfl (Evs.cons (v := (cMk.val ((A, l.length, z), (ocSt l), (ocDl l)))) (hF.ev 0 rfl) Evs.nil)) 1 ?_
  refine ze 0 hH rfl (.call Tryz.func44 (thraeD_c A z l hk (ocSt l) (ocDl l) (of0 (aeE l) N) g4 g3 (p.length - 16) (p.length - 16) (p.length - 16) cu1 (p.take (p.length - 16)) hB1 (by omega) (by omega) (by omega))) (⟨(hH.oldBlk hR.1 (by simp)), (hH.oldBlk hR.2.1 (by simp)), (hH.vu hR.2.2.1 (by decide) (Off.nil _ _)), (hH.off 0 rfl hR.2.2.1 (by decide) (Off.nil _ _))⟩) 3 ?_
  clear hH
  rintro _ _ w ⟨rfl, cu5, rfl, hBt6⟩ hH
  refine zn ?_
  refine cxSeq ?_
  replace hH : HH w0 [] [[bl g4 78 (cWk.enc (((A, l.length, z), (ocSt l), (ocDl l)), ofE (ocSt l) (ocDl l) (of0 (aeE l) N) (p.length - 16), (p.length - 16) / 16))], [bl g3 5 cu5], [bl g1 73 (cMk.enc ((A, l.length, z), (ocSt l), (ocDl l)))]] w := hH.cast (by simp)
  obtain ⟨T2, hB2, hT2, hl2⟩ : ∃ T, Bk cByte (p.length - 16) cu5 T ∧ T = ocP l N p ∧ T.length = p.length - 16 := ⟨_, hBt6, by rw [List.take_of_length_le (by omega), List.drop_eq_nil_of_le (by omega), List.append_nil]; rfl, by rw [List.take_of_length_le (by omega), List.drop_eq_nil_of_le (by omega), List.append_nil, thL_len, hp2]⟩
  obtain ⟨b7, off8, rfl, hL9, hb10, hR11⟩ := hR.2.2.2.2.2.blk (by decide) (Off.nil _ _) (by omega)
  have := hR.2.2.2.2.2.cap
  refine zx ?_
  replace hH := hH.drew
  refine rv 0 .mv 9 ?_
  refine rv 1 .mv 0 ?_
  refine rv 3 .mv 16 ?_
  refine rv 4 .mv 0 ?_
  refine rv 5 .len 1 ?_
  refine rv 6 (v := (.slice (some ⟨b7, off8 + (p.length - 16) * 1, none⟩) (p.length - (p.length - 16)) (yp - (p.length - 16)))) (fun _ _ hF => opSlcL (k := p.length - 16) (e := 5) (sz := 1) rfl (by kernel_rfl) (by kernel_rfl) (hF.ev 1 rfl) (hF.ev 0 rfl) rfl (by omega) (by omega)) 3 ?_
  refine rv 7 (v := (.pointer (some ⟨b7, off8 + (p.length - 16) * 1, none⟩))) (fun _ _ hF => opToArray (m := 16) (e := 5) rfl (by kernel_rfl) (hF.ev 0 rfl) (by omega)) 1 ?_
  refine rld 8 (S := fun w => HoldsL cByte w b7 off8 p) (hH.holdsL hL9 hb10 hR11) (.ld (cArr 16) (cutF p (p.length - 16)) (fun _ hS => (hS.arr (p.length - 16) 16 (by first | omega | (rw [lst_len]; omega) | (simp only [List.length_drop, List.length_take]; omega) | (simp only [List.length_drop, List.length_take, lst_len]; omega))))) 1 ?_
  refine rx1k 2 (rpc 2 Tryz.func46 (tag_n A z l hk (ocSt l) (ocDl l) (ofE (ocSt l) (ocDl l) (of0 (aeE l) N) (p.length - 16)) g4 ((p.length - 16) / 16) Aa a.length ya a (by omega) (some ⟨g3, 0, none⟩) (p.length - 16) (p.length - 16) T2 (by omega)) (⟨(hH.blk 0 rfl), (hH.oldBlk hR.1 (by simp)), (hH.oldBlk hR.2.1 (by simp)), (hH.vu hR.2.2.1 (by decide) (Off.nil _ _)), (hH.vu hR.2.2.2.2.1 (by decide) (Off.nil _ _)), (hB2.vu (n := p.length - 16) (hH.blk 1 rfl) hl2)⟩) hH 14 (.keep (.nil _ [])) ?_)
  clear hH
  intro w hH
  refine ⟨pcons (hH.holdsL hL9 hb10 hR11) pnil, ?_⟩
  refine rv 9 (v := (.bool (decide (lst 16 (added (aeE l (added (smL T2) (added (ofE (ocSt l) (ocDl l) (of0 (aeE l) N) (p.length - 16)) (ocDl l)))) (hsL (aeE l) (ocSt l) (ocDl l) a)) ≠ lst 16 (cutF p (p.length - 16)))))) (fun _ _ hF => opNeA (n := 16) (e := 5) (f := (added (aeE l (added (smL T2) (added (ofE (ocSt l) (ocDl l) (of0 (aeE l) N) (p.length - 16)) (ocDl l)))) (hsL (aeE l) (ocSt l) (ocDl l) a))) (g := (cutF p (p.length - 16))) rfl (by kernel_rfl) (by kernel_rfl) (by kernel_rfl) (hF.ev 0 rfl) (hF.ev 1 rfl) (by kernel_rfl) Iff.rfl) 3 ?_
  refine rn ?_
  refine zP (fun hc12 => ?_) (fun hc12 => ?_)
  refine zr ?_
  refine zv .mv 3 ?_
  refine zv .mv 0 ?_
  refine zn ?_
  refine cxRet ?_
  refine qxThenR ?_
  refine qxRet2 1 0 rfl rfl rfl ?_
  have hg : ¬ ocG l N a p := fun h => hc12 (by have h2 := (ocG_iff h16).1 h; rw [← hT2] at h2; exact (by unfold ocT tgB at h2; rw [hl2] at h2; exact h2))
  have hE : ocE l N a p = 5 := if_neg hg
  have hL : ocR l N a p = [] := if_neg hg
  exact ⟨_, _, rfl, ⟨_, by rw [hE]; rfl, hL ▸ OwnT.nil _ _⟩, HH.out (HH.pad hH 1) [false, false, false, true]⟩
  refine cxSkip ?_
  refine qxThen ?_
  refine zr ?_
  refine zv .mv 3 ?_
  refine zv .mv 1 ?_
  refine zv .mv 0 ?_
  refine zn ?_
  refine cxRet ?_
  refine qxRet2 1 0 rfl rfl rfl ?_
  have hq := Decidable.not_not.1 hc12
  have hg : ocG l N a p := (ocG_iff h16).2 (by rw [← hT2]; unfold ocT tgB; rw [hl2]; exact hq)
  have hE : ocE l N a p = 0 := if_pos hg
  have hL : ocR l N a p = T2 := (if_pos hg).trans hT2.symm
  exact ⟨_, _, rfl, ⟨_, by rw [hE]; rfl, hL ▸ hB2.own 5 g3 hl2⟩, hH.out1 [false, true, false] rfl⟩
end Go.Proofs.YtfloiekaiiapnaaGreatDoor

namespace Go.Proofs.YtfloiekaiiapnaaGreatDoor
open Go Go.RowKit
set_option maxRecDepth 100000

set_option maxHeartbeats 8000000 in
theorem ropen_o (A : Option Addr) (z : Nat) (l : List UInt8) (hk : l.length = 16 ∨ l.length = 32) (B : Option Addr) (y : Nat) (N : List UInt8) (h1 : 1 ≤ N.length) (h15 : N.length ≤ 15) (Aa : Option Addr) (ya : Nat) (a : List UInt8) (ha : a.length ≤ 140737488355328) (Ap : Option Addr) (yp : Nat) (p : List UInt8) (hp : p.length ≤ 140737488350000) : Does Tryz.prog 24 #[(.slice A l.length z), (.slice B N.length y), (.slice Aa a.length ya), (.slice Ap p.length yp)] [] (fun w => Vu cByte w A l.length z l ∧ Vu cByte w B N.length y N ∧ Vu cByte w Aa a.length ya a ∧ Vu cByte w Ap p.length yp p) (fun v E' => ∃ s, v = .tuple #[s, .int .i64 (((ocE l N a p) : Nat) : Int)] ∧ OwnT cByte 5 s (ocR l N a p) E') := by
  refine does_of (fn := Tryz.f24) Tryz.func24 rfl Tryz.ntmps24 (Nat.le_of_ble_eq_true rfl) rfl ?_
  intro w0 hH hR
  replace hH : HH w0 [] [] w0 := hH.only [false]
  have hcp := hR.2.2.2.cap
  refine zr ?_
  refine zv .mv 0 ?_
  refine zv .mv 1 ?_
  refine zn ?_
  refine zr ?_
  refine zv .mv 3 ?_
  refine zv .mv 2 ?_
  refine zm hH (.call Tryz.func35 (begun_r A z l hk B y N h1 h15)) (⟨(hH.vu hR.1 (by decide) (Off.nil _ _)), (hH.vu hR.2.1 (by decide) (Off.nil _ _))⟩) 3 ?_
  clear hH
  rintro _ _ w ⟨go, gc, Eb, rfl, rfl, hOb0⟩ hH
  refine zv .mv 1 ?_
  refine zv .ext 0 ?_
  refine zv .ext 0 ?_
  refine zv .ext 4 ?_
  refine zm hH (.al (cArr 16) (fun _ => 0)) trivial 0 ?_
  clear hH
  rintro _ _ w ⟨g1, rfl, rfl⟩ hH
  refine zv .mv 8 ?_
  refine ze0 1 hH rfl (.sw (cArr 16) (fun _ => 0) (of0 (aeE l) N)) trivial ?_
  clear hH
  rintro _ _ w rfl hH
  refine zv .mv 12 ?_
  refine zn ?_
  refine cxSeq ?_
  replace hH : HH w0 [] [[bl gc 109 (cCi.enc (boxF, bk boxF 256, (upF (16 * (l.length / 4 + 7)) (aeW l) fun _ => 0), (l.length / 4 + 6)))], Eb, [bl g1 62 ((cArr 16).enc (of0 (aeE l) N))]] w := hH.cast (by simp)
  refine zr ?_
  refine zv .mv 1 ?_
  refine zv (v := (.bool false)) (fun _ _ hF => opNot rfl (hF.ev 0 rfl) rfl) 1 ?_
  refine zn ?_
  refine zF ?_
  refine cxSkip ?_
  refine qxThen ?_
  refine zr ?_
  refine zv .mv 1 ?_
  refine zv .len 1 ?_
  refine zv (.sub ((p.length : Int) - 16)) 1 ?_
  refine zv .mv 1 ?_
  refine zn ?_
  refine cxSeq ?_
  refine zr ?_
  refine zv .mv 0 ?_
  refine zv (v := (.bool (decide (((p.length : Int) - 16) < 0)))) (fun _ _ hF => opLss rfl (hF.ev 0 rfl) rfl rfl) 1 ?_
  refine zn ?_
  refine zP (fun hc2 => ?_) (fun hc2 => ?_)
  refine zr ?_
  refine zv .mv 63 ?_
  refine zv .mv 0 ?_
  refine zn ?_
  refine cxRet ?_
  refine qxThenR ?_
  refine qxRet2 1 0 rfl rfl rfl ?_
  have hg : ¬ ocG l N a p := fun h => by have := h.1; omega
  have hE : ocE l N a p = 5 := if_neg hg
  have hL : ocR l N a p = [] := if_neg hg
  exact ⟨_, _, rfl, ⟨_, by rw [hE]; rfl, hL ▸ OwnT.nil _ _⟩, HH.out (HH.pad hH 1) [false, false, false, true]⟩
  refine cxSkip ?_
  refine qxThen ?_
  have h16 : 16 ≤ p.length := by omega
  rw [show ((p.length : Nat) : Int) - 16 = ((p.length - 16 : Nat) : Int) by omega]
  have htl : (p.take (p.length - 16)).length = p.length - 16 := by rw [List.length_take]; omega
  refine zx ?_
  replace hH := hH.drew
  refine rv 0 .mv 1 ?_
  refine rld 1 (hH.q 2 rfl) (.ld (cArr 16) (of0 (aeE l) N) (fun _ hS => (holds_blk0 hS))) 8 ?_
  refine rv 2 .mv 0 ?_
  refine rv 3 .mv 0 ?_
  refine rv 4 (v := (.slice Ap (p.length - 16) yp)) (fun _ _ hF => opCutH (h := p.length - 16) (e := 5) (sz := 1) rfl (by kernel_rfl) (by kernel_rfl) (hF.ev 1 rfl) (hF.ev 0 rfl) rfl (by omega)) 3 ?_
  refine rx2 5 9 (by kernel_rfl) ?_ ?_
  refine re 5 1 hH rfl (.call Tryz.func36 (rthraeD_n go gc l hk (ocSt l) (ocDl l) Eb hOb0 (hH.notin 1 0 rfl rfl rfl) (of0 (aeE l) N) Ap (p.length - 16) yp (p.take (p.length - 16)) (by omega))) (⟨(hH.blk 0 rfl), ((hH.vu hR.2.2.2 (by decide) (Off.nil _ _)).head (m := p.length - 16) (by omega)), (fun b_ o_ hA_ _ => (hH.off 1 rfl hR.2.2.2 (by decide) (Off.nil _ _)) b_ o_ hA_ (by omega))⟩) 7 (pgo [] (.nil _ [])) ?_
  clear hH
  rintro _ _ w ⟨s7, E3, E4, rfl, rfl, hOb5, hOt6⟩ hH
  obtain ⟨A8, c9, rfl⟩ := hOt6.slice
  refine ⟨pnil, ?_⟩
  refine rv 6 .mv 1 ?_
  refine rv 7 .ext 0 ?_
  refine rv 8 .ext 2 ?_
  refine rx1k 9 ?_
  refine rm 9 hH (.al (cArr 16) (fun _ => 0)) trivial 0 (.nil _ []) ?_
  clear hH
  rintro _ _ w ⟨g10, rfl, rfl⟩ hH
  refine ⟨pnil, ?_⟩
  refine rv 10 .mv 4 ?_
  refine rx1k 11 ?_
  refine re0 11 3 hH rfl (.sw (cArr 16) (fun _ => 0) (aeE l (added (added (smL (thL (aeD l) (aeE l) (ocSt l) (ocDl l) (of0 (aeE l) N) (p.take (p.length - 16)))) (ofE (ocSt l) (ocDl l) (of0 (aeE l) N) (p.take (p.length - 16)).length)) (ocDl l)))) trivial (.nil _ []) ?_
  clear hH
  rintro _ _ w rfl hH
  refine ⟨pnil, ?_⟩
  refine rn ?_
  replace hH : HH w0 [] [[bl gc 109 (cCi.enc (boxF, bk boxF 256, (upF (16 * (l.length / 4 + 7)) (aeW l) fun _ => 0), (l.length / 4 + 6)))], E3, E4, [bl g1 62 ((cArr 16).enc (of0 (aeE l) N))], [bl g10 62 ((cArr 16).enc (aeE l (added (added (smL (thL (aeD l) (aeE l) (ocSt l) (ocDl l) (of0 (aeE l) N) (p.take (p.length - 16)))) (ofE (ocSt l) (ocDl l) (of0 (aeE l) N) (p.take (p.length - 16)).length)) (ocDl l))))]] w := hH.cast (by simp)
  refine zx ?_
  replace hH := hH.drew
  refine rld 0 (hH.q 4 rfl) (.ld (cArr 16) (aeE l (added (added (smL (thL (aeD l) (aeE l) (ocSt l) (ocDl l) (of0 (aeE l) N) (p.take (p.length - 16)))) (ofE (ocSt l) (ocDl l) (of0 (aeE l) N) (p.take (p.length - 16)).length)) (ocDl l))) (fun _ hS => (holds_blk0 hS))) 4 ?_
  refine rv 1 .mv 16 ?_
  refine rv 2 .mv 32 ?_
  refine rx1k 3 ?_
  refine re 3 1 hH rfl (.call Tryz.func38 (rhash_r go gc l hk (ocSt l) (ocDl l) E3 hOb5 (hH.notin 1 0 rfl rfl rfl) Aa ya a ha)) (⟨(hH.blk 0 rfl), (hH.vu hR.2.2.1 (by decide) (Off.nil _ _)), (hH.off 1 rfl hR.2.2.1 (by decide) (Off.nil _ _))⟩) 3 (.keep (.nil _ [])) ?_
  clear hH
  rintro _ E11 w ⟨rfl, hOb12⟩ hH
  refine ⟨pcons (hH.blk 4 rfl) pnil, ?_⟩
  refine rx1k 4 (rpc 4 Tryz.func37 (rxor_c (aeE l (added (added (smL (thL (aeD l) (aeE l) (ocSt l) (ocDl l) (of0 (aeE l) N) (p.take (p.length - 16)))) (ofE (ocSt l) (ocDl l) (of0 (aeE l) N) (p.take (p.length - 16)).length)) (ocDl l))) (hsL (aeE l) (ocSt l) (ocDl l) a)) trivial hH 3 (pgo [] (.nil _ [])) ?_)
  clear hH
  intro w hH
  refine ⟨pnil, ?_⟩
  refine rx1k 5 ?_
  refine re0 5 4 hH rfl (.sw (cArr 16) (aeE l (added (added (smL (thL (aeD l) (aeE l) (ocSt l) (ocDl l) (of0 (aeE l) N) (p.take (p.length - 16)))) (ofE (ocSt l) (ocDl l) (of0 (aeE l) N) (p.take (p.length - 16)).length)) (ocDl l))) (added (aeE l (added (added (smL (thL (aeD l) (aeE l) (ocSt l) (ocDl l) (of0 (aeE l) N) (p.take (p.length - 16)))) (ofE (ocSt l) (ocDl l) (of0 (aeE l) N) (p.take (p.length - 16)).length)) (ocDl l))) (hsL (aeE l) (ocSt l) (ocDl l) a))) trivial (.nil _ []) ?_
  clear hH
  rintro _ _ w rfl hH
  refine ⟨pnil, ?_⟩
  refine rn ?_
  refine cxSeq ?_
  refine zx ?_
  replace hH := hH.drew
  refine rv 0 (v := (.slice (some ⟨g10, 0, none⟩) 16 16)) (fun _ _ hF => opSliceA (n := 16) (e := 5) (sz := 1) rfl (by kernel_rfl) (by kernel_rfl) (hF.ev 2 rfl)) 5 ?_
  refine rld 1 (S := fun w => Vu cByte w (some ⟨g10, 0, none⟩) 16 16 (lst 16 (added (aeE l (added (added (smL (thL (aeD l) (aeE l) (ocSt l) (ocDl l) (of0 (aeE l) N) (p.take (p.length - 16)))) (ofE (ocSt l) (ocDl l) (of0 (aeE l) N) (p.take (p.length - 16)).length)) (ocDl l))) (hsL (aeE l) (ocSt l) (ocDl l) a)))) (vu_arr (hH.blk 4 rfl)) (v := (.string (strL (lst 16 (added (aeE l (added (added (smL (thL (aeD l) (aeE l) (ocSt l) (ocDl l) (of0 (aeE l) N) (p.take (p.length - 16)))) (ofE (ocSt l) (ocDl l) (of0 (aeE l) N) (p.take (p.length - 16)).length)) (ocDl l))) (hsL (aeE l) (ocSt l) (ocDl l) a)))))) (fun _ _ hF hS => opStr (e := 5) rfl (by kernel_rfl) (by kernel_rfl) (by kernel_rfl) (hF.ev 0 rfl) hS) 1 ?_
  refine rv 2 .mv 8 ?_
  refine rv 3 .mv 8 ?_
  refine rv 4 (v := (.slice (cutA Ap yp (p.length - 16) 1) (p.length - (p.length - 16)) (yp - (p.length - 16)))) (fun _ _ hF => opCutL (k := p.length - 16) (e := 5) (sz := 1) rfl (by kernel_rfl) (by kernel_rfl) (hF.ev 1 rfl) (hF.ev 0 rfl) rfl (by omega)) 3 ?_
  refine rld 5 (S := fun w => Vu cByte w (cutA Ap yp (p.length - 16) 1) (p.length - (p.length - 16)) (yp - (p.length - 16)) (p.drop (p.length - 16))) ((hH.vu hR.2.2.2 (by decide) (Off.nil _ _)).from (k := p.length - 16) (by omega)) (v := (.string (strL (p.drop (p.length - 16))))) (fun _ _ hF hS => opStr (e := 5) rfl (by kernel_rfl) (by kernel_rfl) (by kernel_rfl) (hF.ev 0 rfl) hS) 1 ?_
  refine rv 6 (v := (.bool (decide ((lst 16 (added (aeE l (added (added (smL (thL (aeD l) (aeE l) (ocSt l) (ocDl l) (of0 (aeE l) N) (p.take (p.length - 16)))) (ofE (ocSt l) (ocDl l) (of0 (aeE l) N) (p.take (p.length - 16)).length)) (ocDl l))) (hsL (aeE l) (ocSt l) (ocDl l) a))) ≠ (p.drop (p.length - 16)))))) (fun _ _ hF => opNeL (l := (lst 16 (added (aeE l (added (added (smL (thL (aeD l) (aeE l) (ocSt l) (ocDl l) (of0 (aeE l) N) (p.take (p.length - 16)))) (ofE (ocSt l) (ocDl l) (of0 (aeE l) N) (p.take (p.length - 16)).length)) (ocDl l))) (hsL (aeE l) (ocSt l) (ocDl l) a)))) (m := (p.drop (p.length - 16))) rfl (hF.ev 1 rfl) (hF.ev 0 rfl) Iff.rfl) 3 ?_
  refine rn ?_
  refine zP (fun hc13 => ?_) (fun hc13 => ?_)
  refine zr ?_
  refine zv .mv 3 ?_
  refine zv .mv 0 ?_
  refine zn ?_
  refine cxRet ?_
  refine qxThenR ?_
  refine qxRet2 1 0 rfl rfl rfl ?_
  have hg : ¬ ocG l N a p := fun h => hc13 (by have h2 := h.2; unfold ocT tgB at h2; rw [ocP_len, ← added_assoc] at h2; rw [htl]; exact h2)
  have hE : ocE l N a p = 5 := if_neg hg
  have hL : ocR l N a p = [] := if_neg hg
  exact ⟨_, _, rfl, ⟨_, by rw [hE]; rfl, hL ▸ OwnT.nil _ _⟩, HH.out (HH.pad hH 1) [false, false, false, false, false, true]⟩
  refine cxSkip ?_
  refine qxThen ?_
  refine zr ?_
  refine zv .mv 3 ?_
  refine zv .mv 1 ?_
  refine zv .mv 0 ?_
  refine zn ?_
  refine cxRet ?_
  refine qxRet2 1 0 rfl rfl rfl ?_
  have hq := Decidable.not_not.1 hc13
  have hg : ocG l N a p := ⟨h16, by unfold ocT tgB; rw [ocP_len, ← added_assoc]; rw [htl] at hq; exact hq⟩
  have hE : ocE l N a p = 0 := if_pos hg
  have hL : (thL (aeD l) (aeE l) (ocSt l) (ocDl l) (of0 (aeE l) N) (p.take (p.length - 16))) = ocR l N a p := (if_pos hg).symm
  rw [hL] at hOt6 ⊢
  exact ⟨_, _, rfl, ⟨_, by rw [hE]; rfl, hOt6⟩, hH.out1 [false, false, true, false, false] rfl⟩
  refine rm 9 hH (.al (cArr 16) (fun _ => 0)) trivial 0 (.keep (.nil _ [])) ?_
  clear hH
  rintro _ _ w ⟨g14, rfl, rfl⟩ hH
  refine ⟨pcons (hH.blk 2 rfl) pnil, ?_⟩
  refine rx1k 5 ?_
  refine re 5 1 hH rfl (.call Tryz.func36 (rthraeD_n go gc l hk (ocSt l) (ocDl l) Eb hOb0 (hH.notin 1 0 rfl rfl rfl) (of0 (aeE l) N) Ap (p.length - 16) yp (p.take (p.length - 16)) (by omega))) (⟨(hH.blk 0 rfl), ((hH.vu hR.2.2.2 (by decide) (Off.nil _ _)).head (m := p.length - 16) (by omega)), (fun b_ o_ hA_ _ => (hH.off 1 rfl hR.2.2.2 (by decide) (Off.nil _ _)) b_ o_ hA_ (by omega))⟩) 14 (pgo [] (.nil _ [])) ?_
  clear hH
  rintro _ _ w ⟨s19, E15, E16, rfl, rfl, hOb17, hOt18⟩ hH
  obtain ⟨A20, c21, rfl⟩ := hOt18.slice
  refine ⟨pnil, ?_⟩
  refine rv 6 .mv 1 ?_
  refine rv 7 .ext 0 ?_
  refine rv 8 .ext 2 ?_
  refine rv 10 .mv 2 ?_
  refine rx1k 11 ?_
  refine re0 11 3 hH rfl (.sw (cArr 16) (fun _ => 0) (aeE l (added (added (smL (thL (aeD l) (aeE l) (ocSt l) (ocDl l) (of0 (aeE l) N) (p.take (p.length - 16)))) (ofE (ocSt l) (ocDl l) (of0 (aeE l) N) (p.take (p.length - 16)).length)) (ocDl l)))) trivial (.nil _ []) ?_
  clear hH
  rintro _ _ w rfl hH
  refine ⟨pnil, ?_⟩
  refine rn ?_
  replace hH : HH w0 [] [[bl gc 109 (cCi.enc (boxF, bk boxF 256, (upF (16 * (l.length / 4 + 7)) (aeW l) fun _ => 0), (l.length / 4 + 6)))], E15, E16, [bl g1 62 ((cArr 16).enc (of0 (aeE l) N))], [bl g14 62 ((cArr 16).enc (aeE l (added (added (smL (thL (aeD l) (aeE l) (ocSt l) (ocDl l) (of0 (aeE l) N) (p.take (p.length - 16)))) (ofE (ocSt l) (ocDl l) (of0 (aeE l) N) (p.take (p.length - 16)).length)) (ocDl l))))]] w := hH.cast (by simp)
  refine zx ?_
  replace hH := hH.drew
  refine rld 0 (hH.q 4 rfl) (.ld (cArr 16) (aeE l (added (added (smL (thL (aeD l) (aeE l) (ocSt l) (ocDl l) (of0 (aeE l) N) (p.take (p.length - 16)))) (ofE (ocSt l) (ocDl l) (of0 (aeE l) N) (p.take (p.length - 16)).length)) (ocDl l))) (fun _ hS => (holds_blk0 hS))) 2 ?_
  refine rv 1 .mv 16 ?_
  refine rv 2 .mv 32 ?_
  refine rx1k 3 ?_
  refine re 3 1 hH rfl (.call Tryz.func38 (rhash_r go gc l hk (ocSt l) (ocDl l) E15 hOb17 (hH.notin 1 0 rfl rfl rfl) Aa ya a ha)) (⟨(hH.blk 0 rfl), (hH.vu hR.2.2.1 (by decide) (Off.nil _ _)), (hH.off 1 rfl hR.2.2.1 (by decide) (Off.nil _ _))⟩) 3 (.keep (.nil _ [])) ?_
  clear hH
  rintro _ E22 w ⟨rfl, hOb23⟩ hH
  refine ⟨pcons (hH.blk 4 rfl) pnil, ?_⟩
  refine rx1k 4 (rpc 4 Tryz.func37 (rxor_c (aeE l (added (added (smL (thL (aeD l) (aeE l) (ocSt l) (ocDl l) (of0 (aeE l) N) (p.take (p.length - 16)))) (ofE (ocSt l) (ocDl l) (of0 (aeE l) N) (p.take (p.length - 16)).length)) (ocDl l))) (hsL (aeE l) (ocSt l) (ocDl l) a)) trivial hH 3 (pgo [] (.nil _ [])) ?_)
  clear hH
  intro w hH
  refine ⟨pnil, ?_⟩
  refine rx1k 5 ?_
  refine re0 5 4 hH rfl (.sw (cArr 16) (aeE l (added (added (smL (thL (aeD l) (aeE l) (ocSt l) (ocDl l) (of0 (aeE l) N) (p.take (p.length - 16)))) (ofE (ocSt l) (ocDl l) (of0 (aeE l) N) (p.take (p.length - 16)).length)) (ocDl l))) (added (aeE l (added (added (smL (thL (aeD l) (aeE l) (ocSt l) (ocDl l) (of0 (aeE l) N) (p.take (p.length - 16)))) (ofE (ocSt l) (ocDl l) (of0 (aeE l) N) (p.take (p.length - 16)).length)) (ocDl l))) (hsL (aeE l) (ocSt l) (ocDl l) a))) trivial (.nil _ []) ?_
  clear hH
  rintro _ _ w rfl hH
  refine ⟨pnil, ?_⟩
  refine rn ?_
  refine cxSeq ?_
  refine zx ?_
  replace hH := hH.drew
  refine rv 0 (v := (.slice (some ⟨g14, 0, none⟩) 16 16)) (fun _ _ hF => opSliceA (n := 16) (e := 5) (sz := 1) rfl (by kernel_rfl) (by kernel_rfl) (hF.ev 2 rfl)) 5 ?_
  refine rld 1 (S := fun w => Vu cByte w (some ⟨g14, 0, none⟩) 16 16 (lst 16 (added (aeE l (added (added (smL (thL (aeD l) (aeE l) (ocSt l) (ocDl l) (of0 (aeE l) N) (p.take (p.length - 16)))) (ofE (ocSt l) (ocDl l) (of0 (aeE l) N) (p.take (p.length - 16)).length)) (ocDl l))) (hsL (aeE l) (ocSt l) (ocDl l) a)))) (vu_arr (hH.blk 4 rfl)) (v := (.string (strL (lst 16 (added (aeE l (added (added (smL (thL (aeD l) (aeE l) (ocSt l) (ocDl l) (of0 (aeE l) N) (p.take (p.length - 16)))) (ofE (ocSt l) (ocDl l) (of0 (aeE l) N) (p.take (p.length - 16)).length)) (ocDl l))) (hsL (aeE l) (ocSt l) (ocDl l) a)))))) (fun _ _ hF hS => opStr (e := 5) rfl (by kernel_rfl) (by kernel_rfl) (by kernel_rfl) (hF.ev 0 rfl) hS) 1 ?_
  refine rv 2 .mv 8 ?_
  refine rv 3 .mv 8 ?_
  refine rv 4 (v := (.slice (cutA Ap yp (p.length - 16) 1) (p.length - (p.length - 16)) (yp - (p.length - 16)))) (fun _ _ hF => opCutL (k := p.length - 16) (e := 5) (sz := 1) rfl (by kernel_rfl) (by kernel_rfl) (hF.ev 1 rfl) (hF.ev 0 rfl) rfl (by omega)) 3 ?_
  refine rld 5 (S := fun w => Vu cByte w (cutA Ap yp (p.length - 16) 1) (p.length - (p.length - 16)) (yp - (p.length - 16)) (p.drop (p.length - 16))) ((hH.vu hR.2.2.2 (by decide) (Off.nil _ _)).from (k := p.length - 16) (by omega)) (v := (.string (strL (p.drop (p.length - 16))))) (fun _ _ hF hS => opStr (e := 5) rfl (by kernel_rfl) (by kernel_rfl) (by kernel_rfl) (hF.ev 0 rfl) hS) 1 ?_
  refine rv 6 (v := (.bool (decide ((lst 16 (added (aeE l (added (added (smL (thL (aeD l) (aeE l) (ocSt l) (ocDl l) (of0 (aeE l) N) (p.take (p.length - 16)))) (ofE (ocSt l) (ocDl l) (of0 (aeE l) N) (p.take (p.length - 16)).length)) (ocDl l))) (hsL (aeE l) (ocSt l) (ocDl l) a))) ≠ (p.drop (p.length - 16)))))) (fun _ _ hF => opNeL (l := (lst 16 (added (aeE l (added (added (smL (thL (aeD l) (aeE l) (ocSt l) (ocDl l) (of0 (aeE l) N) (p.take (p.length - 16)))) (ofE (ocSt l) (ocDl l) (of0 (aeE l) N) (p.take (p.length - 16)).length)) (ocDl l))) (hsL (aeE l) (ocSt l) (ocDl l) a)))) (m := (p.drop (p.length - 16))) rfl (hF.ev 1 rfl) (hF.ev 0 rfl) Iff.rfl) 3 ?_
  refine rn ?_
  refine zP (fun hc24 => ?_) (fun hc24 => ?_)
  refine zr ?_
  refine zv .mv 3 ?_
  refine zv .mv 0 ?_
  refine zn ?_
  refine cxRet ?_
  refine qxThenR ?_
  refine qxRet2 1 0 rfl rfl rfl ?_
  have hg : ¬ ocG l N a p := fun h => hc24 (by have h2 := h.2; unfold ocT tgB at h2; rw [ocP_len, ← added_assoc] at h2; rw [htl]; exact h2)
  have hE : ocE l N a p = 5 := if_neg hg
  have hL : ocR l N a p = [] := if_neg hg
  exact ⟨_, _, rfl, ⟨_, by rw [hE]; rfl, hL ▸ OwnT.nil _ _⟩, HH.out (HH.pad hH 1) [false, false, false, false, false, true]⟩
  refine cxSkip ?_
  refine qxThen ?_
  refine zr ?_
  refine zv .mv 3 ?_
  refine zv .mv 1 ?_
  refine zv .mv 0 ?_
  refine zn ?_
  refine cxRet ?_
  refine qxRet2 1 0 rfl rfl rfl ?_
  have hq := Decidable.not_not.1 hc24
  have hg : ocG l N a p := ⟨h16, by unfold ocT tgB; rw [ocP_len, ← added_assoc]; rw [htl] at hq; exact hq⟩
  have hE : ocE l N a p = 0 := if_pos hg
  have hL : (thL (aeD l) (aeE l) (ocSt l) (ocDl l) (of0 (aeE l) N) (p.take (p.length - 16))) = ocR l N a p := (if_pos hg).symm
  rw [hL] at hOt18 ⊢
  exact ⟨_, _, rfl, ⟨_, by rw [hE]; rfl, hOt18⟩, hH.out1 [false, false, true, false, false] rfl⟩
end Go.Proofs.YtfloiekaiiapnaaGreatDoor

namespace Go.Proofs.YtfloiekaiiapnaaGreatDoor
open Go Go.RowKit
set_option maxRecDepth 100000

theorem ropen_n (A : Option Addr) (k z : Nat) (l : List UInt8) (hk : l.length = 32) (B : Option Addr) (n y : Nat) (N : List UInt8) (hN : N.length = 15) (Aa : Option Addr) (m ya : Nat) (a : List UInt8) (ha : a.length ≤ 100000000) (Ap : Option Addr) (q yp : Nat) (p : List UInt8) (hp : p.length ≤ 100000000) : Does Tryz.prog 24 #[(.slice A k z), (.slice B n y), (.slice Aa m ya), (.slice Ap q yp)] [] (fun w => Vu cByte w A k z l ∧ Vu cByte w B n y N ∧ Vu cByte w Aa m ya a ∧ Vu cByte w Ap q yp p) (fun v E' => ∃ s, v = .tuple #[s, .int .i64 (((ocE l N a p) : Nat) : Int)] ∧ OwnT cByte 5 s (ocR l N a p) E') := fun w hE hR => by
  obtain rfl := hR.1.len
  obtain rfl := hR.2.1.len
  obtain rfl := hR.2.2.1.len
  obtain rfl := hR.2.2.2.len
  exact ropen_o A z l (.inr hk) B y N (by omega) (by omega) Aa ya a (by omega) Ap yp p (by omega) w hE hR
/-- What a body opens to: the error, the bytes. -/
def spA (S B : List UInt8) : Nat := if B.length < 36 ∨ (B.getD 0 0).toNat ≠ 2 then 2 else if (B.getD 1 0).toNat ≠ 9 ∨ (B.getD 2 0).toNat ≠ 2 ∨ 10 < (B.getD 3 0).toNat then 10 else if (spOpen S B).isSome then 0 else 5
def spZ (S B : List UInt8) : List UInt8 := if spA S B = 0 then (spOpen S B).getD [] else []
section
variable {S B : List UInt8}
theorem getD_of {l : List UInt8} {k : Nat} {x : UInt8} (h : l[k]? = some x) : l.getD k 0 = x := by rw [List.getD_eq_getElem?_getD, h]; rfl
theorem spZ_bad {e : Nat} (h : spA S B = e) (he : e ≠ 0) : spZ S B = [] := by unfold spZ; rw [h, if_neg he]
theorem spA_1 (h : B.length < 36 ∨ (B.getD 0 0).toNat ≠ 2) : spA S B = 2 := if_pos h
theorem spA_2 (h : ¬ (B.length < 36 ∨ (B.getD 0 0).toNat ≠ 2)) (h2 : (B.getD 1 0).toNat ≠ 9 ∨ (B.getD 2 0).toNat ≠ 2 ∨ 10 < (B.getD 3 0).toNat) : spA S B = 10 := by unfold spA; rw [if_neg h, if_pos h2]
theorem spA_5 (h : ¬ (B.length < 36 ∨ (B.getD 0 0).toNat ≠ 2)) (h2 : ¬ ((B.getD 1 0).toNat ≠ 9 ∨ (B.getD 2 0).toNat ≠ 2 ∨ 10 < (B.getD 3 0).toNat)) (h3 : spOpen S B = none) : spA S B = 5 := by unfold spA; rw [if_neg h, if_neg h2, h3]; rfl
theorem spA_0 (h : ¬ (B.length < 36 ∨ (B.getD 0 0).toNat ≠ 2)) (h2 : ¬ ((B.getD 1 0).toNat ≠ 9 ∨ (B.getD 2 0).toNat ≠ 2 ∨ 10 < (B.getD 3 0).toNat)) {O : List UInt8} (h3 : spOpen S B = some O) : spA S B = 0 ∧ spZ S B = O := by
  have e : spA S B = 0 := by unfold spA; rw [if_neg h, if_neg h2, h3]; rfl
  exact ⟨e, by unfold spZ; rw [if_pos e, h3]; rfl⟩
end
theorem ocE_0 {K N A S : List UInt8} (h : ¬ ocE K N A S ≠ 0) : ocG K N A S ∧ ocR K N A S = ocP K N S := by
  by_cases g : ocG K N A S
  · exact ⟨g, if_pos g⟩
  · exact absurd (by unfold ocE; rw [if_neg g]; decide) h
theorem ocE_1 {K N A S : List UInt8} (h : ocE K N A S ≠ 0) : ¬ ocG K N A S := fun g => h (if_pos g)

set_option maxHeartbeats 8000000 in
theorem ropenb_c (s : Nat → UInt8) (A : Option Addr) (y : Nat) (b : List UInt8) (hb : b.length ≤ 20000) : Does Tryz.prog 10 #[((cArr 32).val s), (.slice A b.length y)] [] (fun w => Vu cByte w A b.length y b) (fun v E' => ∃ o, v = .tuple #[o, .int .i64 ((spA (lst 32 s) b : Nat) : Int)] ∧ OwnT cByte 5 o (spZ (lst 32 s) b) E') := by
  refine does_of (fn := Tryz.f10) Tryz.func10 rfl Tryz.ntmps10 (Nat.le_of_ble_eq_true rfl) rfl ?_
  intro w0 hH hR
  replace hH : HH w0 [] [] w0 := hH.only [false]
  have hcp := hR.cap
  refine zr ?_
  refine zm hH (.bx (cArr 32) s) trivial 1 ?_
  clear hH
  rintro _ _ w ⟨g1, rfl, rfl⟩ hH
  refine zv .mv 0 ?_
  refine zv .mv 1 ?_
  refine zn ?_
  refine cxSeq ?_
  refine cxBlock ?_
  refine zr ?_
  refine zv .mv 1 ?_
  refine zv .len 1 ?_
  refine zv (.lt (b.length < 36)) 1 ?_
  refine zv .mv 1 ?_
  refine pxSplitP 0 rfl (l1 := [(22, (.bool true)), (2, (.pointer (some ⟨g1, 0, none⟩))), (1, (.slice A b.length y))]) (l2 := [(22, (.bool false)), (2, (.pointer (some ⟨g1, 0, none⟩))), (1, (.slice A b.length y))]) rfl rfl (fun hg2 => ?_) (fun hg2 => ?_)
  refine pxU rfl (gOff 0 rfl rfl rfl (by decide)) (kA rfl) (by decide) ?_
  refine pxU rfl (gOff 0 rfl rfl rfl (by decide)) (kA rfl) (by decide) ?_
  refine pxU rfl (gOff 0 rfl rfl rfl (by decide)) (kA rfl) (by decide) ?_
  refine pxU rfl (gOff 0 rfl rfl rfl (by decide)) (kA rfl) (by decide) ?_
  refine zv (v := (.bool true)) (fun _ _ hF => opPickT rfl (hF.ev 0 rfl) rfl) 1 ?_
  refine zv .mv 1 ?_
  refine zn ?_
  refine zT ?_
  refine zr ?_
  refine zv .mv 7 ?_
  refine zv .mv 0 ?_
  refine zn ?_
  refine cxRet ?_
  refine qxInR ?_
  refine qxThenR ?_
  refine qxRet2 1 0 rfl rfl rfl ?_
  have hA : spA (lst 32 s) b = 2 := spA_1 (.inl hg2)
  exact ⟨_, _, rfl, ⟨_, by rw [hA]; rfl, by rw [spZ_bad hA (by decide)]; exact OwnT.nil _ _⟩, hH.out [false]⟩
  refine pxV (v := (.slice A b.length y)) (fun _ _ hF => opMove rfl (hF.ev 2 rfl)) rfl (gOn 0 rfl rfl rfl (by decide)) (kA rfl) (by decide) ?_
  have hi3 : 0 < b.length := by omega
  obtain ⟨b4, off5, rfl, hL6, hb7, hR8⟩ := hR.blk (by decide) (Off.nil _ _) (by omega)
  have := hR.cap
  have hj11 : 0 < b.length := by first | exact hi3 | (simp only [List.length_drop]; omega) | (simp only [List.length_drop, List.length_take]; omega) | omega
  obtain ⟨x9, hx10⟩ := get_at b 0 hj11
  have hb12 := UInt8.toNat_lt x9
  refine pxV (v := (.pointer (some ⟨b4, off5 + 0 * 1, none⟩))) (fun _ _ hF => opIndex (i := 0) (e := 5) (sz := 1) rfl (by kernel_rfl) (by kernel_rfl) (hF.ev 0 rfl) rfl rfl hi3) rfl (gOn 1 rfl rfl rfl (by decide)) (kM [false, true, true, true] rfl rfl) (by decide) ?_
  refine pxS (v := (.int .u8 (((x9.toNat) : Nat) : Int))) (fun w => HoldsL cByte w b4 off5 b) (hH.holdsL hL6 hb7 hR8) (fun _ _ hF hS => opLoadT (C := cByte) (y := x9) rfl (hF.ev 0 rfl) (by kernel_rfl) (hS 0 _ hx10) rfl) rfl (gOn 1 rfl rfl rfl (by decide)) (kM [false, true, true, true] rfl rfl) (by decide) ?_
  refine pxV (v := (.bool (decide (x9.toNat ≠ 2)))) (fun _ _ hF => opNeI rfl (hF.ev 0 rfl) rfl (dc (by omega))) rfl (gOn 1 rfl rfl rfl (by decide)) (kM [false, true, true, true] rfl rfl) (by decide) ?_
  refine zv (v := (.bool (decide (x9.toNat ≠ 2)))) (fun _ _ hF => opPickF rfl (hF.ev 1 rfl) (hF.ev 0 rfl)) 3 ?_
  refine zv .mv 1 ?_
  refine zn ?_
  refine zP (fun hc13 => ?_) (fun hc13 => ?_)
  refine zr ?_
  refine zv .mv 7 ?_
  refine zv .mv 0 ?_
  refine zn ?_
  refine cxRet ?_
  refine qxInR ?_
  refine qxThenR ?_
  refine qxRet2 1 0 rfl rfl rfl ?_
  have hA : spA (lst 32 s) b = 2 := spA_1 (.inr (by rw [getD_of hx10]; exact hc13))
  exact ⟨_, _, rfl, ⟨_, by rw [hA]; rfl, by rw [spZ_bad hA (by decide)]; exact OwnT.nil _ _⟩, hH.out [false]⟩
  refine zr ?_
  refine zv .mv 1 ?_
  have hi14 : 1 < b.length := by omega
  have hj17 : 1 < b.length := by first | exact hi14 | (simp only [List.length_drop]; omega) | (simp only [List.length_drop, List.length_take]; omega) | omega
  obtain ⟨x15, hx16⟩ := get_at b 1 hj17
  have hb18 := UInt8.toNat_lt x15
  refine zv (.ix 1 1 (hi := hi14)) 1 ?_
  refine zs (S := fun w => HoldsL cByte w b4 off5 b) (hH.holdsL hL6 hb7 hR8) (.ld cByte x15 (fun _ hS => (hS 1 _ hx16))) 1 ?_
  refine zv (.ne (x15.toNat ≠ 9)) 1 ?_
  refine zv .mv 1 ?_
  refine pxSplitP 0 rfl (l1 := [(33, (.bool true)), (2, (.pointer (some ⟨g1, 0, none⟩))), (1, (.slice (some ⟨b4, off5, none⟩) b.length y))]) (l2 := [(33, (.bool false)), (2, (.pointer (some ⟨g1, 0, none⟩))), (1, (.slice (some ⟨b4, off5, none⟩) b.length y))]) rfl rfl (fun hg19 => ?_) (fun hg19 => ?_)
  refine pxU rfl (gOff 0 rfl rfl rfl (by decide)) (kA rfl) (by decide) ?_
  refine pxU rfl (gOff 0 rfl rfl rfl (by decide)) (kA rfl) (by decide) ?_
  refine pxU rfl (gOff 0 rfl rfl rfl (by decide)) (kA rfl) (by decide) ?_
  refine pxU rfl (gOff 0 rfl rfl rfl (by decide)) (kA rfl) (by decide) ?_
  refine zv (v := (.bool true)) (fun _ _ hF => opPickT rfl (hF.ev 0 rfl) rfl) 1 ?_
  refine zv .mv 1 ?_
  refine pxU rfl (gOff 0 rfl rfl rfl (by decide)) (kA rfl) (by decide) ?_
  refine pxU rfl (gOff 0 rfl rfl rfl (by decide)) (kA rfl) (by decide) ?_
  refine pxU rfl (gOff 0 rfl rfl rfl (by decide)) (kA rfl) (by decide) ?_
  refine pxU rfl (gOff 0 rfl rfl rfl (by decide)) (kA rfl) (by decide) ?_
  refine zv (v := (.bool true)) (fun _ _ hF => opPickT rfl (hF.ev 0 rfl) rfl) 1 ?_
  refine zv .mv 1 ?_
  refine zn ?_
  refine zT ?_
  refine zr ?_
  refine zv .mv 7 ?_
  refine zv .mv 0 ?_
  refine zn ?_
  refine cxRet ?_
  refine qxInR ?_
  refine qxThenR ?_
  refine qxRet2 1 0 rfl rfl rfl ?_
  have hA : spA (lst 32 s) b = 10 := spA_2 (by rw [getD_of hx10]; omega) (.inl (by rw [getD_of hx16]; exact hg19))
  exact ⟨_, _, rfl, ⟨_, by rw [hA]; rfl, by rw [spZ_bad hA (by decide)]; exact OwnT.nil _ _⟩, hH.out [false]⟩
  refine pxV (v := (.slice (some ⟨b4, off5, none⟩) b.length y)) (fun _ _ hF => opMove rfl (hF.ev 2 rfl)) rfl (gOn 0 rfl rfl rfl (by decide)) (kA rfl) (by decide) ?_
  have hi20 : 2 < b.length := by omega
  have hj23 : 2 < b.length := by first | exact hi20 | (simp only [List.length_drop]; omega) | (simp only [List.length_drop, List.length_take]; omega) | omega
  obtain ⟨x21, hx22⟩ := get_at b 2 hj23
  have hb24 := UInt8.toNat_lt x21
  refine pxV (v := (.pointer (some ⟨b4, off5 + 2 * 1, none⟩))) (fun _ _ hF => opIndex (i := 2) (e := 5) (sz := 1) rfl (by kernel_rfl) (by kernel_rfl) (hF.ev 0 rfl) rfl rfl hi20) rfl (gOn 1 rfl rfl rfl (by decide)) (kM [false, true, true, true] rfl rfl) (by decide) ?_
  refine pxS (v := (.int .u8 (((x21.toNat) : Nat) : Int))) (fun w => HoldsL cByte w b4 off5 b) (hH.holdsL hL6 hb7 hR8) (fun _ _ hF hS => opLoadT (C := cByte) (y := x21) rfl (hF.ev 0 rfl) (by kernel_rfl) (hS 2 _ hx22) rfl) rfl (gOn 1 rfl rfl rfl (by decide)) (kM [false, true, true, true] rfl rfl) (by decide) ?_
  refine pxV (v := (.bool (decide (x21.toNat ≠ 2)))) (fun _ _ hF => opNeI rfl (hF.ev 0 rfl) rfl (dc (by omega))) rfl (gOn 1 rfl rfl rfl (by decide)) (kM [false, true, true, true] rfl rfl) (by decide) ?_
  refine zv (v := (.bool (decide (x21.toNat ≠ 2)))) (fun _ _ hF => opPickF rfl (hF.ev 1 rfl) (hF.ev 0 rfl)) 3 ?_
  refine zv .mv 1 ?_
  refine pxSplitP 0 rfl (l1 := [(39, (.bool true)), (2, (.pointer (some ⟨g1, 0, none⟩))), (1, (.slice (some ⟨b4, off5, none⟩) b.length y))]) (l2 := [(39, (.bool false)), (2, (.pointer (some ⟨g1, 0, none⟩))), (1, (.slice (some ⟨b4, off5, none⟩) b.length y))]) rfl rfl (fun hg25 => ?_) (fun hg25 => ?_)
  refine pxU rfl (gOff 0 rfl rfl rfl (by decide)) (kA rfl) (by decide) ?_
  refine pxU rfl (gOff 0 rfl rfl rfl (by decide)) (kA rfl) (by decide) ?_
  refine pxU rfl (gOff 0 rfl rfl rfl (by decide)) (kA rfl) (by decide) ?_
  refine pxU rfl (gOff 0 rfl rfl rfl (by decide)) (kA rfl) (by decide) ?_
  refine zv (v := (.bool true)) (fun _ _ hF => opPickT rfl (hF.ev 0 rfl) rfl) 1 ?_
  refine zv .mv 1 ?_
  refine zn ?_
  refine zT ?_
  refine zr ?_
  refine zv .mv 7 ?_
  refine zv .mv 0 ?_
  refine zn ?_
  refine cxRet ?_
  refine qxInR ?_
  refine qxThenR ?_
  refine qxRet2 1 0 rfl rfl rfl ?_
  have hA : spA (lst 32 s) b = 10 := spA_2 (by rw [getD_of hx10]; omega) (.inr (.inl (by rw [getD_of hx22]; exact hg25)))
  exact ⟨_, _, rfl, ⟨_, by rw [hA]; rfl, by rw [spZ_bad hA (by decide)]; exact OwnT.nil _ _⟩, hH.out [false]⟩
  refine pxV (v := (.slice (some ⟨b4, off5, none⟩) b.length y)) (fun _ _ hF => opMove rfl (hF.ev 2 rfl)) rfl (gOn 0 rfl rfl rfl (by decide)) (kA rfl) (by decide) ?_
  have hi26 : 3 < b.length := by omega
  have hj29 : 3 < b.length := by first | exact hi26 | (simp only [List.length_drop]; omega) | (simp only [List.length_drop, List.length_take]; omega) | omega
  obtain ⟨x27, hx28⟩ := get_at b 3 hj29
  have hb30 := UInt8.toNat_lt x27
  refine pxV (v := (.pointer (some ⟨b4, off5 + 3 * 1, none⟩))) (fun _ _ hF => opIndex (i := 3) (e := 5) (sz := 1) rfl (by kernel_rfl) (by kernel_rfl) (hF.ev 0 rfl) rfl rfl hi26) rfl (gOn 1 rfl rfl rfl (by decide)) (kM [false, true, true, true] rfl rfl) (by decide) ?_
  refine pxS (v := (.int .u8 (((x27.toNat) : Nat) : Int))) (fun w => HoldsL cByte w b4 off5 b) (hH.holdsL hL6 hb7 hR8) (fun _ _ hF hS => opLoadT (C := cByte) (y := x27) rfl (hF.ev 0 rfl) (by kernel_rfl) (hS 3 _ hx28) rfl) rfl (gOn 1 rfl rfl rfl (by decide)) (kM [false, true, true, true] rfl rfl) (by decide) ?_
  refine pxV (v := (.bool (decide (x27.toNat > 10)))) (fun _ _ hF => opGtr rfl (hF.ev 0 rfl) rfl (dc (by omega))) rfl (gOn 1 rfl rfl rfl (by decide)) (kM [false, true, true, true] rfl rfl) (by decide) ?_
  refine zv (v := (.bool (decide (x27.toNat > 10)))) (fun _ _ hF => opPickF rfl (hF.ev 1 rfl) (hF.ev 0 rfl)) 3 ?_
  refine zv .mv 1 ?_
  refine zn ?_
  refine zP (fun hc31 => ?_) (fun hc31 => ?_)
  refine zr ?_
  refine zv .mv 7 ?_
  refine zv .mv 0 ?_
  refine zn ?_
  refine cxRet ?_
  refine qxInR ?_
  refine qxThenR ?_
  refine qxRet2 1 0 rfl rfl rfl ?_
  have hA : spA (lst 32 s) b = 10 := spA_2 (by rw [getD_of hx10]; omega) (.inr (.inr (by rw [getD_of hx28]; exact hc31)))
  exact ⟨_, _, rfl, ⟨_, by rw [hA]; rfl, by rw [spZ_bad hA (by decide)]; exact OwnT.nil _ _⟩, hH.out [false]⟩
  refine cxSkip ?_
  refine qxInN ?_
  refine qxThen ?_
  have e0 : b.getD 0 0 = x9 := getD_of hx10
  have e1 : b.getD 1 0 = x15 := getD_of hx16
  have e2 : b.getD 2 0 = x21 := getD_of hx22
  have e3 : b.getD 3 0 = x27 := getD_of hx28
  have hok : ¬ (b.length < 36 ∨ (b.getD 0 0).toNat ≠ 2) := by rw [e0]; omega
  have hok2 : ¬ ((b.getD 1 0).toNat ≠ 9 ∨ (b.getD 2 0).toNat ≠ 2 ∨ 10 < (b.getD 3 0).toNat) := by rw [e1, e2, e3]; omega
  have hzz := z_le (c := x27.toNat) (by omega)
  obtain ⟨z, hz⟩ : ∃ z, z = 64 * 2 ^ x27.toNat := ⟨_, rfl⟩
  rw [← hz] at hzz
  obtain ⟨hz1, hz2⟩ := hzz
  obtain ⟨D, hD⟩ : ∃ D, D = spD (lst 32 s) ((b.take 36).drop 4) x27.toNat := ⟨_, rfl⟩
  obtain ⟨I, hI⟩ : ∃ I, I = spI x27.toNat := ⟨_, rfl⟩
  have hDl : D.length = 39 := by rw [hD]; exact spD_len _ _ _
  have hIl : I.length = 5 := by rw [hI]; rfl
  obtain ⟨W, hW⟩ : ∃ W, W = spOpen (lst 32 s) b := ⟨_, rfl⟩
  have hW0 : spO (D.take 32) (D.drop 32) I z (b.length - 36) 0 (b.drop 36) [] = W := by rw [hW]; unfold spOpen spKey spBeg; rw [e3, show 2 ^ (6 + x27.toNat) = z from by rw [hz, Nat.pow_add], show (b.drop 4).take 32 = (b.take 36).drop 4 from by rw [List.drop_take], ← hD, ← hI]
  refine zx ?_
  replace hH := hH.drew
  refine rld 0 (hH.q 0 rfl) (.ld (cArr 32) s (fun _ hS => (holds_blk0 hS))) 3 ?_
  refine rv 1 .mv 0 ?_
  refine rv 2 (v := (.slice (cutA (some ⟨b4, off5, none⟩) y 4 1) (36 - 4) (y - 4))) (fun _ _ hF => opCutLH (k := 4) (h := 36) (e := 5) (sz := 1) rfl (by kernel_rfl) (by kernel_rfl) (hF.ev 0 rfl) rfl rfl rfl rfl (by omega) (by omega)) 1 ?_
  refine rv 3 .mv 0 ?_
  have hi32 : 3 < b.length := by omega
  have hj35 : 3 < b.length := by first | exact hi32 | (simp only [List.length_drop]; omega) | (simp only [List.length_drop, List.length_take]; omega) | omega
  refine rv 4 (.ix 1 3 (hi := hi32)) 1 ?_
  refine rld 5 (S := fun w => HoldsL cByte w b4 off5 b) (hH.holdsL hL6 hb7 hR8) (.ld cByte x27 (fun _ hS => (hS 3 _ hx28))) 1 ?_
  refine rv 6 .ci 1 ?_
  refine rx1k 7 ?_
  refine rm 7 hH (.call Tryz.func17 ((rkeyed_n s (cutA (some ⟨b4, off5, none⟩) y 4 1) (36 - 4) (y - 4) ((b.take 36).drop 4) (by rw [List.length_drop, List.length_take]; omega) x27.toNat))) ((hH.vu hR (by decide) (Off.nil _ _)).cut (k := 4) (m := 36) (by omega) (by omega)) 7 (pgo [6] (pgo [] (.nil _ []))) ?_
  clear hH
  rintro _ _ w ⟨B36, d37, si38, Ek39, Ei40, rfl, rfl, hk41, hi42⟩ hH
  rw [← hD] at hk41
  rw [← hI] at hi42
  obtain ⟨Ai43, ci44, rfl⟩ := hi42.slice
  have hdcap := hk41.capLe
  refine ⟨pnil, ?_⟩
  refine rv 8 .mv 1 ?_
  refine rv 9 .ext 0 ?_
  refine rv 10 .ext 0 ?_
  refine rv 11 .ext 4 ?_
  refine rv 12 .mv 4 ?_
  refine rv 13 .mv 4 ?_
  refine rv 14 .mv 4 ?_
  refine rn ?_
  replace hH : HH w0 [] [[bl g1 22 ((cArr 32).enc s)], Ei40, Ek39] w := hH.cast (by simp)
  refine zr ?_
  refine zv .mv 0 ?_
  refine zv (v := (.slice (cutA (some ⟨b4, off5, none⟩) y 36 1) (b.length - 36) (y - 36))) (fun _ _ hF => opCutL (k := 36) (e := 5) (sz := 1) rfl (by kernel_rfl) (by kernel_rfl) (hF.ev 0 rfl) rfl rfl (by omega)) 1 ?_
  refine zv .mv 1 ?_
  refine zn ?_
  refine zr ?_
  refine zv .mv 16 ?_
  have hi45 : 3 < b.length := by omega
  have hj48 : 3 < b.length := by first | exact hi45 | (simp only [List.length_drop]; omega) | (simp only [List.length_drop, List.length_take]; omega) | omega
  refine zv (.ix 1 3 (hi := hi45)) 1 ?_
  refine zs (S := fun w => HoldsL cByte w b4 off5 b) (hH.holdsL hL6 hb7 hR8) (.ld cByte x27 (fun _ hS => (hS 3 _ hx28))) 1 ?_
  refine zv (v := (.int .i64 (((z) : Nat) : Int))) (fun _ _ hF => opShlI (m := 64) (n := x27.toNat) (z := z) rfl rfl (hF.ev 0 rfl) (by omega) (by rw [hz]) (by omega)) 1 ?_
  refine zv (.add ((((z + 16)) : Nat) : Int)) 1 ?_
  refine zv .mv 1 ?_
  refine zn ?_
  refine zr ?_
  refine zv .mv 0 ?_
  refine zn ?_
  refine zr ?_
  refine zv .mv 0 ?_
  refine zn ?_
  refine cxSeq ?_
  refine cxBlock ?_
  replace hH := HH.pad hH 1
  replace hH : HH w0 [] [[bl g1 22 ((cArr 32).enc s)], Ei40, Ek39, []] w := hH
  refine zL9 (fun (i : Nat) (A1 : Option Addr) (c1 : Nat) (O : List UInt8) (_ : Hl) (A2 : Option Addr) (n2 : Nat) (c2 : Nat) (_ : List UInt8) => [(12, (.int .i64 (((i) : Nat) : Int))), (11, (.slice A1 O.length c1)), (10, (.int .i64 ((((z + 16)) : Nat) : Int))), (9, (.slice A2 n2 c2)), (8, (.slice Ai43 I.length ci44)), (7, (.slice (cutA B36 d37 32 1) 7 (d37 - 32))), (6, (.slice B36 32 d37))]) (fun i A1 c1 O E1 A2 n2 c2 R w => HH w0 [] [[bl g1 22 ((cArr 32).enc s)], Ei40, Ek39, E1] w ∧ (OwnT cByte 5 (.slice A1 O.length c1) O E1) ∧ (Vu cByte w0 A2 n2 c2 R) ∧ (∃ f, n2 ≤ f ∧ spO (D.take 32) (D.drop 32) I z f i R O = W) ∧ (i + n2 ≤ 20000) ∧ (O.length + n2 ≤ 20000)) (fun _ _ _ _ _ _ n2 _ _ => n2) 0 none 0 ([]) ([]) (cutA (some ⟨b4, off5, none⟩) y 36 1) (b.length - 36) (y - 36) (b.drop 36) ⟨hH, (OwnT.nil _ _), (hR.from (k := 36) (by omega)), ⟨_, Nat.le_refl _, hW0⟩, (by omega), (by simp only [List.length_nil]; omega)⟩ ?_
  clear hH
  rintro i A1 c1 O E1 A2 n2 c2 R w ⟨hH, hO, hV, hop, hik, hOl⟩
  refine cxSeq ?_
  refine zr ?_
  refine zv .mv 0 ?_
  refine zv .len 1 ?_
  refine zv (.gt (n2 > 16)) 1 ?_
  refine zn ?_
  refine zP (fun hc49 => ?_) (fun hc49 => ?_)
  refine cxSkip ?_
  refine qxThen ?_
  refine cxBlock ?_
  have hcp2 := hV.cap
  refine zr ?_
  refine zv .mv 1 ?_
  refine zv .mv 0 ?_
  refine zv .len 1 ?_
  refine zv (.sub ((((n2 - 16)) : Nat) : Int)) 1 ?_
  refine zv (v := (.int .i64 (((min (z + 16) (n2 - 16)) : Nat) : Int))) (fun _ _ hF => opMin rfl (hF.ev 1 rfl) (hF.ev 0 rfl) (by omega)) 3 ?_
  refine zv .mv 1 ?_
  refine zn ?_
  refine zx ?_
  replace hH := hH.drew
  refine rv 0 .mv 0 ?_
  refine rv 1 .mv 0 ?_
  refine rv 2 .mv 0 ?_
  refine rv 4 .mv 0 ?_
  refine rv 5 .mv 0 ?_
  refine rv 6 .mv 0 ?_
  refine rv 7 (v := (.slice A2 (min (z + 16) (n2 - 16)) c2)) (fun _ _ hF => opCutH (h := min (z + 16) (n2 - 16)) (e := 5) (sz := 1) rfl (by kernel_rfl) (by kernel_rfl) (hF.ev 1 rfl) (hF.ev 0 rfl) rfl (by omega)) 3 ?_
  refine rx1k 3 ?_
  refine rm 3 hH (.call Tryz.func20 ((rnonce_c (cutA B36 d37 32 1) 7 (d37 - 32) (D.drop 32) (by rw [List.length_drop]; omega) i (by omega)))) ((hk41.vuAt (hH.has 2 rfl)).from (k := 32) (by omega)) 12 (.nil _ []) ?_
  clear hH
  rintro v54 E50 w hO51 hH
  obtain ⟨A52, c53, rfl⟩ := hO51.slice
  refine ⟨pnil, ?_⟩
  refine rx1k 8 ?_
  refine rm 8 hH (.call Tryz.func24 ((ropen_n B36 32 d37 (D.take 32) (by rw [List.length_take]; omega) A52 ((spN (D.drop 32) i).length) c53 (spN (D.drop 32) i) (spN_len (by rw [List.length_drop]; omega) _) Ai43 I.length ci44 I (by omega) A2 (min (z + 16) (n2 - 16)) c2 (R.take (min (z + 16) (n2 - 16))) (by simp only [List.length_take]; omega)))) (⟨((hk41.vuAt (hH.has 2 rfl)).head (m := 32) (by omega)), (hO51.vuAt (hH.has 4 rfl)), (hi42.vuAt (hH.has 1 rfl)), ((hH.vu hV (by decide) (Off.nil _ _)).head (m := min (z + 16) (n2 - 16)) (by omega))⟩) 15 (.nil _ []) ?_
  clear hH
  rintro _ E57 w ⟨s56, rfl, hO58⟩ hH
  obtain ⟨A59, c60, rfl⟩ := hO58.slice
  refine ⟨pnil, ?_⟩
  refine rv 9 .mv 1 ?_
  refine rv 10 .ext 0 ?_
  refine rv 11 .ext 2 ?_
  refine rv 12 .mv 2 ?_
  refine rv 13 .mv 2 ?_
  refine rn ?_
  refine cxSeq ?_
  refine zr ?_
  refine zv .mv 1 ?_
  refine zv (.ne ((ocE (D.take 32) (spN (D.drop 32) i) I (R.take (min (z + 16) (n2 - 16)))) ≠ 0)) 1 ?_
  refine zv .mv 1 ?_
  refine pxSplitP 0 rfl (l1 := [(86, (.bool true)), (14, (.slice A59 ((ocR (D.take 32) (spN (D.drop 32) i) I (R.take (min (z + 16) (n2 - 16)))).length) c60)), (13, (.int .i64 (((min (z + 16) (n2 - 16)) : Nat) : Int))), (12, (.int .i64 (((i) : Nat) : Int))), (11, (.slice A1 O.length c1)), (10, (.int .i64 ((((z + 16)) : Nat) : Int))), (9, (.slice A2 n2 c2)), (8, (.slice Ai43 I.length ci44)), (7, (.slice (cutA B36 d37 32 1) 7 (d37 - 32))), (6, (.slice B36 32 d37))]) (l2 := [(86, (.bool false)), (14, (.slice A59 ((ocR (D.take 32) (spN (D.drop 32) i) I (R.take (min (z + 16) (n2 - 16)))).length) c60)), (13, (.int .i64 (((min (z + 16) (n2 - 16)) : Nat) : Int))), (12, (.int .i64 (((i) : Nat) : Int))), (11, (.slice A1 O.length c1)), (10, (.int .i64 ((((z + 16)) : Nat) : Int))), (9, (.slice A2 n2 c2)), (8, (.slice Ai43 I.length ci44)), (7, (.slice (cutA B36 d37 32 1) 7 (d37 - 32))), (6, (.slice B36 32 d37))]) rfl rfl (fun hg61 => ?_) (fun hg61 => ?_)
  refine pxU rfl (gOff 0 rfl rfl rfl (by decide)) (kA rfl) (by decide) ?_
  refine pxU rfl (gOff 0 rfl rfl rfl (by decide)) (kA rfl) (by decide) ?_
  refine pxU rfl (gOff 0 rfl rfl rfl (by decide)) (kA rfl) (by decide) ?_
  refine zv (v := (.bool true)) (fun _ _ hF => opPickT rfl (hF.ev 0 rfl) rfl) 1 ?_
  refine zn ?_
  refine zT ?_
  refine zr ?_
  refine zv .mv 1023 ?_
  refine zv .mv 0 ?_
  refine zn ?_
  refine cxRet ?_
  refine qxThenR ?_
  refine qxInR ?_
  refine qxThenR ?_
  refine qxInR ?_
  refine qxThenR ?_
  refine qxRet2 1 0 rfl rfl rfl ?_
  have hn2 := hV.len
  obtain ⟨f, hf, hop⟩ := hop
  obtain ⟨f1, rfl⟩ : ∃ g, f = g + 1 := ⟨f - 1, by omega⟩
  have hWn : W = none := by rw [← hop]; exact spO_bad (by omega) (by unfold spH; rw [hn2]; exact fun g => ocE_1 hg61 g.1)
  have hA : spA (lst 32 s) b = 5 := spA_5 hok hok2 (hW.symm.trans hWn)
  exact ⟨_, _, rfl, ⟨_, by rw [hA]; rfl, by rw [spZ_bad hA (by decide)]; exact OwnT.nil _ _⟩, hH.out [false, false, false, false, false, false]⟩
  refine pxV (v := (.slice A59 ((ocR (D.take 32) (spN (D.drop 32) i) I (R.take (min (z + 16) (n2 - 16)))).length) c60)) (fun _ _ hF => opMove rfl (hF.ev 1 rfl)) rfl (gOn 0 rfl rfl rfl (by decide)) (kA rfl) (by decide) ?_
  refine pxV (v := (.int .i64 ((((ocR (D.take 32) (spN (D.drop 32) i) I (R.take (min (z + 16) (n2 - 16)))).length) : Nat) : Int))) (fun _ _ hF => opLen (e := 5) rfl (by kernel_rfl) (hF.ev 0 rfl)) rfl (gOn 1 rfl rfl rfl (by decide)) (kM [false, true, true, true, true, true, true, true, true, true, true] rfl rfl) (by decide) ?_
  refine pxV (v := (.bool (decide ((ocR (D.take 32) (spN (D.drop 32) i) I (R.take (min (z + 16) (n2 - 16)))).length = 0)))) (fun _ _ hF => opEqI rfl (hF.ev 0 rfl) rfl (dc (by omega))) rfl (gOn 1 rfl rfl rfl (by decide)) (kM [false, true, true, true, true, true, true, true, true, true, true] rfl rfl) (by decide) ?_
  refine zv (v := (.bool (decide ((ocR (D.take 32) (spN (D.drop 32) i) I (R.take (min (z + 16) (n2 - 16)))).length = 0)))) (fun _ _ hF => opPickF rfl (hF.ev 1 rfl) (hF.ev 0 rfl)) 3 ?_
  refine zn ?_
  refine zP (fun hc62 => ?_) (fun hc62 => ?_)
  refine zr ?_
  refine zv .mv 1023 ?_
  refine zv .mv 0 ?_
  refine zn ?_
  refine cxRet ?_
  refine qxThenR ?_
  refine qxInR ?_
  refine qxThenR ?_
  refine qxInR ?_
  refine qxThenR ?_
  refine qxRet2 1 0 rfl rfl rfl ?_
  have hn2 := hV.len
  obtain ⟨f, hf, hop⟩ := hop
  obtain ⟨hg, hr⟩ := ocE_0 hg61
  obtain ⟨f1, rfl⟩ : ∃ g, f = g + 1 := ⟨f - 1, by omega⟩
  have hWn : W = none := by rw [← hop]; exact spO_bad (by omega) (by unfold spH; rw [hn2]; exact fun g => g.2 (by rw [← hr]; exact hc62))
  have hA : spA (lst 32 s) b = 5 := spA_5 hok hok2 (hW.symm.trans hWn)
  exact ⟨_, _, rfl, ⟨_, by rw [hA]; rfl, by rw [spZ_bad hA (by decide)]; exact OwnT.nil _ _⟩, hH.out [false, false, false, false, false, false]⟩
  refine cxSkip ?_
  refine qxThen ?_
  have hn2 := hV.len
  obtain ⟨f, hf, hop⟩ := hop
  obtain ⟨f1, rfl⟩ : ∃ g, f = g + 1 := ⟨f - 1, by omega⟩
  obtain ⟨hg, hr⟩ := ocE_0 hg61
  have hop3 : spO (D.take 32) (D.drop 32) I z f1 (i + 1) (R.drop (min (z + 16) (n2 - 16))) (O ++ (ocR (D.take 32) (spN (D.drop 32) i) I (R.take (min (z + 16) (n2 - 16))))) = W := by
    rw [← hop, spO_next (by omega) (by unfold spH; rw [hn2]; exact hg) (by unfold spH; rw [hn2, ← hr]; exact hc62), hr]; unfold spH; rw [hn2]
  have hOl2 : (O ++ (ocR (D.take 32) (spN (D.drop 32) i) I (R.take (min (z + 16) (n2 - 16))))).length + (n2 - min (z + 16) (n2 - 16)) ≤ 20000 := by rw [hr, List.length_append, ocP_len, List.length_take]; omega
  have hol := hOl2
  rw [List.length_append] at hol
  refine zr ?_
  refine zv .mv 17 ?_
  refine zv .mv 2 ?_
  refine ze 3 hH rfl (fun _ hF => smAppT (C := cByte) (l := O) (m := (ocR (D.take 32) (spN (D.drop 32) i) I (R.take (min (z + 16) (n2 - 16))))) (e := 5) (z := (.int .u8 0)) (by_ := 1) rfl (by kernel_rfl) (by kernel_rfl) rfl (ltb rfl) (hF.ev 1 rfl) hO (hF.ev 0 rfl) rfl hO58.nilA (by unfold maxLen; omega) (by omega)) (hO58.vuAt (hH.has 5 rfl)) 3 ?_
  clear hH
  rintro v65 E66 w ⟨hO67, _⟩ hH
  replace hO67 : OwnT cByte 5 v65 (O ++ (ocR (D.take 32) (spN (D.drop 32) i) I (R.take (min (z + 16) (n2 - 16))))) E66 := hO67
  obtain ⟨A63, c64, rfl⟩ := hO67.slice
  refine zv .mv 1 ?_
  refine zn ?_
  refine zr ?_
  refine zv .mv 16 ?_
  refine zv .mv 4 ?_
  refine zv (v := (.slice (cutA A2 c2 (min (z + 16) (n2 - 16)) 1) (n2 - (min (z + 16) (n2 - 16))) (c2 - (min (z + 16) (n2 - 16))))) (fun _ _ hF => opCutL (k := min (z + 16) (n2 - 16)) (e := 5) (sz := 1) rfl (by kernel_rfl) (by kernel_rfl) (hF.ev 1 rfl) (hF.ev 0 rfl) rfl (by omega)) 3 ?_
  refine zv .mv 1 ?_
  refine zn ?_
  refine cxReg ?_
  refine zv .mv 4 ?_
  refine zv (.add ((i + 1 : Nat) : Int)) 1 ?_
  refine zv .mv 1 ?_
  refine pxEnd ?_
  refine qxInN ?_
  replace hH : HH w0 [] [[bl g1 22 ((cArr 32).enc s)], Ei40, Ek39, E66] w := hH.only [true, true, true, true, false, false]
  exact zR9 (i + 1) A63 c64 (O ++ (ocR (D.take 32) (spN (D.drop 32) i) I (R.take (min (z + 16) (n2 - 16))))) E66 (cutA A2 c2 (min (z + 16) (n2 - 16)) 1) (n2 - (min (z + 16) (n2 - 16))) (c2 - (min (z + 16) (n2 - 16))) (R.drop (min (z + 16) (n2 - 16))) ⟨hH, hO67, (hV.from (k := (min (z + 16) (n2 - 16))) (by omega)), ⟨f1, by omega, hop3⟩, (by omega), hOl2⟩ (by omega)
  refine cxExit ?_
  refine qxThenE ?_
  refine qxThenE ?_
  refine qxInE ?_
  refine qxThen ?_
  have hn2 := hV.len
  refine zr ?_
  refine zv .mv 137 ?_
  refine zv .mv 32 ?_
  refine zv .mv 4 ?_
  refine zm hH (.call Tryz.func20 ((rnonce_c (cutA B36 d37 32 1) 7 (d37 - 32) (D.drop 32) (by rw [List.length_drop]; omega) i (by omega)))) ((hk41.vuAt (hH.has 2 rfl)).from (k := 32) (by omega)) 3 ?_
  clear hH
  rintro v72 E68 w hO69 hH
  obtain ⟨A70, c71, rfl⟩ := hO69.slice
  refine zv .mv 16 ?_
  refine zv .mv 0 ?_
  refine zv .len 1 ?_
  refine zv (.cu .u64) 1 ?_
  refine zm hH (.call Tryz.func21 ((bytes_r O.length 8 (by decide)))) trivial 1 ?_
  clear hH
  rintro v78 E74 w hO75 hH
  obtain ⟨A76, c77, rfl⟩ := hO75.slice
  refine zm hH (fun _ hF => smLits (C := cSl) (e := 23) (z := (.slice none 0 0)) (by_ := 24) [(Ai43, I.length, ci44), (A76, (beL 8 O.length).length, c77)] rfl (by kernel_rfl) (by kernel_rfl) (EvP.cons (v := cSl.val (Ai43, I.length, ci44)) (hF.ev 1 rfl) (EvP.cons (v := cSl.val (A76, (beL 8 O.length).length, c77)) (hF.ev 0 rfl) EvP.nil)) rfl (ltb rfl) (leb rfl) rfl) trivial 3 ?_
  clear hH
  rintro _ _ w ⟨g80, rfl, rfl⟩ hH
  refine zm hH (.call Tryz.func18 ((rjoin2 (some ⟨g80, 0, none⟩) 2 [(Ai43, I.length, ci44), (A76, (beL 8 O.length).length, c77)] I (beL 8 O.length) (by simp only [beL_len]; omega)))) (⟨((Bk.lits (C := cSl) [(Ai43, I.length, ci44), (A76, (beL 8 O.length).length, c77)] (by show 2 ≤ _; unfold maxLen; decide)).vu (n := 2) (hH.blk 6 rfl) rfl), (.cons (hi42.vuAt (hH.has 1 rfl)) (.cons (hO75.vuAt (hH.has 5 rfl)) ViewsL.nil))⟩) 1 ?_
  clear hH
  rintro v85 E81 w hO82 hH
  obtain ⟨A83, c84, rfl⟩ := hO82.slice
  refine zv .mv 16 ?_
  refine zm hH (.call Tryz.func24 ((ropen_n B36 32 d37 (D.take 32) (by rw [List.length_take]; omega) A70 ((spN (D.drop 32) i).length) c71 (spN (D.drop 32) i) (spN_len (by rw [List.length_drop]; omega) _) A83 ((I ++ (beL 8 O.length)).length) c84 (I ++ (beL 8 O.length)) (by simp only [List.length_append, beL_len]; omega) A2 n2 c2 R (by omega)))) (⟨((hk41.vuAt (hH.has 2 rfl)).head (m := 32) (by omega)), (hO69.vuAt (hH.has 4 rfl)), (hO82.vuAt (hH.has 7 rfl)), (hH.vu hV (by decide) (Off.nil _ _))⟩) 15 ?_
  clear hH
  rintro _ E88 w ⟨s87, rfl, hO89⟩ hH
  obtain ⟨A90, c91, rfl⟩ := hO89.slice
  refine zv .mv 1 ?_
  refine zv .ext 0 ?_
  refine zv .ext 2 ?_
  refine zv .mv 2 ?_
  refine zv .mv 2 ?_
  refine zn ?_
  refine cxSeq ?_
  refine zr ?_
  refine zv .mv 1 ?_
  refine zv (.ne ((ocE (D.take 32) (spN (D.drop 32) i) (I ++ (beL 8 O.length)) R) ≠ 0)) 1 ?_
  refine zv .mv 1 ?_
  refine pxSplitP 0 rfl (l1 := [(117, (.bool true)), (16, (.slice A90 ((ocR (D.take 32) (spN (D.drop 32) i) (I ++ (beL 8 O.length)) R).length) c91)), (11, (.slice A1 O.length c1))]) (l2 := [(117, (.bool false)), (16, (.slice A90 ((ocR (D.take 32) (spN (D.drop 32) i) (I ++ (beL 8 O.length)) R).length) c91)), (11, (.slice A1 O.length c1))]) rfl rfl (fun hg92 => ?_) (fun hg92 => ?_)
  refine pxU rfl (gOff 0 rfl rfl rfl (by decide)) (kM [true, false, true] rfl rfl) (by decide) ?_
  refine pxU rfl (gOff 0 rfl rfl rfl (by decide)) (kA rfl) (by decide) ?_
  refine pxU rfl (gOff 0 rfl rfl rfl (by decide)) (kA rfl) (by decide) ?_
  refine zv (v := (.bool true)) (fun _ _ hF => opPickT rfl (hF.ev 0 rfl) rfl) 1 ?_
  refine zn ?_
  refine zT ?_
  refine zr ?_
  refine zv .mv 3 ?_
  refine zv .mv 0 ?_
  refine zn ?_
  refine cxRet ?_
  refine qxThenR ?_
  refine qxRet2 1 0 rfl rfl rfl ?_
  have hn2 := hV.len
  obtain ⟨f, hf, hop⟩ := hop
  have hWn : W = none := by rw [← hop, spO_end (by omega)]; unfold spL; exact if_neg (fun g => ocE_1 hg92 g.1)
  have hA : spA (lst 32 s) b = 5 := spA_5 hok hok2 (hW.symm.trans hWn)
  exact ⟨_, _, rfl, ⟨_, by rw [hA]; rfl, by rw [spZ_bad hA (by decide)]; exact OwnT.nil _ _⟩, hH.out [false, false, false, false, false, false, false, false, false]⟩
  refine pxV (v := (.slice A90 ((ocR (D.take 32) (spN (D.drop 32) i) (I ++ (beL 8 O.length)) R).length) c91)) (fun _ _ hF => opMove rfl (hF.ev 1 rfl)) rfl (gOn 0 rfl rfl rfl (by decide)) (kM [true, false, true] rfl rfl) (by decide) ?_
  refine pxV (v := (.int .i64 ((((ocR (D.take 32) (spN (D.drop 32) i) (I ++ (beL 8 O.length)) R).length) : Nat) : Int))) (fun _ _ hF => opLen (e := 5) rfl (by kernel_rfl) (hF.ev 0 rfl)) rfl (gOn 1 rfl rfl rfl (by decide)) (kM [false, true, true] rfl rfl) (by decide) ?_
  refine pxV (v := (.bool (decide ((ocR (D.take 32) (spN (D.drop 32) i) (I ++ (beL 8 O.length)) R).length > 0)))) (fun _ _ hF => opGtr rfl (hF.ev 0 rfl) rfl (dc (by omega))) rfl (gOn 1 rfl rfl rfl (by decide)) (kM [false, true, true] rfl rfl) (by decide) ?_
  refine zv (v := (.bool (decide ((ocR (D.take 32) (spN (D.drop 32) i) (I ++ (beL 8 O.length)) R).length > 0)))) (fun _ _ hF => opPickF rfl (hF.ev 1 rfl) (hF.ev 0 rfl)) 3 ?_
  refine zn ?_
  refine zP (fun hc93 => ?_) (fun hc93 => ?_)
  refine zr ?_
  refine zv .mv 3 ?_
  refine zv .mv 0 ?_
  refine zn ?_
  refine cxRet ?_
  refine qxThenR ?_
  refine qxRet2 1 0 rfl rfl rfl ?_
  have hn2 := hV.len
  obtain ⟨f, hf, hop⟩ := hop
  obtain ⟨hg, hr⟩ := ocE_0 hg92
  have hWn : W = none := by rw [← hop, spO_end (by omega)]; unfold spL; exact if_neg (fun g => absurd g.2 (by rw [← hr]; omega))
  have hA : spA (lst 32 s) b = 5 := spA_5 hok hok2 (hW.symm.trans hWn)
  exact ⟨_, _, rfl, ⟨_, by rw [hA]; rfl, by rw [spZ_bad hA (by decide)]; exact OwnT.nil _ _⟩, hH.out [false, false, false, false, false, false, false, false, false]⟩
  refine cxSkip ?_
  refine qxThen ?_
  refine zr ?_
  refine zv .mv 3 ?_
  refine zv .mv 1 ?_
  refine zv .mv 0 ?_
  refine zn ?_
  refine cxRet ?_
  refine qxRet2 1 0 rfl rfl rfl ?_
  have hn2 := hV.len
  obtain ⟨f, hf, hop⟩ := hop
  obtain ⟨hg, hr⟩ := ocE_0 hg92
  have hWs : W = some O := by rw [← hop, spO_end (by omega)]; unfold spL; exact if_pos ⟨hg, by rw [← hr]; omega⟩
  obtain ⟨hA, hZ⟩ := spA_0 hok hok2 (hW.symm.trans hWs)
  exact ⟨_, _, rfl, ⟨_, by rw [hA]; rfl, by rw [hZ]; exact hO⟩, hH.out1 [false, false, false, true, false, false, false, false, false] rfl⟩
end Go.Proofs.YtfloiekaiiapnaaGreatDoor

namespace Go.Proofs.YtfloiekaiiapnaaGreatDoor
open Go Go.RowKit
set_option maxRecDepth 100000

set_option maxHeartbeats 8000000 in
theorem seal_o (A : Option Addr) (z : Nat) (l : List UInt8) (hk : l.length = 16 ∨ l.length = 32) (B : Option Addr) (y : Nat) (N : List UInt8) (h1 : 1 ≤ N.length) (h15 : N.length ≤ 15) (Aa : Option Addr) (ya : Nat) (a : List UInt8) (ha : a.length ≤ 140737488355328) (Ap : Option Addr) (yp : Nat) (p : List UInt8) (hp : p.length ≤ 140737488350000) : Does Tryz.prog 29 #[(.slice A l.length z), (.slice B N.length y), (.slice Aa a.length ya), (.slice Ap p.length yp)] [] (fun w => w.heap[2]? = some (.cells ((cArr 256).enc boxF) 105 (0, 0)) ∧ w.heap[4]? = some (.cells ((cArr 64).enc dbF) 104 (0, 0)) ∧ Vu cByte w A l.length z l ∧ Vu cByte w B N.length y N ∧ Vu cByte w Aa a.length ya a ∧ Vu cByte w Ap p.length yp p) (fun v E' => ∃ s, v = .tuple #[s, .int .i64 0] ∧ OwnT cByte 5 s (ocS l N a p) E') := by
  refine does_of (fn := Tryz.f29) Tryz.func29 rfl Tryz.ntmps29 (Nat.le_of_ble_eq_true rfl) rfl ?_
  intro w0 hH hR
  replace hH : HH w0 [] [] w0 := hH.only [false]
  have hca := hR.2.2.2.2.1.cap
  have hcp := hR.2.2.2.2.2.cap
  refine zr ?_
  refine zv .mv 0 ?_
  refine zv .mv 1 ?_
  refine zn ?_
  refine zr ?_
  refine zv .mv 3 ?_
  refine zv .mv 0 ?_
  refine zc Tryz.func42 (begin_c A z l hk B y N h1 h15) (⟨(hH.oldBlk hR.1 (by simp)), (hH.vu hR.2.2.1 (by decide) (Off.nil _ _)), (hH.vu hR.2.2.2.1 (by decide) (Off.nil _ _))⟩) hH 3 ?_
  clear hH
  intro w hH
  refine zv .mv 1 ?_
  refine zv .ext 0 ?_
  refine zv .ext 2 ?_
  refine zm hH (.al cMk ((none, 0, 0), fun _ => 0, fun _ => 0)) trivial 0 ?_
  clear hH
  rintro _ _ w ⟨g1, rfl, rfl⟩ hH
  refine ze0 0 hH rfl (.sw cMk ((none, 0, 0), fun _ => 0, fun _ => 0) ((A, l.length, z), (ocSt l), (ocDl l))) trivial ?_
  clear hH
  rintro _ _ w rfl hH
  refine zv .mv 6 ?_
  refine zn ?_
  refine cxSeq ?_
  refine zr ?_
  refine zv .mv 0 ?_
  refine zv (v := (.bool false)) (fun _ _ hF => opNeI rfl (hF.ev 0 rfl) rfl (by decide)) 1 ?_
  refine zn ?_
  refine zF ?_
  refine cxSkip ?_
  refine qxThen ?_
  refine zr ?_
  refine zv .mv 3 ?_
  refine zv .len 1 ?_
  refine zv (.add (((p.length + 16) : Nat) : Int)) 1 ?_
  refine zm hH (fun _ hF => smMake (e := 5) (n := p.length + 16) (sz := 1) (by_ := 1) (z := (.int .u8 0)) (cs := madeCells (cByte.enc 0) ((p.length + 16) * 1)) rfl (by kernel_rfl) (by kernel_rfl) (hF.ev 0 rfl) (hF.ev 0 rfl) rfl rfl (by omega) (by omega) rfl) trivial 1 ?_
  clear hH
  rintro _ _ w ⟨g2, rfl, rfl⟩ hH
  refine zv .mv 1 ?_
  refine zn ?_
  have hs1 : cByte.sz = 1 := rfl
  have hps : p.length * cByte.sz = p.length := Nat.mul_one _
  obtain ⟨T0, hB0, hT0, hl0⟩ : ∃ T, Bk cByte (p.length + 16) (madeCells (cByte.enc 0) ((p.length + 16) * 1)) T ∧ T = List.replicate (p.length + 16) 0 ∧ T.length = p.length + 16 := ⟨_, (Bk.make (C := cByte) 0 (p.length + 16) (ltb rfl) (by unfold maxLen; omega)), rfl, List.length_replicate⟩
  have hz0 : ((madeCells (cByte.enc 0) ((p.length + 16) * 1))).size = (p.length + 16) * 1 := hB0.size
  refine zr ?_
  refine zv .mv 0 ?_
  refine zv .mv 0 ?_
  obtain ⟨cur4, hcs5, hB3⟩ : ∃ cs, putL (madeCells (cByte.enc 0) ((p.length + 16) * 1)) (0) (flat cByte p) = cs ∧ Bk cByte (p.length + 16) cs (T0.take 0 ++ (p ++ T0.drop (0 + p.length))) := ⟨_, rfl, hB0.copy 0 p (by omega)⟩
  refine ze 1 hH rfl (fun _ hF => smCopyT (C := cByte) (m := p) (e := 5) rfl (by kernel_rfl) (by kernel_rfl) (ltb rfl) (hF.ev 1 rfl) (hF.ev 0 rfl) (by omega) rfl (by omega) hcs5) (hH.vu hR.2.2.2.2.2 (by decide) (Off.nil _ _)) 3 ?_
  clear hH
  rintro _ _ w ⟨rfl, rfl⟩ hH
  refine zn ?_
  obtain ⟨T1, hB1, hT1, hl1⟩ : ∃ T, Bk cByte (p.length + 16) cur4 T ∧ T = p ++ List.replicate 16 0 ∧ T.length = p.length + 16 := ⟨_, hB3, by rw [hT0]; simp, by rw [hT0]; simp⟩
  refine zx ?_
  replace hH := hH.drew
  refine rxPg 0 [ldv 0 31 [] [] [1000] fun G => (cMk.val ((A, l.length, z), (ocSt l), (ocDl l))), ldv 1 32 [] [] [1000] fun G => (cMk.val ((A, l.length, z), (ocSt l), (ocDl l))), pv 2 33 [] [] fun G => (.slice B N.length y), pv 3 34 [1, 2] [] fun G => ((cArr 16).val (of0 (aeE l) N)), pv 4 35 [0, 3] [] fun G => (cWk.val (((A, l.length, z), (ocSt l), (ocDl l)), (of0 (aeE l) N), 0)), alv 5 13 [] [] fun G g => [bl g 78 (cWk.enc (((none, 0, 0), fun _ => 0, fun _ => 0), (fun _ => 0), 0))], stv 6 [4, 5] [5] 5 fun G => [bl (G 5).g 78 (cWk.enc (((A, l.length, z), (ocSt l), (ocDl l)), (of0 (aeE l) N), 0))]] (fun G => [(13, (.pointer (some ⟨(G 5).g, 0, none⟩))), (12, (.slice (some ⟨g2, 0, none⟩) (p.length + 16) (p.length + 16))), (10, (.pointer (some ⟨g1, 0, none⟩))), (2, (.slice Aa a.length ya)), (3, (.slice Ap p.length yp))]) (fun G => [[bl g1 73 (cMk.enc ((A, l.length, z), (ocSt l), (ocDl l)))], [bl g2 5 cur4], [bl (G 5).g 78 (cWk.enc (((A, l.length, z), (ocSt l), (ocDl l)), (of0 (aeE l) N), 0))]]) hH (.c (.ld (fun G _ _ hH => (hH.q 0 rfl)) fun G => (.ld cMk ((A, l.length, z), (ocSt l), (ocDl l)) (fun _ hS => (holds_blk0 hS)))) <| .c (.ld (fun G _ _ hH => (hH.q 0 rfl)) fun G => (.ld cMk ((A, l.length, z), (ocSt l), (ocDl l)) (fun _ hS => (holds_blk0 hS)))) <| .c (.v fun G => .mv) <| .c (Sp.cr Tryz.func43 (fun G => (fo_c A z l hk (ocSt l) (ocDl l) B y N h1 h15)) fun _ _ hH => ⟨(hH.oldBlk hR.1 (by simp)), (hH.vu hR.2.2.1 (by decide) (Off.nil _ _)), (hH.vu hR.2.2.2.1 (by decide) (Off.nil _ _))⟩) <| .c (.v fun G => (fun _ _ hF => opBuildP (cells := cWk.enc (((A, l.length, z), (ocSt l), (ocDl l)), (of0 (aeE l) N), 0)) rfl (EvP.cons (v := (cMk.val ((A, l.length, z), (ocSt l), (ocDl l)))) (hF.ev 0 rfl) (EvP.cons (v := ((cArr 16).val (of0 (aeE l) N))) (hF.ev 1 rfl) EvP.nil)) (built_2of3 (A := cMk) (B := cArr 16) (C := cNat .u64) ((none, 0, 0), fun _ => 0, fun _ => 0) (fun _ => 0) 0 (by kernel_rfl) (by kernel_rfl) rfl rfl) _)) <| .c (.a (fun _ _ _ _ => trivial) (fun G => (.al cWk (((none, 0, 0), fun _ => 0, fun _ => 0), (fun _ => 0), 0))) fun _ _ _ h => h) <| .c (.tn (fun G => (.sw cWk (((none, 0, 0), fun _ => 0, fun _ => 0), (fun _ => 0), 0) (((A, l.length, z), (ocSt l), (ocDl l)), (of0 (aeE l) N), 0))) (fun _ _ _ _ => trivial) fun _ _ _ h => h) <| .nil) ?_
  clear hH
  rintro G w - hH
  revert hH
  generalize (G 5).g = g6
  intro hH
  refine rn ?_
  replace hH : HH w0 [] [[bl g6 78 (cWk.enc (((A, l.length, z), (ocSt l), (ocDl l)), (of0 (aeE l) N), 0))], [bl g2 5 cur4], [bl g1 73 (cMk.enc ((A, l.length, z), (ocSt l), (ocDl l)))]] w := HH.sel hH [2, 1, 0] rfl (by decide)
  replace hH : HH w0 [] [([[bl g6 78 (cWk.enc (((A, l.length, z), (ocSt l), (ocDl l)), (of0 (aeE l) N), 0))], [bl g2 5 cur4]] : List Hl).flatten, [bl g1 73 (cMk.enc ((A, l.length, z), (ocSt l), (ocDl l)))]] w := hH.cast (by simp)
  refine zx ?_
  replace hH := hH.drew
  refine rv 0 .mv 0 ?_
  refine rv 1 .mv 0 ?_
  refine rv 2 .len 1 ?_
  refine rv 3 (v := (.slice (some ⟨g2, 0, none⟩) p.length (p.length + 16))) (fun _ _ hF => opCutH (h := p.length) (e := 5) (sz := 1) rfl (by kernel_rfl) (by kernel_rfl) (hF.ev 1 rfl) (hF.ev 0 rfl) rfl (by omega)) 3 ?_
  refine rld 4 (hH.q 1 rfl) (.ld cMk ((A, l.length, z), (ocSt l), (ocDl l)) (fun _ hS => (holds_blk0 hS))) 8 ?_
  refine rv 5 (v := (.func (.func 45) #[(cMk.val ((A, l.length, z), (ocSt l), (ocDl l)))] #[])) (fun _ _ hF => opMakeFuncB rfl (Evs.cons (v := (cMk.val ((A, l.length, z), (ocSt l), (ocDl l)))) (hF.ev 0 rfl) Evs.nil)) 1 ?_
  refine rx1k 6 ?_
  refine re 6 0 hH rfl (.call Tryz.func44 (thraeE_c A z l hk (ocSt l) (ocDl l) (of0 (aeE l) N) g6 g2 p.length (p.length + 16) (p.length + 16) cur4 T1 hB1 (by omega) (by omega) (by omega))) (⟨(hH.oldBlk hR.1 (by simp)), (hH.oldBlk hR.2.1 (by simp)), (hH.vu hR.2.2.1 (by decide) (Off.nil _ _)), (hH.off 0 rfl hR.2.2.1 (by decide) (Off.nil _ _))⟩) 3 (pgo [5] (.nil _ [])) ?_
  clear hH
  rintro _ _ w ⟨rfl, cu7, rfl, hBt8⟩ hH
  refine ⟨pnil, ?_⟩
  refine rn ?_
  replace hH : HH w0 [] [[bl g6 78 (cWk.enc (((A, l.length, z), (ocSt l), (ocDl l)), ofE (ocSt l) (ocDl l) (of0 (aeE l) N) p.length, p.length / 16))], [bl g2 5 cu7], [bl g1 73 (cMk.enc ((A, l.length, z), (ocSt l), (ocDl l)))]] w := hH.cast (by simp)
  obtain ⟨T2, hB2, hT2, hl2⟩ : ∃ T, Bk cByte (p.length + 16) cu7 T ∧ T = (thL (aeE l) (aeE l) (ocSt l) (ocDl l) (of0 (aeE l) N) p) ++ List.replicate 16 0 ∧ T.length = p.length + 16 := ⟨_, hBt8, by rw [hT1, List.take_left, List.drop_left], by rw [hT1, List.take_left, List.drop_left, List.length_append, thL_len, List.length_replicate]⟩
  have hz2 : (cu7).size = (p.length + 16) * 1 := hB2.size
  refine zr ?_
  refine zv .mv 9 ?_
  refine zv .mv 0 ?_
  refine zc Tryz.func46 (tag_o A z l hk (ocSt l) (ocDl l) (ofE (ocSt l) (ocDl l) (of0 (aeE l) N) p.length) g6 (p.length / 16) Aa ya a (by omega) Ap yp p (by omega)) (⟨(hH.blk 0 rfl), (hH.oldBlk hR.1 (by simp)), (hH.oldBlk hR.2.1 (by simp)), (hH.vu hR.2.2.1 (by decide) (Off.nil _ _)), (hH.vu hR.2.2.2.2.1 (by decide) (Off.nil _ _)), (hH.vu hR.2.2.2.2.2 (by decide) (Off.nil _ _))⟩) hH 7 ?_
  clear hH
  intro w hH
  refine zm hH (.al (cArr 16) (fun _ => 0)) trivial 0 ?_
  clear hH
  rintro _ _ w ⟨g9, rfl, rfl⟩ hH
  refine ze0 3 hH rfl (.sw (cArr 16) (fun _ => 0) (added (aeE l (added (smL p) (added (ofE (ocSt l) (ocDl l) (of0 (aeE l) N) p.length) (ocDl l)))) (hsL (aeE l) (ocSt l) (ocDl l) a))) trivial ?_
  clear hH
  rintro _ _ w rfl hH
  refine zn ?_
  refine zx ?_
  replace hH := hH.drew
  refine rv 0 .mv 2 ?_
  refine rv 1 .mv 8 ?_
  refine rv 2 .len 1 ?_
  refine rv 3 (v := (.slice (some ⟨g2, 0 + p.length * 1, none⟩) ((p.length + 16) - p.length) ((p.length + 16) - p.length))) (fun _ _ hF => opSlcL (k := p.length) (e := 5) (sz := 1) rfl (by kernel_rfl) (by kernel_rfl) (hF.ev 1 rfl) (hF.ev 0 rfl) rfl (by omega) (by omega)) 3 ?_
  refine rv 4 (v := (.slice (some ⟨g9, 0, none⟩) 16 16)) (fun _ _ hF => opSliceA (n := 16) (e := 5) (sz := 1) rfl (by kernel_rfl) (by kernel_rfl) (hF.ev 1 rfl)) 2 ?_
  obtain ⟨cur11, hcs12, hB10⟩ : ∃ cs, putL cu7 (0 + p.length * 1) (flat cByte (lst 16 (added (aeE l (added (smL p) (added (ofE (ocSt l) (ocDl l) (of0 (aeE l) N) p.length) (ocDl l)))) (hsL (aeE l) (ocSt l) (ocDl l) a)))) = cs ∧ Bk cByte (p.length + 16) cs (T2.take p.length ++ ((lst 16 (added (aeE l (added (smL p) (added (ofE (ocSt l) (ocDl l) (of0 (aeE l) N) p.length) (ocDl l)))) (hsL (aeE l) (ocSt l) (ocDl l) a))) ++ T2.drop (p.length + (lst 16 (added (aeE l (added (smL p) (added (ofE (ocSt l) (ocDl l) (of0 (aeE l) N) p.length) (ocDl l)))) (hsL (aeE l) (ocSt l) (ocDl l) a))).length))) := ⟨_, rfl, hB2.copy p.length (lst 16 (added (aeE l (added (smL p) (added (ofE (ocSt l) (ocDl l) (of0 (aeE l) N) p.length) (ocDl l)))) (hsL (aeE l) (ocSt l) (ocDl l) a))) (by rw [lst_len]; omega)⟩
  refine rx1k 5 ?_
  refine re 5 1 hH rfl (fun _ hF => smCopyT (C := cByte) (m := (lst 16 (added (aeE l (added (smL p) (added (ofE (ocSt l) (ocDl l) (of0 (aeE l) N) p.length) (ocDl l)))) (hsL (aeE l) (ocSt l) (ocDl l) a)))) (e := 5) rfl (by kernel_rfl) (by kernel_rfl) (ltb rfl) (hF.ev 1 rfl) (hF.ev 0 rfl) (by omega) (lst_len _ _) (by omega) hcs12) (vu_arr (hH.blk 3 rfl)) 3 (.nil _ []) ?_
  clear hH
  rintro _ _ w ⟨rfl, rfl⟩ hH
  refine ⟨pnil, ?_⟩
  refine rn ?_
  refine zr ?_
  refine zv .mv 3 ?_
  refine zv .mv 1 ?_
  refine zv .mv 0 ?_
  refine zn ?_
  refine cxRet ?_
  refine qxRet2 1 0 rfl rfl rfl ?_
  have hfin : (T2.take p.length ++ ((lst 16 (added (aeE l (added (smL p) (added (ofE (ocSt l) (ocDl l) (of0 (aeE l) N) p.length) (ocDl l)))) (hsL (aeE l) (ocSt l) (ocDl l) a))) ++ T2.drop (p.length + (lst 16 (added (aeE l (added (smL p) (added (ofE (ocSt l) (ocDl l) (of0 (aeE l) N) p.length) (ocDl l)))) (hsL (aeE l) (ocSt l) (ocDl l) a))).length))) = ocS l N a p := by
    rw [lst_len, hT2, List.take_left' thL_len, List.drop_eq_nil_of_le (by rw [List.length_append, thL_len, List.length_replicate]; exact Nat.le_refl _), List.append_nil]
    rfl
  have hfl : (ocS l N a p).length = p.length + 16 := ocS_len _ _ _ _
  exact ⟨_, _, rfl, ⟨_, rfl, (hfin ▸ hB10 : Bk cByte _ _ (ocS l N a p)).own 5 g2 hfl⟩, hH.out1 [false, true, false, false] rfl⟩
end Go.Proofs.YtfloiekaiiapnaaGreatDoor

namespace Go.Proofs.YtfloiekaiiapnaaGreatDoor
open Go Go.RowKit
set_option maxRecDepth 100000

theorem pseal_n (A : Option Addr) (k z : Nat) (l : List UInt8) (hk : l.length = 32) (B : Option Addr) (n y : Nat) (N : List UInt8) (hN : N.length = 15) (Aa : Option Addr) (m ya : Nat) (a : List UInt8) (ha : a.length ≤ 100000000) (Ap : Option Addr) (q yp : Nat) (p : List UInt8) (hp : p.length ≤ 100000000) : Does Tryz.prog 29 #[(.slice A k z), (.slice B n y), (.slice Aa m ya), (.slice Ap q yp)] [] (fun w => w.heap[2]? = some (.cells ((cArr 256).enc boxF) 105 (0, 0)) ∧ w.heap[4]? = some (.cells ((cArr 64).enc dbF) 104 (0, 0)) ∧ Vu cByte w A k z l ∧ Vu cByte w B n y N ∧ Vu cByte w Aa m ya a ∧ Vu cByte w Ap q yp p) (fun v E' => ∃ s, v = .tuple #[s, .int .i64 0] ∧ OwnT cByte 5 s (ocS l N a p) E') := fun w hE hR => by
  obtain rfl := hR.2.2.1.len
  obtain rfl := hR.2.2.2.1.len
  obtain rfl := hR.2.2.2.2.1.len
  obtain rfl := hR.2.2.2.2.2.len
  exact seal_o A z l (.inr hk) B y N (by omega) (by omega) Aa ya a (by omega) Ap yp p (by omega) w hE hR
theorem popen_n (A : Option Addr) (k z : Nat) (l : List UInt8) (hk : l.length = 32) (B : Option Addr) (n y : Nat) (N : List UInt8) (hN : N.length = 15) (Aa : Option Addr) (m ya : Nat) (a : List UInt8) (ha : a.length ≤ 100000000) (Ap : Option Addr) (q yp : Nat) (p : List UInt8) (hp : p.length ≤ 100000000) : Does Tryz.prog 55 #[(.slice A k z), (.slice B n y), (.slice Aa m ya), (.slice Ap q yp)] [] (fun w => w.heap[2]? = some (.cells ((cArr 256).enc boxF) 105 (0, 0)) ∧ w.heap[4]? = some (.cells ((cArr 64).enc dbF) 104 (0, 0)) ∧ Vu cByte w A k z l ∧ Vu cByte w B n y N ∧ Vu cByte w Aa m ya a ∧ Vu cByte w Ap q yp p) (fun v E' => ∃ s, v = .tuple #[s, .int .i64 (((ocE l N a p) : Nat) : Int)] ∧ OwnT cByte 5 s (ocR l N a p) E') := fun w hE hR => by
  obtain rfl := hR.2.2.1.len
  obtain rfl := hR.2.2.2.1.len
  obtain rfl := hR.2.2.2.2.1.len
  obtain rfl := hR.2.2.2.2.2.len
  exact open_o A z l (.inr hk) B y N (by omega) (by omega) Aa ya a (by omega) Ap yp p (by omega) w hE hR

set_option maxHeartbeats 8000000 in
theorem slEq_s (A : Option Addr) (n c : Nat) (l : List UInt8) (hn : n ≤ 140737488355328) (B : Option Addr) (m d : Nat) (x : List UInt8) : Pure Tryz.prog 40 #[(.slice A n c), (.slice B m d)] (fun w => Vu cByte w A n c l ∧ Vu cByte w B m d x) (.bool (decide (l = x))) := by
  refine pure_of (fn := Tryz.f40) Tryz.func40 rfl Tryz.ntmps40 (Nat.le_of_ble_eq_true rfl) rfl ?_
  intro w0 hH hR
  have hl1 := hR.1.len; have hl2 := hR.2.len
  refine zr ?_
  refine zv .mv 0 ?_
  refine zn ?_
  refine cxSeq ?_
  refine zr ?_
  refine zv .mv 1 ?_
  refine zv .len 1 ?_
  refine zv .mv 0 ?_
  refine zv .len 1 ?_
  refine zv (.ne (n ≠ m)) 3 ?_
  refine zn ?_
  refine zP (fun hc1 => ?_) (fun hc1 => ?_)
  refine zr ?_
  refine zv .mv 7 ?_
  refine zn ?_
  refine cxRet ?_
  refine qxThenR ?_
  refine qxRet1 0 rfl rfl ?_
  have he : ¬ l = x := fun h => by have := congrArg List.length h; omega
  exact ⟨by rw [decide_eq_false he], HH.toBelow hH⟩
  refine cxSkip ?_
  refine qxThen ?_
  refine cxSeq ?_
  refine zr ?_
  refine zv .mv 1 ?_
  refine zv .len 1 ?_
  refine zv .mv 0 ?_
  refine zn ?_
  refine cxBlock ?_
  refine zL1 (fun (i : Nat) => [(13, (.int .i64 (((i) : Nat) : Int))), (12, (.int .i64 (((n) : Nat) : Int))), (1, (.slice B m d)), (0, (.slice A n c))]) (fun i w => HH w0 [] [] w ∧ (i ≤ n) ∧ (l.take i = x.take i)) (fun i => n - i) 0 ⟨hH, (Nat.zero_le _), rfl⟩ ?_
  clear hH
  rintro i w ⟨hH, hi, hE⟩
  refine zr ?_
  refine zv (.lt (i < n)) 0 ?_
  refine zn ?_
  refine cxSeq ?_
  refine zP (fun hc2 => ?_) (fun hc2 => ?_)
  refine cxSkip ?_
  refine qxThen ?_
  refine cxSeq ?_
  refine cxBlock ?_
  refine zr ?_
  refine zv .mv 1 ?_
  refine zv .mv 1 ?_
  refine zn ?_
  refine zx ?_
  replace hH := hH.drew
  refine rv 0 .mv 0 ?_
  refine rv 1 .mv 0 ?_
  have hi3 : i < n := by omega
  obtain ⟨b4, off5, rfl, hL6, hb7, hR8⟩ := hR.1.blk (by decide) (Off.nil _ _) (by omega)
  have := hR.1.cap
  have hj11 : i < l.length := by first | exact hi3 | (simp only [List.length_drop]; omega) | (simp only [List.length_drop, List.length_take]; omega) | omega
  obtain ⟨x9, hx10⟩ := get_at l i hj11
  have hb12 := UInt8.toNat_lt x9
  refine rv 2 (.ix 1 i (hi := hi3)) 3 ?_
  refine rld 3 (S := fun w => HoldsL cByte w b4 off5 l) (hH.holdsL hL6 hb7 hR8) (.ld cByte x9 (fun _ hS => (hS i _ hx10))) 1 ?_
  refine rv 4 .mv 0 ?_
  refine rv 5 .mv 4 ?_
  have hi13 : i < m := by omega
  obtain ⟨b14, off15, rfl, hL16, hb17, hR18⟩ := hR.2.blk (by decide) (Off.nil _ _) (by omega)
  have := hR.2.cap
  have hj21 : i < x.length := by first | exact hi13 | (simp only [List.length_drop]; omega) | (simp only [List.length_drop, List.length_take]; omega) | omega
  obtain ⟨x19, hx20⟩ := get_at x i hj21
  have hb22 := UInt8.toNat_lt x19
  refine rv 6 (.ix 1 i (hi := hi13)) 3 ?_
  refine rld 7 (S := fun w => HoldsL cByte w b14 off15 x) (hH.holdsL hL16 hb17 hR18) (.ld cByte x19 (fun _ hS => (hS i _ hx20))) 1 ?_
  refine rv 8 (.ne (x9.toNat ≠ x19.toNat)) 3 ?_
  refine rn ?_
  refine zP (fun hc23 => ?_) (fun hc23 => ?_)
  refine zr ?_
  refine zv .mv 31 ?_
  refine zn ?_
  refine cxRet ?_
  refine qxInR ?_
  refine qxThenR ?_
  refine qxThenR ?_
  refine qxInR ?_
  refine qxThenR ?_
  refine qxRet1 0 rfl rfl ?_
  have he : ¬ l = x := fun h => by rw [h, hx20] at hx10; exact hc23 (by rw [Option.some.inj hx10])
  exact ⟨by rw [decide_eq_false he], HH.toBelow hH⟩
  refine cxSkip ?_
  refine qxInN ?_
  refine qxThen ?_
  refine cxReg ?_
  refine zv (.add ((i + 1 : Nat) : Int)) 3 ?_
  refine zv .mv 1 ?_
  refine pxEnd ?_
  exact zR1 (i + 1) ⟨hH, (by omega), (by rw [List.take_add_one, List.take_add_one, hx10, hx20, hE, UInt8.toNat_inj.1 (Decidable.not_not.1 hc23)])⟩ (by omega)
  refine cxExit ?_
  refine qxThenE ?_
  refine qxThenE ?_
  refine qxInE ?_
  refine qxThen ?_
  refine zr ?_
  refine zv .mv 31 ?_
  refine zn ?_
  refine cxRet ?_
  refine qxRet1 0 rfl rfl ?_
  have he : l = x := by rw [List.take_of_length_le (by omega), List.take_of_length_le (by omega)] at hE; exact hE
  exact ⟨by rw [decide_eq_true he], HH.toBelow hH⟩

set_option maxHeartbeats 8000000 in
theorem seal_s (g : Nat) (A : Option Addr) (z : Nat) (K : List UInt8) (B : Option Addr) (y : Nat) (b : List UInt8) (Ai : Option Addr) (yi : Nat) (I : List UInt8) (i m : Nat) (Ap : Option Addr) (n yp : Nat) (p : List UInt8) (hp : n ≤ 100000000) (hi : i < 18446744073709551615) (hm : m < 4611686018427387904) : Does Tryz.prog 15 #[(.pointer (some ⟨g, 0, none⟩)), (.slice Ap n yp)] [bl g 55 (cRn.enc ((A, 32, z), (B, 7, y), (Ai, 5, yi), i, m))] (fun w => w.heap[2]? = some (.cells ((cArr 256).enc boxF) 105 (0, 0)) ∧ w.heap[4]? = some (.cells ((cArr 64).enc dbF) 104 (0, 0)) ∧ (Vu cByte w A 32 z K ∧ Off A 32 [g]) ∧ (Vu cByte w B 7 y b ∧ Off B 7 [g]) ∧ (Vu cByte w Ai 5 yi I ∧ Off Ai 5 [g]) ∧ Vu cByte w Ap n yp p ∧ Off Ap n [g]) (fun v E' => ∃ s Es, v = s ∧ E' = [bl g 55 (cRn.enc ((A, 32, z), (B, 7, y), (Ai, 5, yi), (i + 1), (m + n)))] ++ Es ∧ OwnT cByte 5 s (ocS K (spN b i) I p) Es) := by
  refine does_of (fn := Tryz.f15) Tryz.func15 rfl Tryz.ntmps15 (Nat.le_of_ble_eq_true rfl) rfl ?_
  intro w0 hH hR
  have hb0 : 2 ∉ [g] := ne_ty hR.1 (hH.blk 0 rfl) rfl
  have hd0 : 4 ∉ [g] := ne_ty hR.2.1 (hH.blk 0 rfl) rfl
  have hKl := hR.2.2.1.1.len
  have hbl := hR.2.2.2.1.1.len
  have hIl := hR.2.2.2.2.1.1.len
  have hpl := hR.2.2.2.2.2.1.len
  refine zr ?_
  refine zv .mv 0 ?_
  refine zn ?_
  refine zx ?_
  replace hH := hH.drew
  refine rv 0 .mv 1 ?_
  refine rv 1 .nc 1 ?_
  refine rv 2 (.fld 0) 1 ?_
  refine rld 3 (hH.q 0 rfl) (.ld cSl (A, 32, z) (fun _ hS => (holds_blk0 hS).fst) (v := (.slice A 32 z))) 1 ?_
  refine rv 4 .mv 0 ?_
  refine rv 6 .mv 0 ?_
  refine rv 7 .nc 1 ?_
  refine rv 8 (.fld 2) 1 ?_
  refine rld 9 (hH.q 0 rfl) (.ld cSl (Ai, 5, yi) (fun _ hS => (((holds_blk0 hS).snd).snd).fst) (v := (.slice Ai 5 yi))) 1 ?_
  refine rv 10 .mv 0 ?_
  refine rx1k 5 ?_
  refine rm 5 hH (.call Tryz.func30 ((nonce_s g A z B y b Ai yi i m))) (⟨(hH.blk 0 rfl), (hH.vu hR.2.2.2.1.1 (by decide) hR.2.2.2.1.2)⟩) 4 (.keep (.keep (.nil _ []))) ?_
  clear hH
  rintro v5 E1 w hO2 hH
  obtain ⟨A3, c4, rfl⟩ := hO2.slice
  refine ⟨pcons (hH.blk 0 rfl) (pcons (hH.blk 0 rfl) pnil), ?_⟩
  refine rx1k 11 ?_
  refine rm 11 hH (.call Tryz.func29 ((pseal_n A 32 z K (by omega) A3 ((spN b i).length) c4 (spN b i) (spN_len (by omega) _) Ai 5 yi I (by omega) Ap n yp p (by omega)))) (⟨(hH.oldBlk hR.1 hb0), (hH.oldBlk hR.2.1 hd0), (hH.vu hR.2.2.1.1 (by decide) hR.2.2.1.2), (hO2.vuAt (hH.has 1 rfl)), (hH.vu hR.2.2.2.2.1.1 (by decide) hR.2.2.2.2.1.2), (hH.vu hR.2.2.2.2.2.1 (by decide) hR.2.2.2.2.2.2)⟩) 15 (pgo [] (pgo [] (.nil _ []))) ?_
  clear hH
  rintro _ E8 w ⟨s7, rfl, hO9⟩ hH
  obtain ⟨A10, c11, rfl⟩ := hO9.slice
  refine ⟨pnil, ?_⟩
  refine rv 12 .mv 1 ?_
  refine rv 13 .ext 0 ?_
  refine rv 14 .ext 2 ?_
  refine rv 15 .mv 2 ?_
  refine rv 16 .mv 2 ?_
  refine rn ?_
  refine zr ?_
  refine zv .mv 5 ?_
  refine zv .mv 4 ?_
  refine zv .len 1 ?_
  refine ze 0 hH rfl (.call Tryz.func31 ((past_s g A z B y Ai yi i m n (by omega) (by omega) (by omega)))) trivial 3 ?_
  clear hH
  rintro _ _ w ⟨rfl, rfl⟩ hH
  refine zn ?_
  refine zr ?_
  refine zv .mv 3 ?_
  refine zv .mv 1 ?_
  refine zn ?_
  refine cxRet ?_
  refine qxRet1 0 rfl rfl ?_
  exact ⟨_, _, rfl, ⟨_, E8, rfl, rfl, hO9⟩, by simpa [pickG] using hH.out [true, false, true]⟩

/-- A chunk is sealed so, of some bytes. -/
def opK (K N A S : List UInt8) : Prop := ocG K N A S ∧ (ocP K N S).length ≠ 0
instance (K N A S : List UInt8) : Decidable (opK K N A S) := by unfold opK ocG; infer_instance
def opE (K N A S : List UInt8) : Nat := if opK K N A S then 0 else 5
def opR (K N A S : List UInt8) : List UInt8 := if opK K N A S then ocP K N S else []
def opI (K N A S : List UInt8) (i : Nat) : Nat := if opK K N A S then i + 1 else i

set_option maxHeartbeats 8000000 in
theorem open_s (g : Nat) (A : Option Addr) (z : Nat) (K : List UInt8) (B : Option Addr) (y : Nat) (b : List UInt8) (Ai : Option Addr) (yi : Nat) (I : List UInt8) (i m : Nat) (Ap : Option Addr) (n yp : Nat) (p : List UInt8) (hp : n ≤ 100000000) (hi : i < 18446744073709551615) (hm : m < 4611686018427387904) : Does Tryz.prog 39 #[(.pointer (some ⟨g, 0, none⟩)), (.slice Ap n yp)] [bl g 55 (cRn.enc ((A, 32, z), (B, 7, y), (Ai, 5, yi), i, m))] (fun w => w.heap[2]? = some (.cells ((cArr 256).enc boxF) 105 (0, 0)) ∧ w.heap[4]? = some (.cells ((cArr 64).enc dbF) 104 (0, 0)) ∧ (Vu cByte w A 32 z K ∧ Off A 32 [g]) ∧ (Vu cByte w B 7 y b ∧ Off B 7 [g]) ∧ (Vu cByte w Ai 5 yi I ∧ Off Ai 5 [g]) ∧ Vu cByte w Ap n yp p ∧ Off Ap n [g]) (fun v E' => ∃ s Es, v = .tuple #[s, .int .i64 ((opE K (spN b i) I p : Nat) : Int)] ∧ E' = [bl g 55 (cRn.enc ((A, 32, z), (B, 7, y), (Ai, 5, yi), (opI K (spN b i) I p i), (m + (opR K (spN b i) I p).length)))] ++ Es ∧ OwnT cByte 5 s (opR K (spN b i) I p) Es) := by
  refine does_of (fn := Tryz.f39) Tryz.func39 rfl Tryz.ntmps39 (Nat.le_of_ble_eq_true rfl) rfl ?_
  intro w0 hH hR
  have hb0 : 2 ∉ [g] := ne_ty hR.1 (hH.blk 0 rfl) rfl
  have hd0 : 4 ∉ [g] := ne_ty hR.2.1 (hH.blk 0 rfl) rfl
  have hKl := hR.2.2.1.1.len
  have hbl := hR.2.2.2.1.1.len
  have hIl := hR.2.2.2.2.1.1.len
  have hpl := hR.2.2.2.2.2.1.len
  refine zr ?_
  refine zv .mv 0 ?_
  refine zv .mv 1 ?_
  refine zn ?_
  refine zx ?_
  replace hH := hH.drew
  refine rv 0 .mv 1 ?_
  refine rv 1 .nc 1 ?_
  refine rv 2 (.fld 0) 1 ?_
  refine rld 3 (hH.q 0 rfl) (.ld cSl (A, 32, z) (fun _ hS => (holds_blk0 hS).fst) (v := (.slice A 32 z))) 1 ?_
  refine rv 4 .mv 0 ?_
  refine rv 6 .mv 0 ?_
  refine rv 7 .nc 1 ?_
  refine rv 8 (.fld 2) 1 ?_
  refine rld 9 (hH.q 0 rfl) (.ld cSl (Ai, 5, yi) (fun _ hS => (((holds_blk0 hS).snd).snd).fst) (v := (.slice Ai 5 yi))) 1 ?_
  refine rv 10 .mv 16 ?_
  refine rx1k 5 ?_
  refine rm 5 hH (.call Tryz.func30 ((nonce_s g A z B y b Ai yi i m))) (⟨(hH.blk 0 rfl), (hH.vu hR.2.2.2.1.1 (by decide) hR.2.2.2.1.2)⟩) 4 (.keep (.keep (.nil _ []))) ?_
  clear hH
  rintro v5 E1 w hO2 hH
  obtain ⟨A3, c4, rfl⟩ := hO2.slice
  refine ⟨pcons (hH.blk 0 rfl) (pcons (hH.blk 0 rfl) pnil), ?_⟩
  refine rx1k 11 ?_
  refine rm 11 hH (.call Tryz.func55 ((popen_n A 32 z K (by omega) A3 ((spN b i).length) c4 (spN b i) (spN_len (by omega) _) Ai 5 yi I (by omega) Ap n yp p (by omega)))) (⟨(hH.oldBlk hR.1 hb0), (hH.oldBlk hR.2.1 hd0), (hH.vu hR.2.2.1.1 (by decide) hR.2.2.1.2), (hO2.vuAt (hH.has 1 rfl)), (hH.vu hR.2.2.2.2.1.1 (by decide) hR.2.2.2.2.1.2), (hH.vu hR.2.2.2.2.2.1 (by decide) hR.2.2.2.2.2.2)⟩) 15 (pgo [] (pgo [] (.nil _ []))) ?_
  clear hH
  rintro _ E8 w ⟨s7, rfl, hO9⟩ hH
  obtain ⟨A10, c11, rfl⟩ := hO9.slice
  refine ⟨pnil, ?_⟩
  refine rv 12 .mv 1 ?_
  refine rv 13 .ext 0 ?_
  refine rv 14 .ext 2 ?_
  refine rv 15 .mv 2 ?_
  refine rv 16 .mv 2 ?_
  refine rn ?_
  refine cxSeq ?_
  refine zr ?_
  refine zv .mv 1 ?_
  refine zv (.ne ((ocE K (spN b i) I p) ≠ 0)) 1 ?_
  refine zv .mv 1 ?_
  refine pxSplitP 0 rfl (l1 := [(25, (.bool true)), (6, (.slice A10 ((ocR K (spN b i) I p).length) c11)), (0, (.pointer (some ⟨g, 0, none⟩)))]) (l2 := [(25, (.bool false)), (6, (.slice A10 ((ocR K (spN b i) I p).length) c11)), (0, (.pointer (some ⟨g, 0, none⟩)))]) rfl rfl (fun hg12 => ?_) (fun hg12 => ?_)
  refine pxU rfl (gOff 0 rfl rfl rfl (by decide)) (kA rfl) (by decide) ?_
  refine pxU rfl (gOff 0 rfl rfl rfl (by decide)) (kA rfl) (by decide) ?_
  refine pxU rfl (gOff 0 rfl rfl rfl (by decide)) (kA rfl) (by decide) ?_
  refine zv (v := (.bool true)) (fun _ _ hF => opPickT rfl (hF.ev 0 rfl) rfl) 1 ?_
  refine zn ?_
  refine zT ?_
  refine zr ?_
  refine zv .mv 7 ?_
  refine zv .mv 0 ?_
  refine zn ?_
  refine cxRet ?_
  refine qxThenR ?_
  refine qxRet2 1 0 rfl rfl rfl ?_
  have hg : ¬ opK K (spN b i) I p := fun g => ocE_1 hg12 g.1
  have h1 : opE K (spN b i) I p = 5 := if_neg hg
  have h2 : opR K (spN b i) I p = [] := if_neg hg
  have h3 : opI K (spN b i) I p i = i := if_neg hg
  exact ⟨_, _, rfl, ⟨_, [], by rw [h1]; rfl, by rw [h2, h3], by rw [h2]; exact OwnT.nil _ _⟩, by simpa [pickG] using hH.out [true, false, false]⟩
  refine pxV (v := (.slice A10 ((ocR K (spN b i) I p).length) c11)) (fun _ _ hF => opMove rfl (hF.ev 1 rfl)) rfl (gOn 0 rfl rfl rfl (by decide)) (kA rfl) (by decide) ?_
  refine pxV (v := (.int .i64 ((((ocR K (spN b i) I p).length) : Nat) : Int))) (fun _ _ hF => opLen (e := 5) rfl (by kernel_rfl) (hF.ev 0 rfl)) rfl (gOn 1 rfl rfl rfl (by decide)) (kM [false, true, true, true] rfl rfl) (by decide) ?_
  refine pxV (v := (.bool (decide ((ocR K (spN b i) I p).length = 0)))) (fun _ _ hF => opEqI rfl (hF.ev 0 rfl) rfl (dc (by omega))) rfl (gOn 1 rfl rfl rfl (by decide)) (kM [false, true, true, true] rfl rfl) (by decide) ?_
  refine zv (v := (.bool (decide ((ocR K (spN b i) I p).length = 0)))) (fun _ _ hF => opPickF rfl (hF.ev 1 rfl) (hF.ev 0 rfl)) 3 ?_
  refine zn ?_
  refine zP (fun hc13 => ?_) (fun hc13 => ?_)
  refine zr ?_
  refine zv .mv 7 ?_
  refine zv .mv 0 ?_
  refine zn ?_
  refine cxRet ?_
  refine qxThenR ?_
  refine qxRet2 1 0 rfl rfl rfl ?_
  have hg : ¬ opK K (spN b i) I p := fun g => g.2 (by rw [← (ocE_0 hg12).2]; exact hc13)
  have h1 : opE K (spN b i) I p = 5 := if_neg hg
  have h2 : opR K (spN b i) I p = [] := if_neg hg
  have h3 : opI K (spN b i) I p i = i := if_neg hg
  exact ⟨_, _, rfl, ⟨_, [], by rw [h1]; rfl, by rw [h2, h3], by rw [h2]; exact OwnT.nil _ _⟩, by simpa [pickG] using hH.out [true, false, false]⟩
  refine cxSkip ?_
  refine qxThen ?_
  have hrl : (ocR K (spN b i) I p).length ≤ n := by rw [(ocE_0 hg12).2, ocP_len]; omega
  refine zr ?_
  refine zv .mv 5 ?_
  refine zv .mv 0 ?_
  refine zv .len 1 ?_
  refine ze 0 hH rfl (.call Tryz.func31 ((past_s g A z B y Ai yi i m ((ocR K (spN b i) I p).length) (by omega) (by omega) (by omega)))) trivial 3 ?_
  clear hH
  rintro _ _ w ⟨rfl, rfl⟩ hH
  refine zn ?_
  refine zr ?_
  refine zv .mv 3 ?_
  refine zv .mv 1 ?_
  refine zv .mv 0 ?_
  refine zn ?_
  refine cxRet ?_
  refine qxRet2 1 0 rfl rfl rfl ?_
  obtain ⟨hgg, hrr⟩ := ocE_0 hg12
  have hg : opK K (spN b i) I p := ⟨hgg, by rw [← hrr]; exact hc13⟩
  have h1 : opE K (spN b i) I p = 0 := if_pos hg
  have h2 : opR K (spN b i) I p = ocR K (spN b i) I p := (if_pos hg).trans hrr.symm
  have h3 : opI K (spN b i) I p i = i + 1 := if_pos hg
  exact ⟨_, _, rfl, ⟨_, E8, by rw [h1]; rfl, by rw [h2, h3], by rw [h2]; exact hO9⟩, by simpa [pickG] using hH.out [true, false, true]⟩

set_option maxHeartbeats 8000000 in
theorem end_s (g : Nat) (A : Option Addr) (z : Nat) (K : List UInt8) (B : Option Addr) (y : Nat) (b : List UInt8) (Ai : Option Addr) (yi : Nat) (I : List UInt8) (i m : Nat) : Does Tryz.prog 16 #[(.pointer (some ⟨g, 0, none⟩))] [] (fun w => w.heap[g]? = some (.cells (cRn.enc ((A, 32, z), (B, 7, y), (Ai, 5, yi), i, m)) 55 (0, 0)) ∧ w.heap[2]? = some (.cells ((cArr 256).enc boxF) 105 (0, 0)) ∧ w.heap[4]? = some (.cells ((cArr 64).enc dbF) 104 (0, 0)) ∧ Vu cByte w A 32 z K ∧ Vu cByte w B 7 y b ∧ Vu cByte w Ai 5 yi I) (fun v E' => OwnT cByte 5 v (spE K b I i m) E') := by
  refine does_of (fn := Tryz.f16) Tryz.func16 rfl Tryz.ntmps16 (Nat.le_of_ble_eq_true rfl) rfl ?_
  intro w0 hH hR
  replace hH : HH w0 [] [] w0 := hH.only [false]
  have hKl := hR.2.2.2.1.len; have hbl := hR.2.2.2.2.1.len; have hIl := hR.2.2.2.2.2.len
  refine zr ?_
  refine zv .mv 0 ?_
  refine zn ?_
  refine zx ?_
  replace hH := hH.drew
  refine rv 0 .mv 1 ?_
  refine rv 1 .nc 1 ?_
  refine rv 2 (.fld 0) 1 ?_
  refine rld 3 (hH.ob hR.1) (.ld cSl (A, 32, z) (fun _ hS => (holds_blk0 hS).fst) (v := (.slice A 32 z))) 1 ?_
  refine rv 4 .mv 0 ?_
  refine rv 6 .mv 0 ?_
  refine rv 7 .nc 1 ?_
  refine rv 8 (.fld 2) 1 ?_
  refine rld 9 (hH.ob hR.1) (.ld cSl (Ai, 5, yi) (fun _ hS => (((holds_blk0 hS).snd).snd).fst) (v := (.slice Ai 5 yi))) 1 ?_
  refine rv 10 .mv 8 ?_
  refine rv 11 .nc 1 ?_
  refine rv 12 (.fld 4) 1 ?_
  refine rld 13 (hH.ob hR.1) (.ld (cNat .u64) m (fun _ hS => ((((holds_blk0 hS).snd).snd).snd).snd)) 1 ?_
  refine rx1k 5 ?_
  refine rm 5 hH (.call Tryz.func30 ((nonce_s g A z B y b Ai yi i m))) (⟨(hH.oldBlk hR.1 (by simp)), (hH.vu hR.2.2.2.2.1 (by decide) (Off.nil _ _))⟩) 4 (.keep (.keep (.keep (.nil _ [])))) ?_
  clear hH
  rintro v5 E1 w hO2 hH
  obtain ⟨A3, c4, rfl⟩ := hO2.slice
  refine ⟨pcons (hH.oldBlk hR.1 (by simp)) (pcons (hH.oldBlk hR.1 (by simp)) (pcons (hH.oldBlk hR.1 (by simp)) pnil)), ?_⟩
  refine rx1k 14 ?_
  refine rm 14 hH (.call Tryz.func33 ((eight_c m))) trivial 2 (pgo [] (.keep (.keep (.nil _ [])))) ?_
  clear hH
  rintro v11 E7 w hO8 hH
  obtain ⟨A9, c10, rfl⟩ := hO8.slice
  refine ⟨pcons (hH.oldBlk hR.1 (by simp)) (pcons (hH.oldBlk hR.1 (by simp)) pnil), ?_⟩
  refine rx1k 15 ?_
  refine rm 15 hH (fun _ hF => smLits (C := cSl) (e := 23) (z := (.slice none 0 0)) (by_ := 24) [(Ai, 5, yi), (A9, (beL 8 m).length, c10)] rfl (by kernel_rfl) (by kernel_rfl) (EvP.cons (v := cSl.val (Ai, 5, yi)) (hF.ev 2 rfl) (EvP.cons (v := cSl.val (A9, (beL 8 m).length, c10)) (hF.ev 0 rfl) EvP.nil)) rfl (ltb rfl) (leb rfl) rfl) trivial 5 (pgo [] (.keep (.nil _ []))) ?_
  clear hH
  rintro _ _ w ⟨g13, rfl, rfl⟩ hH
  refine ⟨pcons (hH.oldBlk hR.1 (by simp)) pnil, ?_⟩
  refine rx1k 16 ?_
  refine rm 16 hH (.call Tryz.func32 ((conc2 (some ⟨g13, 0, none⟩) 2 [(Ai, 5, yi), (A9, (beL 8 m).length, c10)] I (beL 8 m) (by simp only [beL_len]; omega)))) (⟨((Bk.lits (C := cSl) [(Ai, 5, yi), (A9, (beL 8 m).length, c10)] (by show 2 ≤ _; unfold maxLen; decide)).vu (n := 2) (hH.blk 2 rfl) rfl), (.cons (hH.vu hR.2.2.2.2.2 (by decide) (Off.nil _ _)) (.cons (hO8.vuAt (hH.has 1 rfl)) ViewsL.nil))⟩) 1 (.keep (.nil _ [])) ?_
  clear hH
  rintro v18 E14 w hO15 hH
  obtain ⟨A16, c17, rfl⟩ := hO15.slice
  refine ⟨pcons (hH.oldBlk hR.1 (by simp)) pnil, ?_⟩
  refine rx1k 17 ?_
  refine rm 17 hH (.call Tryz.func29 ((pseal_n A 32 z K (by omega) A3 ((spN b i).length) c4 (spN b i) (spN_len (by omega) _) A16 ((I ++ (beL 8 m)).length) c17 (I ++ (beL 8 m)) (by simp only [List.length_append, beL_len]; omega) none 0 0 ([]) (by simp only [List.length_nil]; omega)))) (⟨(hH.oldBlk hR.2.1 (by simp)), (hH.oldBlk hR.2.2.1 (by simp)), (hH.vu hR.2.2.2.1 (by decide) (Off.nil _ _)), (hO2.vuAt (hH.has 0 rfl)), (hO15.vuAt (hH.has 3 rfl)), (Vu.none cByte _)⟩) 7 (pgo [] (.nil _ [])) ?_
  clear hH
  rintro _ E21 w ⟨s20, rfl, hO22⟩ hH
  obtain ⟨A23, c24, rfl⟩ := hO22.slice
  refine ⟨pnil, ?_⟩
  refine rv 18 .mv 1 ?_
  refine rv 19 .ext 0 ?_
  refine rv 20 .ext 2 ?_
  refine rv 21 .mv 2 ?_
  refine rv 22 .mv 2 ?_
  refine rn ?_
  refine zr ?_
  refine zv .mv 3 ?_
  refine zv .mv 1 ?_
  refine zn ?_
  refine cxRet ?_
  refine qxRet1 0 rfl rfl ?_
  exact ⟨_, _, rfl, hO22, hH.out1 [false, false, false, false, true] rfl⟩
end Go.Proofs.YtfloiekaiiapnaaGreatDoor

namespace Go.Proofs.YtfloiekaiiapnaaGreatDoor
open Go Go.RowKit Go.Shelf
set_option maxRecDepth 100000

/-- How many bytes part i of n has, by z. -/
def plz (z n i : Nat) : Nat := min z (n - z * i)
/-- Part i of n bytes. -/
def pvz (z b off n i : Nat) : Value := .slice (some ⟨b, off + z * i, none⟩) (plz z n i) (plz z n i)
abbrev Ptz (z n : Nat) : Type := { i : Nat // z * i < n }
/-- Two blocks are as they were. -/
def Kpz (B : Nat) (W W' : World) : Prop := W'.heap[B]? = W.heap[B]? ∧ W'.heap[B + 1]? = W.heap[B + 1]?
theorem Kpz.trans {B : Nat} {W W' W'' : World} (h : Kpz B W W') (k : Kpz B W' W'') : Kpz B W W'' := ⟨k.1.trans h.1, k.2.trans h.2⟩
theorem Kpz.blk {B : Nat} {W W' : World} (h : Kpz B W W') {t : TypeId} {cs : Array Value} (hb : Blk W B t cs) : Blk W' B t cs := h.1.trans hb
theorem Kpz.blk1 {B : Nat} {W W' : World} (h : Kpz B W W') {t : TypeId} {cs : Array Value} (hb : Blk W (B + 1) t cs) : Blk W' (B + 1) t cs := h.2.trans hb

set_option maxHeartbeats 2000000 in
theorem chkz_c (z : Nat) (hz : 1 ≤ z) (A : Option Addr) (n c : Nat) (w : World) : Calls Tryz.prog 13 #[.slice A n c, .int .i64 z] w fun e w' =>
    e = .returned (.func (.func 28) #[] #[.pointer (some ⟨w.heap.size, 0, none⟩), .pointer (some ⟨w.heap.size + 1, 0, none⟩)]) ∧ w' = (w.alloc (.cells #[.slice A n c] 23)).alloc (.cells #[.int .i64 z] 3) := by
  go_enter Tryz.func13, Tryz.ntmps13
  have i1 : ¬ ((z : Nat) : Int) < 1 := by omega
  go_wp2
  go_ret
  exact ⟨rfl, rfl⟩

theorem drew_grz (w : World) : w.grownBy w.drew none := ⟨rfl, rfl, rfl, Nat.le_refl _, fun _ _ _ => rfl⟩

set_option maxHeartbeats 2000000 in
theorem chkz_in (m l Bs b off n c z : Nat) (A : Option Addr) (hz : 1 ≤ z) (hz2 : z ≤ 140737488355328) (hm : 1 ≤ m) (hA : 0 < n → A = some ⟨b, off, none⟩) (hnc : n ≤ c) (hc : n ≤ 140737488355328) (J Jx : List (Ptz z n) → World → Prop)
    (hJd : ∀ s w, J s w → J s w.drew)
    (hY : ∀ pre x W, J pre W → pre.length < (n + (z - 1)) / z → YieldAt Fence.wide (m - 1) Tryz.prog l #[pvz z b off n x.1] W fun e W' =>
      (e = .returned (.bool true) ∧ J (pre ++ [x]) W' ∧ Kpz Bs W W') ∨ (e = .returned (.bool false) ∧ Jx (pre ++ [x]) W'))
    (W : World) (h1 : Blk W Bs 23 #[.slice A n c]) (h2 : Blk W (Bs + 1) 3 #[.int .i64 z]) (h0 : J [] W) :
    CallsIn Fence.wide m Tryz.prog 28 #[.func (.yield l) #[] #[], .pointer (some ⟨Bs, 0, none⟩), .pointer (some ⟨Bs + 1, 0, none⟩)] W fun e W' => (∃ v, e = .returned v) ∧
      ((∃ ys, ys.map (·.1) = List.range ((n + (z - 1)) / z) ∧ J ys W') ∨ (∃ pre, pre.map (·.1) = List.range pre.length ∧ Jx pre W')) := by
  refine callsIn_of_wp Tryz.func28 rfl trivial ?_ rfl
  simp only [Tryz.ntmps28, List.size_toArray, List.length_cons, List.length_nil, Nat.reduceAdd, Nat.reduceSub, Array.replicate_succ, Array.replicate_zero, List.push_toArray, List.append_toArray, List.nil_append, List.cons_append]
  gi_wp2
  gi_loopw [4] (fun i wr => ∃ (p k : Nat) (ys : List (Ptz z n)), p = z * k ∧ p < n + z ∧ i = .int .i64 (p : Int) ∧ ys.map (·.1) = List.range k ∧ J ys wr ∧ Blk wr Bs 23 #[.slice A n c] ∧ Blk wr (Bs + 1) 3 #[.int .i64 z])
    (fun i _ => n + z - (intOf i).toNat)
  case atStart => exact ⟨0, 0, [], by simp, by omega, rfl, rfl, h0, h1, h2⟩
  case round =>
    obtain ⟨p, k, ys, hpk, hk, rfl, hys, hJ, hb1, hb2⟩ := hrel
    have e1 : wr.cell? ⟨Bs, 0, none⟩ = some (.slice A n c) := hb1.cell 0
    have e2 : wr.cell? ⟨Bs + 1, 0, none⟩ = some (.int .i64 z) := hb2.cell 0
    have hpk1 : z * (k + 1) = p + z := by rw [hpk, Nat.mul_add, Nat.mul_one]
    have HPK := Lib.hid hpk
    have HPK1 := Lib.hid hpk1
    clear hpk hpk1
    by_cases hlt : p < n
    · obtain rfl := hA (by omega)
      have i1 : ((p : Nat) : Int) < (n : Int) := by omega
      have i2 : 0 ≤ (p : Int) := by omega
      have i3 : (p : Int) ≤ (n : Int) := by omega
      have i4 : (p : Int).toNat = p := by omega
      have i5 : ¬ c = p := by omega
      gi_wp2
      refine wpIn_wide.2 ?_
      refine region_seq (fun w' => J ys w' ∧ Blk w' Bs 23 #[.slice (some ⟨b, off, none⟩) n c] ∧ Blk w' (Bs + 1) 3 #[.int .i64 z]) (by kernel_rfl) (by kernel_rfl) (by simp) ⟨hJd _ _ hJ, hb1.drew, hb2.drew⟩ ?_
      clear hJ hb1 hb2 e1 e2
      iterate 6
        refine Seq.next ?_ (Sure.val rfl (fun w' hS => ?_)) ?_
        rotate_left 1
        · have e1 : w'.cell? ⟨Bs, 0, none⟩ = some (.slice (some ⟨b, off, none⟩) n c) := hS.2.1.cell 0
          have e2 : w'.cell? ⟨Bs + 1, 0, none⟩ = some (.int .i64 z) := hS.2.2.cell 0
          clear hS
          go_simp
          rfl
        simp only [Act.put, List.setIfInBounds_toArray, List.set_cons_zero, List.set_cons_succ]
      have hmin : (if n - p < z then ((n - p : Nat) : Int) else (z : Int)) = ((plz z n k : Nat) : Int) := by unfold plz; rw [← HPK.out]; split <;> omega
      have hmin2 : min (z : Int) ((n - p : Nat) : Int) = ((plz z n k : Nat) : Int) := by unfold plz; rw [← HPK.out]; omega
      first | rw [hmin] | rw [hmin2]
      have hp1 : 0 < plz z n k ∧ plz z n k ≤ z ∧ p + plz z n k ≤ n := by unfold plz; rw [← HPK.out]; omega
      obtain ⟨e, he⟩ : ∃ e, e = plz z n k := ⟨_, rfl⟩
      rw [← he] at hp1 ⊢
      have HE := Lib.hid he
      clear he hmin hmin2
      refine Seq.last rfl fun w' hS => ?_
      obtain ⟨hJ, hb1, hb2⟩ := hS
      have e1 : w'.cell? ⟨Bs, 0, none⟩ = some (.slice (some ⟨b, off, none⟩) n c) := hb1.cell 0
      have e2 : w'.cell? ⟨Bs + 1, 0, none⟩ = some (.int .i64 z) := hb2.cell 0
      obtain ⟨fn, tmps, assign, body, hy, hR⟩ := hY ys ⟨k, by rw [← HPK.out]; exact hlt⟩ w' hJ (by
        have h := congrArg List.length hys
        simp at h
        rw [h]
        refine (Nat.lt_div_iff_mul_lt (by omega)).2 ?_
        rw [Nat.mul_comm, ← HPK.out]
        omega)
      simp only [pvz, ← HE.out, ← HPK.out] at hy
      obtain ⟨hp1, hp2, hp3⟩ := hp1
      have j1 : (p : Int) + (e : Int) ≤ (c : Int) := by omega
      have j2 : (p : Int) ≤ (p : Int) + (e : Int) := by omega
      have j3 : ((p : Int) + (e : Int)).toNat = p + e := by omega
      have j4 : 0 ≤ (p : Int) + (e : Int) := by omega
      go_simp
      gi_wp2
      refine hR.mono ?_
      rintro e' W3 (⟨rfl, hJ3, hk3⟩ | ⟨rfl, hJx3⟩)
      · have hb3 := hk3.blk hb1
        have hb4 := hk3.blk1 hb2
        have e4 : W3.cell? ⟨Bs + 1, 0, none⟩ = some (.int .i64 z) := hb4.cell 0
        clear e1 e2 hy hR hb1 hb2
        have hys' : (ys ++ [(⟨k, by rw [← HPK.out]; exact hlt⟩ : Ptz z n)]).map (·.1) = List.range (k + 1) := by rw [List.map_append, hys, List.range_succ]; rfl
        gi_wp2
        go_roundw
        case rel => exact ⟨p + z, k + 1, _, HPK1.out.symm, by omega, by simp, hys', hJ3, hb3, hb4⟩
        case measure => simp [intOf]; omega
      · gi_wp2
        refine bodyPost_ret (results_none rfl _ _ _) rfl ?_
        refine ⟨⟨_, rfl⟩, .inr ⟨_, ?_, hJx3⟩⟩
        have hyl := congrArg List.length hys
        rw [List.length_map, List.length_range] at hyl
        rw [List.map_append, hys, List.length_append, hyl, List.length_singleton, List.range_succ]
        rfl
    · have i1 : ¬ ((p : Nat) : Int) < (n : Int) := by omega
      have hkk : k = (n + (z - 1)) / z := by
        refine Nat.le_antisymm ?_ ?_
        · refine (Nat.le_div_iff_mul_le (by omega)).2 ?_
          rw [Nat.mul_comm, ← HPK.out]; omega
        · refine Nat.le_of_lt_succ ((Nat.div_lt_iff_lt_mul (by omega)).2 ?_)
          rw [Nat.mul_comm, HPK1.out]; omega
      gi_wp2
      go_end0
      exact ⟨⟨_, rfl⟩, .inl ⟨_, by rw [← hkk]; exact hys, hJ⟩⟩

/-- What slices.Chunk answers has its contract: all parts, in order; a body that goes on keeps the two blocks. -/
theorem chkz_stops (m Bs b off n c z : Nat) (A : Option Addr) (w : World) (hz : 1 ≤ z) (hz2 : z ≤ 140737488355328) (hm : 1 ≤ m) (hA : 0 < n → A = some ⟨b, off, none⟩) (hnc : n ≤ c) (hc : n ≤ 140737488355328)
    (h1 : Blk w Bs 23 #[.slice A n c]) (h2 : Blk w (Bs + 1) 3 #[.int .i64 z]) :
    SeqStopsK Fence.wide m Tryz.prog 28 #[.pointer (some ⟨Bs, 0, none⟩), .pointer (some ⟨Bs + 1, 0, none⟩)] (fun x : Ptz z n => #[pvz z b off n x.1]) (Kpz Bs)
      (fun ys => ys.map (·.1) = List.range ((n + (z - 1)) / z)) (fun ys => ys.map (·.1) = List.range ys.length) ((n + (z - 1)) / z) w := fun l J Jx W hW hJ _ hY h0 =>
  chkz_in m l Bs b off n c z A hz hz2 hm hA hnc hc J Jx (fun s w h => hJ s w _ none h (drew_grz w) (fun _ h => by cases h)) hY W (h1.below hW h1.lt) (h2.below hW h2.lt) h0
end Go.Proofs.YtfloiekaiiapnaaGreatDoor

namespace Go.Proofs.YtfloiekaiiapnaaGreatDoor
open Go Go.RowKit

section
variable {P : Program} {w0 w w' : World} {R : List Nat} {Hs : List Hl} {E : Hl}
/-- A round that goes on, or returns. -/
def RetOr (K Kr : World → Prop) : Exit → Act → World → Prop
  | .normal, _, w => K w
  | .ret, _, w => Kr w
  | _, _, _ => False
theorem OwnT.allCells {α : Type} {C : Cod α} {e : TypeId} {v : Value} {l : List α} (h : OwnT C e v l E) : AllCells E := by
  rcases h.cases with ⟨_, _, rfl⟩ | ⟨g', cap, cur, _, rfl, _⟩
  · intro x hx; cases hx
  · intro x hx
    obtain rfl := List.mem_singleton.1 hx
    rfl
theorem AllCells.app {A B : Hl} (h : AllCells A) (k : AllCells B) : AllCells (A ++ B) := fun x hx => (List.mem_append.1 hx).elim (h x) (k x)
theorem AllCells.bl {g : Nat} {t : TypeId} {cs : Array Value} : AllCells [Go.Proofs.YtfloiekaiiapnaaGreatDoor.bl g t cs] := fun x hx => by
  obtain rfl := List.mem_singleton.1 hx
  rfl
theorem cxRetI {f : Nat} {Q : Exit → Act → World → Prop} {n : Sz} {l : Slots} (h : QX Q .ret n l w) : CXi f P Q .ret n l w := fun a hF => wpIn_ret (h a hF)
theorem cxRangeR {α : Type} {Q : Exit → Act → World → Prop} {n : Nat} {l : Slots} {k p d ida : Nat} {body : Code} {o : Oper} {gf : Nat} {lb : Array Value} {encs : α → Value} {Kp : World → World → Prop} {S Sp : List α → Prop} {N : Nat} {E0 : Hl}
    (I Ix : List α → Hl → Prop) (j : Nat) (hH : HH w0 R (Hs ++ [E0]) w) (hj : l[j]? = some (k, .func (.func gf) #[] lb)) (eg : ∀ args w, (callFunc gf args).run P w = .ok (.enter gf args) w)
    (hseq : SeqStopsK Fence.wide 2 P gf lb (fun x => #[encs x]) Kp S Sp N w) (hKt : ∀ {A B C : World}, Kp A B → Kp B C → Kp A C)
    (hKb : ∀ (W : World) (l : Nat) (o o' : Obj), w.heap.size ≤ l → W.heap[l]? = some o → o.isCells = false → o.isWalk = false → Kp W (W.putObj l o'))
    (hKp : ∀ W W', Has Hs.flatten W → Has Hs.flatten W' → Kp W W') (hcs : AllCells Hs.flatten) (hIc : ∀ pre E, I pre E → AllCells E) (hXc : ∀ pre E, Ix pre E → AllCells E) (h0 : I [] E0)
    (hpl : keysB p l = true) (hpn : p < n) (ho : ∀ (a : Act) W v, a.eval (.tmp p) = v → (execOp a.eval o).run P W = .ok (.value v) W) (hod : o.dst = some d) (hog : ∀ a : Act, Region.wanted o (yielded [o].toArray a.tmps) = true) (hnd : noDefer o = true) (hdl : keysB d l = true) (hdn : d < n)
    (hbody : ∀ pre x E W lp, I pre E → pre.length < N → HH w0 R (Hs ++ [E]) W → ∀ a, Fr ⟨n, []⟩ ((d, encs x) :: l) a → body.wpIn (Fence.wide.inRound lp) 1 P (RetOr (fun W' => ∃ E', I (pre ++ [x]) E' ∧ Hold W (bks E) E' W') fun W' => ∃ E', Ix (pre ++ [x]) E' ∧ Hold W (bks E) E' W') a W)
    (hdone : ∀ xs E D W, S xs → I xs E → HH w0 R (Hs ++ [E] ++ [[(D, .deferred (some []))]]) W → QX Q .normal ⟨n, [{ target := .collected D, args := #[] }]⟩ l W)
    (hret : ∀ xs E D W, Sp xs → Ix xs E → HH w0 R (Hs ++ [E] ++ [[(D, .deferred (some []))]]) W → QX Q .ret ⟨n, [{ target := .collected D, args := #[] }]⟩ l W) :
    CX P Q (.rangeFunc (.tmp k) #[p] (.region ida [o].toArray false) body) ⟨n, []⟩ l w := by
  intro a hF
  have hsz : w0.heap.size ≤ w.heap.size := Hold.size hH
  have hall : ∀ {pre E}, I pre E → AllCells (Hs ++ [E]).flatten := fun hi x hx => by
    rw [List.flatten_append] at hx
    rcases List.mem_append.1 hx with hx | hx
    · exact hcs x hx
    · exact hIc _ _ hi x (by simpa using hx)
  have hallx : ∀ {pre E}, Ix pre E → AllCells (Hs ++ [E]).flatten := fun hi x hx => by
    rw [List.flatten_append] at hx
    rcases List.mem_append.1 hx with hx | hx
    · exact hcs x hx
    · exact hXc _ _ hi x (by simpa using hx)
  have hhas : ∀ {E W}, HH w0 R (Hs ++ [E]) W → Has Hs.flatten W := fun hh => (HH.hasAll hh).of (flatten_sub (List.sublist_append_left _ _))
  refine (wpIn_wide (n := 3)).1 ?_
  refine wpIn_rangeFunc_ownH (α := α) (w0 := w) rfl (by omega) (gf := gf) (lb := lb) (hF.ev j hj) trivial eg hseq hKt hKb (Below.refl _ _) (fun _ => rfl)
    (fun pre W => ∃ E, I pre E ∧ HH w0 R (Hs ++ [E]) W) (fun c pre W => c = .ret ∧ ∃ E, Ix pre E ∧ HH w0 R (Hs ++ [E]) W)
    (fun s A B row ⟨E, hi, hh⟩ hg hr => ⟨E, hi, Hold.grown hh hg fun r e => by
      obtain ⟨h1, o, ho, hc⟩ := hr r e
      exact ⟨Nat.le_trans hsz h1, not_cells_ne hh (hall hi) ho hc⟩⟩)
    (fun c s A B row ⟨hc0, E, hi, hh⟩ hg hr => ⟨hc0, E, hi, Hold.grown hh hg fun r e => by
      obtain ⟨h1, o, ho, hc⟩ := hr r e
      exact ⟨Nat.le_trans hsz h1, not_cells_ne hh (hallx hi) ho hc⟩⟩) ⟨E0, h0, hH⟩ (fun x a' _ => Fr ⟨n, []⟩ ((d, encs x) :: l) a') (fun x a' => ownFrom_pure _ _) ?assign ?body ?done ?stop
  case assign =>
    rintro lp pre x W K ⟨E, hi, hh⟩ hK
    have hF1 : Fr ⟨n, []⟩ ((p, encs x) :: l) (a.put (some p) (encs x)) := hF.put _ (kA hpl) hpn
    have e1 : ({ tmps := (#[p].zip #[encs x]).foldl (fun t (p, v) => t.setIfInBounds p v) a.tmps, defers := [] } : Act) = a.put (some p) (encs x) := by
      have := hF.defers
      cases a
      simp only at this
      subst this
      simp [Act.put]
    rw [e1]
    refine region_in (by simpa using hnd) fun K' hK' => ?_
    refine stepV hF1 hod (hog _) (ho _ _ _ (hF1.ev 0 rfl)) (l' := l) ⟨List.sublist_cons_self _ _, hdl⟩ hdn fun a' hF2 => ?_
    exact hK' _ _ (hK _ _ (KeepsFrom.refl _ _) (hKp _ _ (hhas hh) (hhas hh)) ⟨E, hi, hh⟩ hF2)
  case body =>
    rintro lp pre x a' W hlp hrec ⟨E, hi, hh⟩ hax hlen
    refine wpIn_mono (hbody pre x E W lp hi hlen hh a' hax) ?_
    rintro e a3 W3 hp
    cases e with
    | normal =>
      obtain ⟨E', hi', hE⟩ := hp
      have hh' : HH w0 R (Hs ++ [E']) W3 := by
        have h2 := hh.turn Hs.length (by simp) hE
        simpa using h2
      refine ⟨⟨hE.size, fun k o hk hko hc => ?_⟩, hKp _ _ (hhas hh) (hhas hh'), E', hi', hh'⟩
      refine (hE.frame k (Array.getElem?_eq_some_iff.1 hko).1 fun hm => ?_).trans hko
      obtain ⟨y, hy, e⟩ := List.mem_map.1 hm
      exact not_cells_ne (L := E) (Has.hold (hh.has Hs.length (by simp))) (hIc _ _ hi) hko hc y hy e
    | ret =>
      obtain ⟨E', hi', hE⟩ := hp
      have hh' : HH w0 R (Hs ++ [E']) W3 := by
        have h2 := hh.turn Hs.length (by simp) hE
        simpa using h2
      refine ⟨⟨hE.size, fun k o hk hko hc => ?_⟩, rfl, E', hi', hh'⟩
      refine (hE.frame k (Array.getElem?_eq_some_iff.1 hko).1 fun hm => ?_).trans hko
      obtain ⟨y, hy, e⟩ := List.mem_map.1 hm
      exact not_cells_ne (L := E) (Has.hold (hh.has Hs.length (by simp))) (hIc _ _ hi) hko hc y hy e
    | _ => exact hp.elim
  case done =>
    rintro D xs W hD hS ⟨E, hi, hh⟩ hK
    refine hdone xs E D W hS hi ?_ _ ⟨hF.size, by simp [hF.defers], hF.get⟩
    have h2 := Hold.more hh hK (not_cells_ne hh (hall hi) hK rfl) (Nat.le_trans hsz hD)
    unfold HH
    rw [List.flatten_append]
    simpa using h2
  case stop =>
    rintro D c pre W hD hS ⟨rfl, E, hi, hh⟩ hK
    refine wpIn_ret (hret pre E D W hS hi ?_ _ ⟨hF.size, by simp [hF.defers], hF.get⟩)
    have h2 := Hold.more hh hK (not_cells_ne hh (hallx hi) hK rfl) (Nat.le_trans hsz hD)
    unfold HH
    rw [List.flatten_append]
    simpa using h2
end
section
variable {P : Program} {w w0 : World} {R : List Nat} {Hs : List Hl} {fn : Func} {RR : Ending → World → Prop} {l : Slots} {n D c : Nat}
theorem loadVar1 {ty : TypeId} {g : Nat} {v : Value} {t : TypeId} (hdd : (P.underlying ty).map (·.isRow) = some false) (hb : w.heap[g]? = some (.cells #[v] t (0, 0))) : (loadVar ty ⟨g, 0, none⟩).run P w = .ok v w := by
  have hc : w.cell? ⟨g, 0, none⟩ = some v := by rw [cell_of_row w g 0 #[v] t (0, 0) hb]; rfl
  cases hu : P.underlying ty with
  | none => rw [hu] at hdd; cases hdd
  | some d =>
    rw [hu] at hdd
    have hag : (isAgg ty).run P w = .ok false w := by
      cases d <;> first | (cases hdd; done) | simp [isAgg, run_underlying hu]
    simp [loadVar, hag, run_load, hc]
theorem results_cc {p p' : Tmp} {g g' : Nat} {v v' : Value} {t t' ty ty' : TypeId} {tmps : Array Value} (hf : fn.results = #[.cell p ty, .cell p' ty']) (hp : tmps.getD p undef = .pointer (some ⟨g, 0, none⟩)) (hp' : tmps.getD p' undef = .pointer (some ⟨g', 0, none⟩)) (hb : w.heap[g]? = some (.cells #[v] t (0, 0))) (hb' : w.heap[g']? = some (.cells #[v'] t' (0, 0))) (hdd : (P.underlying ty).map (·.isRow) = some false) (hdd' : (P.underlying ty').map (·.isRow) = some false) :
    (results fn tmps).run P w = .ok (.tuple #[v, v']) w := by
  have hl := loadVar1 hdd hb
  have hl' := loadVar1 hdd' hb'
  simp only [Array.getD_eq_getD_getElem?] at hp hp'
  simp [results, hf, hp, hp', asAddr, hl, hl']
/-- Two results that are cells of one value; ahead of a range, and behind it. -/
theorem qxMRet1CC {p p' : Tmp} {g g' : Nat} {v v' : Value} {t t' ty ty' : TypeId} (i j : Nat) (hb : w.heap[g]? = some (.cells #[v] t (0, 0))) (hb' : w.heap[g']? = some (.cells #[v'] t' (0, 0))) (hf : fn.results = #[.cell p ty, .cell p' ty']) (hi : l[i]? = some (p, .pointer (some ⟨g, 0, none⟩))) (hj : l[j]? = some (p', .pointer (some ⟨g', 0, none⟩))) (hdd : (P.underlying ty).map (·.isRow) = some false) (hdd' : (P.underlying ty').map (·.isRow) = some false) (hR : RR (.returned (.tuple #[v, v'])) w) : QX (bodyPostM Fence.wide 3 P fn RR) .ret ⟨n, []⟩ l w := fun a hF => by
  show LeavesInM _ _ _ _ _ _ a.defers _ _
  rw [hF.defers]
  exact ⟨_, results_cc hf (hF.at i hi) (hF.at j hj) hb hb' hdd hdd', hR⟩
theorem qxDRet1CC {p p' : Tmp} {g g' : Nat} {v v' : Value} {t t' ty ty' : TypeId} (i j c k k' : Nat) (hH : HH w0 R Hs w) (hc : Hs[c]? = some [(D, .deferred (some []))]) (hb : (Hs.set c [(D, .deferred none)])[k]? = some [(g, .cells #[v] t (0, 0))]) (hb' : (Hs.set c [(D, .deferred none)])[k']? = some [(g', .cells #[v'] t' (0, 0))]) (hf : fn.results = #[.cell p ty, .cell p' ty']) (hi : l[i]? = some (p, .pointer (some ⟨g, 0, none⟩))) (hj : l[j]? = some (p', .pointer (some ⟨g', 0, none⟩))) (hdd : (P.underlying ty).map (·.isRow) = some false) (hdd' : (P.underlying ty').map (·.isRow) = some false)
    (hR : ∀ w', HH w0 R (Hs.set c [(D, .deferred none)]) w' → RR (.returned (.tuple #[v, v'])) w') : QX (bodyPostM Fence.wide 3 P fn RR) .ret ⟨n, [{ target := .collected D, args := #[] }]⟩ l w := fun a hF => by
  have hK := hH.blk c hc
  have hT := turn_dfr hH hc
  show LeavesInM _ _ _ _ _ _ a.defers _ _
  rw [hF.defers]
  refine ⟨by simp, .inl ⟨_, _, rfl, run_takeDeferred hK, ?_⟩⟩
  exact ⟨_, results_cc hf (hF.at i hi) (hF.at j hj) (hT.blk k hb) (hT.blk k' hb') hdd hdd', hR _ hT⟩
end
end Go.Proofs.YtfloiekaiiapnaaGreatDoor

namespace Go.Proofs.YtfloiekaiiapnaaGreatDoor
open Go Go.RowKit
set_option maxRecDepth 100000

theorem chkz_d (z : Nat) (hz : 1 ≤ z) (A : Option Addr) (n c : Nat) : Does Tryz.prog 13 #[.slice A n c, .int .i64 ((z : Nat) : Int)] [] (fun _ => True) (fun v E' => ∃ B, v = .func (.func 28) #[] #[.pointer (some ⟨B, 0, none⟩), .pointer (some ⟨B + 1, 0, none⟩)] ∧ E' = [bl B 23 #[.slice A n c], bl (B + 1) 3 #[.int .i64 ((z : Nat) : Int)]]) := fun w _ _ =>
  (chkz_c z hz A n c w).mono fun e w' ⟨h1, h2⟩ => ⟨_, _, h1, ⟨w.heap.size, rfl, rfl⟩, by
    subst h2
    have h3 := ((Hold.init w).new (.cells #[.slice A n c] 23)).new (.cells #[.int .i64 ((z : Nat) : Int)] 3)
    rw [World.size_alloc] at h3
    exact h3⟩
theorem partz_vu {w : World} {A : Option Addr} {c b off i z n : Nat} {l : List UInt8} (h : Vu cByte w A n c l) (hA : 0 < n → A = some ⟨b, off, none⟩) (hi : z * i < n) :
    Vu cByte w (some ⟨b, off + z * i, none⟩) (plz z n i) (plz z n i) ((l.drop (z * i)).take z) := by
  obtain rfl := h.len
  have hl : ((l.drop (z * i)).take z).length = plz z l.length i := by rw [List.length_take, List.length_drop]; rfl
  refine ⟨hl, Nat.le_refl _, fun h => (by cases h), fun _ => ⟨b, _, rfl, ?_⟩⟩
  obtain ⟨b', off', e, hL⟩ := h.open (by omega)
  rw [hA (by omega)] at e
  cases e
  intro j x hx
  have h1 : l[z * i + j]? = some x := by
    rw [List.getElem?_take] at hx
    split at hx
    · rw [List.getElem?_drop] at hx; exact hx
    · cases hx
  have h2 := hL _ x h1
  have e : off + z * i + j * cByte.sz = off + (z * i + j) * cByte.sz := by show off + z * i + j * 1 = off + (z * i + j) * 1; omega
  rw [e]
  exact h2
theorem map_snoc_range {α : Type} {f : α → Nat} {pre : List α} {x : α} (h : (pre ++ [x]).map f = List.range (pre ++ [x]).length) : pre.map f = List.range pre.length ∧ f x = pre.length := by
  rw [List.map_append, List.length_append, List.length_singleton, List.range_succ] at h
  have h1 := List.append_inj h (by rw [List.length_map, List.length_range])
  exact ⟨h1.1, by simpa using h1.2⟩
theorem plz_le {z n i : Nat} : plz z n i ≤ z := Nat.min_le_left _ _
end Go.Proofs.YtfloiekaiiapnaaGreatDoor

namespace Go.Proofs.YtfloiekaiiapnaaGreatDoor
open Go Go.RowKit
set_option maxRecDepth 100000

theorem Off.part {A : Option Addr} {n m : Nat} {R : List Nat} (h : Off A n R) (hn : 0 < n) : Off A m R := fun b off e _ => h b off e hn
theorem OwnT.cutOff {A : Option Addr} {n m c k sz : Nat} {R : List Nat} {e : TypeId} {l : List UInt8} {F : Hl} (hO : OwnT cByte e (.slice A n c) l F) (h : Off A n R) (hn : 0 < n) : Off (cutA A c k sz) m R := fun b off e _ => by
  rcases hO.cases with ⟨e1, _, _⟩ | ⟨g, cap, cur, e1, _, _⟩
  · injection e1 with e1 e2 e3
    omega
  · injection e1 with e1 e2 e3
    subst e1
    unfold cutA at e
    split at e
    · exact h b off e hn
    · rw [Option.map_some, Addr.add_mid] at e
      injection e with e
      injection e with e1 e2
      subst e1
      exact h g 0 rfl hn

theorem seal_next {K b I H L p : List UInt8} {z k m : Nat} {pre : List (Ptz z p.length)} {x : Ptz z p.length} (hk : k = pre.length) (hT : pre.map (·.1) = List.range k → L = H ++ spW K b I z p k ∧ m = min (z * k) p.length) (hx : z * x.1 < p.length) (h : (pre ++ [x]).map (·.1) = List.range (pre ++ [x]).length) :
    L ++ ocS K (spN b k) I ((p.drop (z * x.1)).take z) = H ++ spW K b I z p (k + 1) ∧ m + plz z p.length x.1 = min (z * (k + 1)) p.length := by
  obtain ⟨h1, h2⟩ := map_snoc_range h
  obtain ⟨e1, e2⟩ := hT (by rw [hk]; exact h1)
  replace h2 : x.1 = k := h2.trans hk.symm
  rw [h2] at hx ⊢
  refine ⟨by rw [e1, List.append_assoc]; rfl, ?_⟩
  rw [e2]
  unfold plz
  rw [Nat.mul_add, Nat.mul_one]
  omega

set_option maxHeartbeats 8000000 in
theorem seals_s (s t : Nat → UInt8) (c : Nat) (hc : c ≤ 10) (A : Option Addr) (y : Nat) (p : List UInt8) (hp : p.length ≤ 10000) : Does Tryz.prog 7 #[((cArr 32).val s), ((cArr 32).val t), (.int .i64 (((c) : Nat) : Int)), (.slice A p.length y)] [] (fun w => w.heap[1]? = some (.cells ((cWs 64).enc K32) 125 (0, 0)) ∧ w.heap[0]? = some (.cells ((cWs 8).enc H32) 115 (0, 0)) ∧ w.heap[2]? = some (.cells ((cArr 256).enc boxF) 105 (0, 0)) ∧ w.heap[4]? = some (.cells ((cArr 64).enc dbF) 104 (0, 0)) ∧ Vu cByte w A p.length y p) (fun v E' => ∃ b, v = .tuple #[b, .int .i64 0] ∧ OwnT cByte 5 b (spBody (lst 32 s) (lst 32 t) c p) E') := by
  refine does_ofM (fn := Tryz.f7) Tryz.func7 rfl Tryz.ntmps7 (Nat.le_of_ble_eq_true rfl) rfl ?_
  intro w0 hH hR
  replace hH : HH w0 [] [] w0 := hH.only [false]
  have hcp := hR.2.2.2.2.cap
  have hzz := z_le hc
  obtain ⟨z, hz⟩ : ∃ z, z = 64 * 2 ^ c := ⟨_, rfl⟩
  rw [← hz] at hzz
  obtain ⟨hz1, hz2⟩ := hzz
  have hcn := spC_le (z := z) (n := p.length) (by omega)
  refine zr ?_
  refine zm hH (.bx (cArr 32) s) trivial 1 ?_
  clear hH
  rintro _ _ w ⟨g1, rfl, rfl⟩ hH
  refine zm hH (.bx (cArr 32) t) trivial 2 ?_
  clear hH
  rintro _ _ w ⟨g2, rfl, rfl⟩ hH
  refine zv .mv 0 ?_
  refine zv .mv 1 ?_
  refine zn ?_
  refine cxSeq ?_
  refine zr ?_
  refine zv .mv 1 ?_
  refine zv (v := (.bool false)) (fun _ _ hF => opLss rfl (hF.ev 0 rfl) rfl (decide_eq_false (by omega))) 1 ?_
  refine zv .mv 1 ?_
  refine pxV (v := (.int .i64 (((c) : Nat) : Int))) (fun _ _ hF => opMove rfl (hF.ev 3 rfl)) rfl (gOn 0 rfl rfl rfl (by decide)) (kA rfl) (by decide) ?_
  refine pxV (v := (.bool false)) (fun _ _ hF => opGtr rfl (hF.ev 0 rfl) rfl (decide_eq_false (by omega))) rfl (gOn 1 rfl rfl rfl (by decide)) (kM [false, true, true, true, true, true] rfl rfl) (by decide) ?_
  refine zv (v := (.bool false)) (fun _ _ hF => opPickF rfl (hF.ev 1 rfl) (hF.ev 0 rfl)) 3 ?_
  refine zn ?_
  refine zF ?_
  refine cxSkip ?_
  refine qxThen ?_
  refine cxSeq ?_
  refine zr ?_
  refine zv .mv 1 ?_
  refine zv .len 1 ?_
  refine zv (v := (.bool false)) (fun _ _ hF => opGtr rfl (hF.ev 0 rfl) rfl (decide_eq_false (by omega))) 1 ?_
  refine zn ?_
  refine zF ?_
  refine cxSkip ?_
  refine qxThen ?_
  refine zr ?_
  refine zv .mv 9 ?_
  refine zv .cb 1 ?_
  refine zs (hH.q 1 rfl) (.ld (cArr 32) t (fun _ hS => (holds_blk0 hS))) 2 ?_
  refine zv (v := (cHd.val ((UInt8.ofNat c), t))) (fun _ _ hF => opBuildP (cells := cHd.enc ((UInt8.ofNat c), t)) rfl (EvP.cons (v := (.int .u8 ((((UInt8.ofNat c).toNat) : Nat) : Int))) (hF.ev 1 rfl) (EvP.cons (v := ((cArr 32).val t)) (hF.ev 0 rfl) EvP.nil)) (built_pair (x := ((UInt8.ofNat c), t)) (by kernel_rfl) rfl rfl) _) 3 ?_
  refine zm hH (.al cHd (0, fun _ => 0)) trivial 0 ?_
  clear hH
  rintro _ _ w ⟨g3, rfl, rfl⟩ hH
  refine ze0 2 hH rfl (.sw cHd (0, fun _ => 0) ((UInt8.ofNat c), t)) trivial ?_
  clear hH
  rintro _ _ w rfl hH
  refine zn ?_
  obtain ⟨x0, hx0⟩ : ∃ q, q = UInt8.ofNat c := ⟨_, rfl⟩
  rw [← hx0] at hH
  have hxc : x0.toNat = c := by rw [hx0, UInt8.toNat_ofNat', Nat.mod_eq_of_lt (by omega)]
  have hzv : Value.int .i64 ((64 * 2 ^ x0.toNat : Nat) : Int) = .int .i64 ((z : Nat) : Int) := by rw [hxc, ← hz]
  refine zr ?_
  refine zs (hH.q 0 rfl) (.ld (cArr 32) s (fun _ hS => (holds_blk0 hS))) 6 ?_
  refine zs (hH.q 2 rfl) (.ld cHd (x0, t) (fun _ hS => (holds_blk0 hS))) 0 ?_
  refine zm hH (.call Tryz.func11 ((begin_s s x0 t))) (⟨(hH.oldBlk hR.1 (by simp)), (hH.oldBlk hR.2.1 (by simp))⟩) 3 ?_
  clear hH
  rintro _ _ w ⟨gr, Bk, dk, Ai, yi, Ei, Ek, rfl, rfl, hK, hI⟩ hH
  rw [hxc] at hK hI
  replace hH : HH w0 [] [[bl g1 22 ((cArr 32).enc s)], [bl g2 22 ((cArr 32).enc t)], [bl g3 34 (cHd.enc (x0, t))], Ei, Ek, [bl gr 55 (cRn.enc ((Bk, 32, dk), (cutA Bk dk 32 1, 7, dk - 32), (Ai, 5, yi), 0, 0))]] w := hH.cast (by simp)
  obtain ⟨Kb, hKb⟩ : ∃ q, q = spD (lst 32 s) (lst 32 t) c := ⟨_, rfl⟩
  obtain ⟨I, hIn⟩ : ∃ q, q = spI c := ⟨_, rfl⟩
  rw [← hKb] at hK
  rw [← hIn] at hI
  have hKl : Kb.length = 39 := by rw [hKb]; exact spD_len _ _ _
  have hIl : I.length = 5 := by rw [hIn]; rfl
  have hdk := hK.capLe
  refine zm hH (fun _ hF => smAlloc (z := (.pointer none)) rfl (by kernel_rfl) rfl) trivial 0 ?_
  clear hH
  rintro _ _ w ⟨g4, rfl, rfl⟩ hH
  refine ze0 6 hH rfl .sc trivial ?_
  clear hH
  rintro _ _ w rfl hH
  refine zn ?_
  refine zr ?_
  refine zs (hH.q 2 rfl) (.ld cHd (x0, t) (fun _ hS => (holds_blk0 hS))) 2 ?_
  refine zm hH (.call Tryz.func12 ((hbytes_c x0 t))) trivial 1 ?_
  clear hH
  rintro v9 E5 w hO6 hH
  obtain ⟨A7, c8, rfl⟩ := hO6.slice
  refine zm hH (fun _ hF => smAlloc (z := (.slice none 0 0)) rfl (by kernel_rfl) rfl) trivial 0 ?_
  clear hH
  rintro _ _ w ⟨g11, rfl, rfl⟩ hH
  refine ze0 8 hH rfl .sc trivial ?_
  clear hH
  rintro _ _ w rfl hH
  refine zn ?_
  refine cxSeq ?_
  refine zr ?_
  refine zv .mv 18 ?_
  refine zs (hH.q 2 rfl) (.ld cHd (x0, t) (fun _ hS => (holds_blk0 hS))) 8 ?_
  refine zc Tryz.func14 ((chunk_c x0 t (by omega)).as hzv) trivial hH 1 ?_
  clear hH
  intro w hH
  refine zm hH (.call Tryz.func13 (chkz_d z (by omega) A p.length y)) trivial 3 ?_
  clear hH
  rintro _ _ w ⟨B_, rfl, rfl⟩ hH
  refine zn ?_
  refine cxBlock ?_
  obtain ⟨b0, off, hA⟩ : ∃ b off, 0 < p.length → A = some ⟨b, off, none⟩ := by
    by_cases h : 0 < p.length
    · obtain ⟨b, off, h1, _⟩ := hR.2.2.2.2.open h; exact ⟨b, off, fun _ => h1⟩
    · exact ⟨0, 0, fun h' => absurd h' h⟩
  have hH1 : HH w0 [] [[bl B_ 23 #[.slice A p.length y], bl (B_ + 1) 3 #[.int .i64 ((z : Nat) : Int)]], [bl g11 23 #[(.slice A7 (([2, 9, 2, x0] ++ lst 32 t).length) c8)]], [bl g4 35 #[(.pointer (some ⟨gr, 0, none⟩))]], Ei, Ek, [bl gr 55 (cRn.enc ((Bk, 32, dk), (cutA Bk dk 32 1, 7, dk - 32), (Ai, 5, yi), 0, 0))], E5] w := HH.sel hH [9, 8, 6, 3, 4, 5, 7] rfl (by decide)
  have hH2 : HH w0 [] ([[bl B_ 23 #[.slice A p.length y], bl (B_ + 1) 3 #[.int .i64 ((z : Nat) : Int)]]] ++ [([bl g11 23 #[(.slice A7 (([2, 9, 2, x0] ++ lst 32 t).length) c8)]]) ++ (([bl g4 35 #[(.pointer (some ⟨gr, 0, none⟩))]]) ++ (Ei ++ (Ek ++ (([bl gr 55 (cRn.enc ((Bk, 32, dk), (cutA Bk dk 32 1, 7, dk - 32), (Ai, 5, yi), 0, 0))]) ++ (E5)))))]) w := hH1.cast (by simp)
  clear hH1
  have hcB1 : Blk w B_ 23 #[.slice A p.length y] := (hH2.has 0 rfl).blk (bl B_ 23 #[.slice A p.length y]) (by simp)
  have hcB2 : Blk w (B_ + 1) 3 #[.int .i64 ((z : Nat) : Int)] := (hH2.has 0 rfl).blk (bl (B_ + 1) 3 #[.int .i64 ((z : Nat) : Int)]) (by simp)
  have hB1 := hcB2.lt
  clear hH
  refine cxRangeR (α := Ptz z p.length) (S := fun ys => ys.map (·.1) = List.range ((p.length + (z - 1)) / z)) (Sp := fun ys => ys.map (·.1) = List.range ys.length) (N := ((p.length + (z - 1)) / z)) (Kp := Kpz B_) (encs := fun x => pvz z b0 off p.length x.1) (fun (pre : List (Ptz z p.length)) E => ∃ (A1 : Option Addr) (c1 : Nat) (L : List UInt8) (E1 : Hl) (k m : Nat), E = ([bl g11 23 #[(.slice A1 L.length c1)]]) ++ (([bl g4 35 #[(.pointer (some ⟨gr, 0, none⟩))]]) ++ (Ei ++ (Ek ++ (([bl gr 55 (cRn.enc ((Bk, 32, dk), (cutA Bk dk 32 1, 7, dk - 32), (Ai, 5, yi), k, m))]) ++ (E1))))) ∧ OwnT cByte 5 (.slice A1 L.length c1) L E1 ∧ k = pre.length ∧ L.length ≤ 36 + 65552 * k ∧ m ≤ 65536 * k ∧ (pre.map (·.1) = List.range k → L = ([2, 9, 2, x0] ++ lst 32 t) ++ spW (Kb.take 32) (Kb.drop 32) I z p k ∧ m = min (z * k) p.length))
    (fun _ _ => False) 0 hH2 rfl (enters_of Tryz.func28 (by kernel_rfl) rfl) (chkz_stops 2 B_ b0 off p.length y z A w (by omega) (by omega) (by omega) hA hcp (by omega) hcB1 hcB2) (fun h k => h.trans k)
    (fun W l' o o' hl _ _ _ => ⟨World.putObj_heap_other (by omega), World.putObj_heap_other (by omega)⟩)
    (fun W W' h h' => ⟨(h'.blk (bl B_ 23 #[.slice A p.length y]) (by simp)).trans (h.blk (bl B_ 23 #[.slice A p.length y]) (by simp)).symm, (h'.blk (bl (B_ + 1) 3 #[.int .i64 ((z : Nat) : Int)]) (by simp)).trans (h.blk (bl (B_ + 1) 3 #[.int .i64 ((z : Nat) : Int)]) (by simp)).symm⟩)
    (fun x hx => by simp only [List.flatten_cons, List.flatten_nil, List.append_nil, List.mem_cons, List.not_mem_nil, or_false] at hx; rcases hx with rfl | rfl <;> rfl)
    (fun pre E ⟨A1, c1, L, E1, k, m, h, hO, _⟩ => by subst h; exact .app .bl (.app .bl (.app hI.allCells (.app hK.allCells (.app .bl hO.allCells))))) (fun _ _ h => h.elim)
    ⟨A7, c8, ([2, 9, 2, x0] ++ lst 32 t), E5, 0, 0, rfl, hO6, rfl, by simp only [List.length_append, List.length_cons, List.length_nil, lst_len]; omega, Nat.le_refl _, fun _ => ⟨by rw [spW, List.append_nil], by rw [Nat.mul_zero, Nat.zero_min]⟩⟩ rfl (by decide) (fun a W v h => opAssign rfl h) rfl (fun _ => rfl) rfl rfl (by decide) ?_ ?_ ?_
  rintro pre x E W lp ⟨A1, c1, L, E1, k, m, rfl, hO, hk, hLl, hm, hT⟩ hlen hH
  have hV := partz_vu (hH.vu hR.2.2.2.2 (by decide) (Off.nil _ _)) hA x.2
  have hoff : b0 ∉ bks (([bl g11 23 #[(.slice A1 L.length c1)]]) ++ (([bl g4 35 #[(.pointer (some ⟨gr, 0, none⟩))]]) ++ (Ei ++ (Ek ++ (([bl gr 55 (cRn.enc ((Bk, 32, dk), (cutA Bk dk 32 1, 7, dk - 32), (Ai, 5, yi), k, m))]) ++ (E1)))))) := hH.fresh 1 rfl (vu16_lt hR.2.2.2.2 hA (by have := x.2; omega))
  have hpl := plz_le (z := z) (n := p.length) (i := x.1)
  have hbx := hH.oldBlk hR.2.2.1 (by simp)
  have hbn := hH.freshR 1 rfl (blk_lt hR.2.2.1) (by simp)
  have hdb := hH.oldBlk hR.2.2.2.1 (by simp)
  have hdn := hH.freshR 1 rfl (blk_lt hR.2.2.2.1) (by simp)
  have hkN : k < 10000 := by rw [hk]; exact Nat.lt_of_lt_of_le hlen (Nat.le_trans hcn hp)
  have hple := hV.len
  replace hH : HH W (bks (([bl g11 23 #[(.slice A1 L.length c1)]]) ++ (([bl g4 35 #[(.pointer (some ⟨gr, 0, none⟩))]]) ++ (Ei ++ (Ek ++ (([bl gr 55 (cRn.enc ((Bk, 32, dk), (cutA Bk dk 32 1, 7, dk - 32), (Ai, 5, yi), k, m))]) ++ (E1))))))) [[bl g11 23 #[(.slice A1 L.length c1)]], [bl g4 35 #[(.pointer (some ⟨gr, 0, none⟩))]], Ei, Ek, [bl gr 55 (cRn.enc ((Bk, 32, dk), (cutA Bk dk 32 1, 7, dk - 32), (Ai, 5, yi), k, m))], E1] W := ((hH.has 1 rfl).start).cast (by simp)
  clear hH2 hcB1 hcB2 hB1
  obtain ⟨w0, rfl⟩ : ∃ u, u = W := ⟨_, rfl⟩
  show CXi lp _ _ _ ⟨46, []⟩ [(13, (.slice (some ⟨b0, off + z * x.1, none⟩) (plz z p.length x.1) (plz z p.length x.1))), (35, (.func (.func 28) #[] #[(.pointer (some ⟨B_, 0, none⟩)), (.pointer (some ⟨(B_ + 1), 0, none⟩))])), (12, (.pointer (some ⟨g11, 0, none⟩))), (11, (.pointer (some ⟨g4, 0, none⟩)))] _
  refine cxBlockI ?_
  refine cxRegXI ?_
  replace hH := hH.drew
  refine rld 0 (hH.q 0 rfl) .lc 2 ?_
  refine rld 1 (hH.q 1 rfl) .lc 8 ?_
  refine rv 2 .mv 4 ?_
  refine rx1k 3 ?_
  refine re 3 4 hH rfl (.call Tryz.func15 ((seal_s gr Bk dk (Kb.take 32) (cutA Bk dk 32 1) (dk - 32) (Kb.drop 32) Ai yi I k m (some ⟨b0, off + z * x.1, none⟩) (plz z p.length x.1) (plz z p.length x.1) ((p.drop (z * x.1)).take z) (by omega) (by omega) (by omega)))) (⟨(hH.oldBlk hbx hbn), (hH.oldBlk hdb hdn), ⟨((hK.vuAt (hH.has 3 rfl)).head (m := 32) (by omega)), (hH.off3 4 3 rfl rfl rfl hK).part (by decide)⟩, ⟨((hK.vuAt (hH.has 3 rfl)).from (k := 32) (by omega)), hK.cutOff (hH.off3 4 3 rfl rfl rfl hK) (by decide)⟩, ⟨(hI.vuAt (hH.has 2 rfl)), (hH.off3 4 2 rfl rfl rfl hI).part (by omega)⟩, (hH.vu hV (by decide) (fun _ _ e _ => by cases e; exact hoff)), (hH.off 4 rfl hV (by decide) (fun _ _ e _ => by cases e; exact hoff))⟩) 3 (pgo [] (.keep (.nil _ []))) ?_
  clear hH
  rintro _ _ w ⟨s_, Es, rfl, rfl, hS_⟩ hH
  replace hH : HH w0 (bks (([bl g11 23 #[(.slice A1 L.length c1)]]) ++ (([bl g4 35 #[(.pointer (some ⟨gr, 0, none⟩))]]) ++ (Ei ++ (Ek ++ (([bl gr 55 (cRn.enc ((Bk, 32, dk), (cutA Bk dk 32 1, 7, dk - 32), (Ai, 5, yi), k, m))]) ++ (E1))))))) [[bl g11 23 #[(.slice A1 L.length c1)]], [bl g4 35 #[(.pointer (some ⟨gr, 0, none⟩))]], Ei, Ek, [bl gr 55 (cRn.enc ((Bk, 32, dk), (cutA Bk dk 32 1, 7, dk - 32), (Ai, 5, yi), (k + 1), (m + (plz z p.length x.1))))], Es, E1] w := hH.cast (by simp)
  obtain ⟨As, cs, rfl⟩ := hS_.slice
  refine ⟨pcons (hH.blk 0 rfl) pnil, ?_⟩
  refine rx1k 4 ?_
  refine re 4 6 hH rfl (fun _ hF => smAppT (C := cByte) (l := L) (m := (ocS (Kb.take 32) (spN (Kb.drop 32) k) I ((p.drop (z * x.1)).take z))) (e := 5) (z := (.int .u8 0)) (by_ := 1) rfl (by kernel_rfl) (by kernel_rfl) rfl (ltb rfl) (hF.ev 1 rfl) hO (hF.ev 0 rfl) rfl hS_.nilA (by rw [ocS_len, hple]; unfold maxLen; omega) (by rw [ocS_len, hple]; omega)) (hS_.vuAt (hH.has 5 rfl)) 3 (pgo [] (.nil _ [])) ?_
  clear hH
  rintro v14 E15 w ⟨hO16, _⟩ hH
  replace hO16 : OwnT cByte 5 v14 (L ++ (ocS (Kb.take 32) (spN (Kb.drop 32) k) I ((p.drop (z * x.1)).take z))) E15 := hO16
  obtain ⟨A12, c13, rfl⟩ := hO16.slice
  refine ⟨pnil, ?_⟩
  refine rx1k 5 ?_
  refine re0 5 0 hH rfl .sc trivial (.nil _ []) ?_
  clear hH
  rintro _ _ w rfl hH
  refine ⟨pnil, ?_⟩
  refine rxEndI (by kernel_rfl) ?_
  refine qxInN ?_
  replace hH : HH w0 (bks (([bl g11 23 #[(.slice A1 L.length c1)]]) ++ (([bl g4 35 #[(.pointer (some ⟨gr, 0, none⟩))]]) ++ (Ei ++ (Ek ++ (([bl gr 55 (cRn.enc ((Bk, 32, dk), (cutA Bk dk 32 1, 7, dk - 32), (Ai, 5, yi), k, m))]) ++ (E1))))))) [[bl g11 23 #[(.slice A12 ((L ++ (ocS (Kb.take 32) (spN (Kb.drop 32) k) I ((p.drop (z * x.1)).take z))).length) c13)]], [bl g4 35 #[(.pointer (some ⟨gr, 0, none⟩))]], Ei, Ek, [bl gr 55 (cRn.enc ((Bk, 32, dk), (cutA Bk dk 32 1, 7, dk - 32), (Ai, 5, yi), (k + 1), (m + (plz z p.length x.1))))], E15] w := hH.only [true, true, true, true, true, false, true]
  exact fun _ _ => ⟨_, ⟨A12, c13, (L ++ (ocS (Kb.take 32) (spN (Kb.drop 32) k) I ((p.drop (z * x.1)).take z))), E15, (k + 1), (m + (plz z p.length x.1)), rfl, hO16, by rw [List.length_append, List.length_singleton, hk], by rw [List.length_append, ocS_len, hple]; omega, by omega, fun h => seal_next hk hT x.2 (by rw [List.length_append, List.length_singleton, ← hk]; exact h)⟩, by simpa [HH] using hH⟩
  rintro xs E D w hxs ⟨A1, c1, L, E1, k, m, rfl, hO, hk, hLl, hm, hT⟩ hH
  replace hH : HH w0 [] [[bl B_ 23 #[.slice A p.length y], bl (B_ + 1) 3 #[.int .i64 ((z : Nat) : Int)]], [bl g11 23 #[(.slice A1 L.length c1)]], [bl g4 35 #[(.pointer (some ⟨gr, 0, none⟩))]], Ei, Ek, [bl gr 55 (cRn.enc ((Bk, 32, dk), (cutA Bk dk 32 1, 7, dk - 32), (Ai, 5, yi), k, m))], E1, [(D, .deferred (some []))]] w := hH.cast (by simp)
  clear hH2 hcB1 hcB2 hB1
  have hkN : k = spC z p.length := by have h := congrArg List.length hxs; rw [List.length_map, List.length_range, ← hk] at h; exact h
  obtain ⟨hL, hm2⟩ := hT (by rw [hkN]; exact hxs)
  replace hm2 : m = p.length := by rw [hm2]; exact Nat.min_eq_right (Nat.le_of_not_lt fun h => by have := (spC_lt (i := k) (by omega)).2 h; omega)
  have hk2 : k ≤ 10000 := by rw [hkN]; exact Nat.le_trans hcn hp
  refine qxInN ?_
  refine qxThen ?_
  have hel := spE_len (Kb.take 32) (Kb.drop 32) I k m
  refine zx ?_
  replace hH := hH.drew
  refine rld 0 (hH.q 1 rfl) .lc 3 ?_
  refine rld 1 (hH.q 2 rfl) .lc 2 ?_
  refine rx1k 2 ?_
  refine rm 2 hH (.call Tryz.func16 ((end_s gr Bk dk (Kb.take 32) (cutA Bk dk 32 1) (dk - 32) (Kb.drop 32) Ai yi I k m))) (⟨(hH.blk 5 rfl), (hH.oldBlk hR.2.2.1 (by simp)), (hH.oldBlk hR.2.2.2.1 (by simp)), ((hK.vuAt (hH.has 4 rfl)).head (m := 32) (by omega)), ((hK.vuAt (hH.has 4 rfl)).from (k := 32) (by omega)), (hI.vuAt (hH.has 3 rfl))⟩) 1 (pgo [] (.keep (.nil _ []))) ?_
  clear hH
  rintro v21 E17 w hO18 hH
  obtain ⟨A19, c20, rfl⟩ := hO18.slice
  refine ⟨pcons (hH.blk 1 rfl) pnil, ?_⟩
  refine rx1k 3 ?_
  refine re 3 6 hH rfl (fun _ hF => smAppT (C := cByte) (l := L) (m := (spE (Kb.take 32) (Kb.drop 32) I k m)) (e := 5) (z := (.int .u8 0)) (by_ := 1) rfl (by kernel_rfl) (by kernel_rfl) rfl (ltb rfl) (hF.ev 1 rfl) hO (hF.ev 0 rfl) rfl hO18.nilA (by rw [hel]; unfold maxLen; omega) (by rw [hel]; omega)) (hO18.vuAt (hH.has 8 rfl)) 3 (pgo [] (.nil _ [])) ?_
  clear hH
  rintro v25 E26 w ⟨hO27, _⟩ hH
  replace hO27 : OwnT cByte 5 v25 (L ++ (spE (Kb.take 32) (Kb.drop 32) I k m)) E26 := hO27
  obtain ⟨A23, c24, rfl⟩ := hO27.slice
  refine ⟨pnil, ?_⟩
  refine rv 4 .mv 1 ?_
  refine rv 5 .mv 0 ?_
  refine rn ?_
  refine cxRet ?_
  refine qxDRet2 1 0 7 hH rfl rfl rfl rfl (fun w hH => ?_)
  have e : (L ++ (spE (Kb.take 32) (Kb.drop 32) I k m)) = spBody (lst 32 s) (lst 32 t) c p := by
    unfold spBody spS spKey spBeg
    rw [show 2 ^ (6 + c) = z from by rw [hz, Nat.pow_add], ← hKb, ← hIn, hL, ← hkN, hm2, hx0]
    simp only [List.append_assoc]
  rw [e] at hO27 ⊢
  exact ⟨_, _, rfl, ⟨_, rfl, hO27⟩, hH.out1 [false, false, false, false, false, false, true, false, false] rfl⟩
  exact fun _ _ _ _ _ h => h.elim
end Go.Proofs.YtfloiekaiiapnaaGreatDoor

namespace Go.Proofs.YtfloiekaiiapnaaGreatDoor
open Go Go.RowKit
set_option maxRecDepth 100000

/-- What is wrong with a body's head; the head. -/
def hdE (B : List UInt8) : Nat := if B.length < 36 ∨ (B.getD 0 0).toNat ≠ 2 then 2 else if (B.getD 1 0).toNat ≠ 9 ∨ (B.getD 2 0).toNat ≠ 2 ∨ 10 < (B.getD 3 0).toNat then 10 else 0
def hdV (B : List UInt8) : UInt8 × (Nat → UInt8) := if hdE B = 0 then (B.getD 3 0, cutF B 4) else (0, fun _ => 0)
theorem lst_cutk {l : List UInt8} {n k : Nat} (h : k + n ≤ l.length) : lst n (cutF l k) = (l.drop k).take n :=
  (lst_of_known (fun j hj => by rw [List.getElem?_take, if_pos hj, List.getElem?_drop]; exact cut_get (by omega)) (by rw [List.length_take, List.length_drop]; omega)).symm
theorem hdE_2 {B : List UInt8} (h : B.length < 36 ∨ (B.getD 0 0).toNat ≠ 2) : hdE B = 2 ∧ hdV B = (0, fun _ => 0) := by
  have e : hdE B = 2 := if_pos h
  exact ⟨e, if_neg (by rw [e]; decide)⟩
theorem hdE_10 {B : List UInt8} (h : ¬ (B.length < 36 ∨ (B.getD 0 0).toNat ≠ 2)) (h2 : (B.getD 1 0).toNat ≠ 9 ∨ (B.getD 2 0).toNat ≠ 2 ∨ 10 < (B.getD 3 0).toNat) : hdE B = 10 ∧ hdV B = (0, fun _ => 0) := by
  have e : hdE B = 10 := by unfold hdE; rw [if_neg h, if_pos h2]
  exact ⟨e, if_neg (by rw [e]; decide)⟩
theorem hdE_0 {B : List UInt8} (h : ¬ (B.length < 36 ∨ (B.getD 0 0).toNat ≠ 2)) (h2 : ¬ ((B.getD 1 0).toNat ≠ 9 ∨ (B.getD 2 0).toNat ≠ 2 ∨ 10 < (B.getD 3 0).toNat)) : hdE B = 0 ∧ hdV B = (B.getD 3 0, cutF B 4) := by
  have e : hdE B = 0 := by unfold hdE; rw [if_neg h, if_neg h2]
  exact ⟨e, if_pos e⟩

set_option maxHeartbeats 8000000 in
theorem readHead_s (A : Option Addr) (n c : Nat) (b : List UInt8) : Pure Tryz.prog 22 #[(.slice A n c)] (fun w => Vu cByte w A n c b) (.tuple #[cHd.val (hdV b), .int .i64 ((hdE b : Nat) : Int)]) := by
  refine pure_of (fn := Tryz.f22) Tryz.func22 rfl Tryz.ntmps22 (Nat.le_of_ble_eq_true rfl) rfl ?_
  intro w0 hH hR
  have hll := hR.len; have hcp := hR.cap
  refine zr ?_
  refine zm hH (.al cHd (0, fun _ => 0)) trivial 0 ?_
  clear hH
  rintro _ _ w ⟨g1, rfl, rfl⟩ hH
  refine zv .mv 0 ?_
  refine zn ?_
  refine cxSeq ?_
  refine zr ?_
  refine zv .mv 1 ?_
  refine zv .len 1 ?_
  refine zv (.lt (n < 36)) 1 ?_
  refine zv .mv 1 ?_
  refine pxSplitP 0 rfl (l1 := [(7, (.bool true)), (2, (.pointer (some ⟨g1, 0, none⟩))), (0, (.slice A n c))]) (l2 := [(7, (.bool false)), (2, (.pointer (some ⟨g1, 0, none⟩))), (0, (.slice A n c))]) rfl rfl (fun hg2 => ?_) (fun hg2 => ?_)
  refine pxU rfl (gOff 0 rfl rfl rfl (by decide)) (kA rfl) (by decide) ?_
  refine pxU rfl (gOff 0 rfl rfl rfl (by decide)) (kA rfl) (by decide) ?_
  refine pxU rfl (gOff 0 rfl rfl rfl (by decide)) (kA rfl) (by decide) ?_
  refine pxU rfl (gOff 0 rfl rfl rfl (by decide)) (kA rfl) (by decide) ?_
  refine zv (v := (.bool true)) (fun _ _ hF => opPickT rfl (hF.ev 0 rfl) rfl) 1 ?_
  refine zn ?_
  refine zT ?_
  refine zr ?_
  refine zv (v := (cHd.val (0, fun _ => 0))) (fun _ _ hF => opBuildP (cells := cHd.enc (0, fun _ => 0)) (vals := []) rfl EvP.nil (by kernel_rfl) _) 5 ?_
  refine ze0 0 hH rfl (.sw cHd (0, fun _ => 0) (0, fun _ => 0)) trivial ?_
  clear hH
  rintro _ _ w rfl hH
  refine zv .mv 1 ?_
  refine zn ?_
  refine cxRet ?_
  refine qxThenR ?_
  refine qxRetCT 1 0 (hH.blk 0 rfl) rfl rfl rfl (by kernel_rfl) (Cod.size _ _) (by kernel_rfl) ?_
  obtain ⟨he, hv⟩ := hdE_2 (B := b) (.inl (by omega))
  exact ⟨by rw [he, hv]; rfl, HH.toBelow hH⟩
  refine pxV (v := (.slice A n c)) (fun _ _ hF => opMove rfl (hF.ev 2 rfl)) rfl (gOn 0 rfl rfl rfl (by decide)) (kA rfl) (by decide) ?_
  have hi3 : 0 < n := by omega
  obtain ⟨b4, off5, rfl, hL6, hb7, hR8⟩ := hR.blk (by decide) (Off.nil _ _) (by omega)
  have := hR.cap
  have hj11 : 0 < b.length := by first | exact hi3 | (simp only [List.length_drop]; omega) | (simp only [List.length_drop, List.length_take]; omega) | omega
  obtain ⟨x9, hx10⟩ := get_at b 0 hj11
  have hb12 := UInt8.toNat_lt x9
  refine pxV (v := (.pointer (some ⟨b4, off5 + 0 * 1, none⟩))) (fun _ _ hF => opIndex (i := 0) (e := 5) (sz := 1) rfl (by kernel_rfl) (by kernel_rfl) (hF.ev 0 rfl) rfl rfl hi3) rfl (gOn 1 rfl rfl rfl (by decide)) (kM [false, true, true, true] rfl rfl) (by decide) ?_
  refine pxS (v := (.int .u8 (((x9.toNat) : Nat) : Int))) (fun w => HoldsL cByte w b4 off5 b) (hH.holdsL hL6 hb7 hR8) (fun _ _ hF hS => opLoadT (C := cByte) (y := x9) rfl (hF.ev 0 rfl) (by kernel_rfl) (hS 0 _ hx10) rfl) rfl (gOn 1 rfl rfl rfl (by decide)) (kM [false, true, true, true] rfl rfl) (by decide) ?_
  refine pxV (v := (.bool (decide (x9.toNat ≠ 2)))) (fun _ _ hF => opNeI rfl (hF.ev 0 rfl) rfl (dc (by omega))) rfl (gOn 1 rfl rfl rfl (by decide)) (kM [false, true, true, true] rfl rfl) (by decide) ?_
  refine zv (v := (.bool (decide (x9.toNat ≠ 2)))) (fun _ _ hF => opPickF rfl (hF.ev 1 rfl) (hF.ev 0 rfl)) 3 ?_
  refine zn ?_
  refine zP (fun hc13 => ?_) (fun hc13 => ?_)
  refine zr ?_
  refine zv (v := (cHd.val (0, fun _ => 0))) (fun _ _ hF => opBuildP (cells := cHd.enc (0, fun _ => 0)) (vals := []) rfl EvP.nil (by kernel_rfl) _) 5 ?_
  refine ze0 0 hH rfl (.sw cHd (0, fun _ => 0) (0, fun _ => 0)) trivial ?_
  clear hH
  rintro _ _ w rfl hH
  refine zv .mv 1 ?_
  refine zn ?_
  refine cxRet ?_
  refine qxThenR ?_
  refine qxRetCT 1 0 (hH.blk 0 rfl) rfl rfl rfl (by kernel_rfl) (Cod.size _ _) (by kernel_rfl) ?_
  obtain ⟨he, hv⟩ := hdE_2 (B := b) (.inr (by rw [getD_of hx10]; omega))
  exact ⟨by rw [he, hv]; rfl, HH.toBelow hH⟩
  refine cxSkip ?_
  refine qxThen ?_
  refine cxSeq ?_
  refine zr ?_
  refine zv .mv 1 ?_
  have hi14 : 1 < n := by omega
  have hj17 : 1 < b.length := by first | exact hi14 | (simp only [List.length_drop]; omega) | (simp only [List.length_drop, List.length_take]; omega) | omega
  obtain ⟨x15, hx16⟩ := get_at b 1 hj17
  have hb18 := UInt8.toNat_lt x15
  refine zv (.ix 1 1 (hi := hi14)) 1 ?_
  refine zs (S := fun w => HoldsL cByte w b4 off5 b) (hH.holdsL hL6 hb7 hR8) (.ld cByte x15 (fun _ hS => (hS 1 _ hx16))) 1 ?_
  refine zv (.ne (x15.toNat ≠ 9)) 1 ?_
  refine zv .mv 1 ?_
  refine pxSplitP 0 rfl (l1 := [(18, (.bool true)), (2, (.pointer (some ⟨g1, 0, none⟩))), (0, (.slice (some ⟨b4, off5, none⟩) n c))]) (l2 := [(18, (.bool false)), (2, (.pointer (some ⟨g1, 0, none⟩))), (0, (.slice (some ⟨b4, off5, none⟩) n c))]) rfl rfl (fun hg19 => ?_) (fun hg19 => ?_)
  refine pxU rfl (gOff 0 rfl rfl rfl (by decide)) (kA rfl) (by decide) ?_
  refine pxU rfl (gOff 0 rfl rfl rfl (by decide)) (kA rfl) (by decide) ?_
  refine pxU rfl (gOff 0 rfl rfl rfl (by decide)) (kA rfl) (by decide) ?_
  refine pxU rfl (gOff 0 rfl rfl rfl (by decide)) (kA rfl) (by decide) ?_
  refine zv (v := (.bool true)) (fun _ _ hF => opPickT rfl (hF.ev 0 rfl) rfl) 1 ?_
  refine zv .mv 1 ?_
  refine pxU rfl (gOff 0 rfl rfl rfl (by decide)) (kA rfl) (by decide) ?_
  refine pxU rfl (gOff 0 rfl rfl rfl (by decide)) (kA rfl) (by decide) ?_
  refine pxU rfl (gOff 0 rfl rfl rfl (by decide)) (kA rfl) (by decide) ?_
  refine pxU rfl (gOff 0 rfl rfl rfl (by decide)) (kA rfl) (by decide) ?_
  refine zv (v := (.bool true)) (fun _ _ hF => opPickT rfl (hF.ev 0 rfl) rfl) 1 ?_
  refine zn ?_
  refine zT ?_
  refine zr ?_
  refine zv (v := (cHd.val (0, fun _ => 0))) (fun _ _ hF => opBuildP (cells := cHd.enc (0, fun _ => 0)) (vals := []) rfl EvP.nil (by kernel_rfl) _) 5 ?_
  refine ze0 0 hH rfl (.sw cHd (0, fun _ => 0) (0, fun _ => 0)) trivial ?_
  clear hH
  rintro _ _ w rfl hH
  refine zv .mv 1 ?_
  refine zn ?_
  refine cxRet ?_
  refine qxThenR ?_
  refine qxRetCT 1 0 (hH.blk 0 rfl) rfl rfl rfl (by kernel_rfl) (Cod.size _ _) (by kernel_rfl) ?_
  have e0 : b.getD 0 0 = x9 := getD_of hx10
  have e1 : b.getD 1 0 = x15 := getD_of hx16
  have hok : ¬ (b.length < 36 ∨ (b.getD 0 0).toNat ≠ 2) := by rw [e0]; omega
  obtain ⟨he, hv⟩ := hdE_10 hok (.inl (by rw [e1]; omega))
  exact ⟨by rw [he, hv]; rfl, HH.toBelow hH⟩
  refine pxV (v := (.slice (some ⟨b4, off5, none⟩) n c)) (fun _ _ hF => opMove rfl (hF.ev 2 rfl)) rfl (gOn 0 rfl rfl rfl (by decide)) (kA rfl) (by decide) ?_
  have hi20 : 2 < n := by omega
  have hj23 : 2 < b.length := by first | exact hi20 | (simp only [List.length_drop]; omega) | (simp only [List.length_drop, List.length_take]; omega) | omega
  obtain ⟨x21, hx22⟩ := get_at b 2 hj23
  have hb24 := UInt8.toNat_lt x21
  refine pxV (v := (.pointer (some ⟨b4, off5 + 2 * 1, none⟩))) (fun _ _ hF => opIndex (i := 2) (e := 5) (sz := 1) rfl (by kernel_rfl) (by kernel_rfl) (hF.ev 0 rfl) rfl rfl hi20) rfl (gOn 1 rfl rfl rfl (by decide)) (kM [false, true, true, true] rfl rfl) (by decide) ?_
  refine pxS (v := (.int .u8 (((x21.toNat) : Nat) : Int))) (fun w => HoldsL cByte w b4 off5 b) (hH.holdsL hL6 hb7 hR8) (fun _ _ hF hS => opLoadT (C := cByte) (y := x21) rfl (hF.ev 0 rfl) (by kernel_rfl) (hS 2 _ hx22) rfl) rfl (gOn 1 rfl rfl rfl (by decide)) (kM [false, true, true, true] rfl rfl) (by decide) ?_
  refine pxV (v := (.bool (decide (x21.toNat ≠ 2)))) (fun _ _ hF => opNeI rfl (hF.ev 0 rfl) rfl (dc (by omega))) rfl (gOn 1 rfl rfl rfl (by decide)) (kM [false, true, true, true] rfl rfl) (by decide) ?_
  refine zv (v := (.bool (decide (x21.toNat ≠ 2)))) (fun _ _ hF => opPickF rfl (hF.ev 1 rfl) (hF.ev 0 rfl)) 3 ?_
  refine zv .mv 1 ?_
  refine pxSplitP 0 rfl (l1 := [(24, (.bool true)), (2, (.pointer (some ⟨g1, 0, none⟩))), (0, (.slice (some ⟨b4, off5, none⟩) n c))]) (l2 := [(24, (.bool false)), (2, (.pointer (some ⟨g1, 0, none⟩))), (0, (.slice (some ⟨b4, off5, none⟩) n c))]) rfl rfl (fun hg25 => ?_) (fun hg25 => ?_)
  refine pxU rfl (gOff 0 rfl rfl rfl (by decide)) (kA rfl) (by decide) ?_
  refine pxU rfl (gOff 0 rfl rfl rfl (by decide)) (kA rfl) (by decide) ?_
  refine pxU rfl (gOff 0 rfl rfl rfl (by decide)) (kA rfl) (by decide) ?_
  refine pxU rfl (gOff 0 rfl rfl rfl (by decide)) (kA rfl) (by decide) ?_
  refine zv (v := (.bool true)) (fun _ _ hF => opPickT rfl (hF.ev 0 rfl) rfl) 1 ?_
  refine zn ?_
  refine zT ?_
  refine zr ?_
  refine zv (v := (cHd.val (0, fun _ => 0))) (fun _ _ hF => opBuildP (cells := cHd.enc (0, fun _ => 0)) (vals := []) rfl EvP.nil (by kernel_rfl) _) 5 ?_
  refine ze0 0 hH rfl (.sw cHd (0, fun _ => 0) (0, fun _ => 0)) trivial ?_
  clear hH
  rintro _ _ w rfl hH
  refine zv .mv 1 ?_
  refine zn ?_
  refine cxRet ?_
  refine qxThenR ?_
  refine qxRetCT 1 0 (hH.blk 0 rfl) rfl rfl rfl (by kernel_rfl) (Cod.size _ _) (by kernel_rfl) ?_
  have e0 : b.getD 0 0 = x9 := getD_of hx10
  have e1 : b.getD 1 0 = x15 := getD_of hx16
  have e2 : b.getD 2 0 = x21 := getD_of hx22
  have hok : ¬ (b.length < 36 ∨ (b.getD 0 0).toNat ≠ 2) := by rw [e0]; omega
  obtain ⟨he, hv⟩ := hdE_10 hok (.inr (.inl (by rw [e2]; omega)))
  exact ⟨by rw [he, hv]; rfl, HH.toBelow hH⟩
  refine pxV (v := (.slice (some ⟨b4, off5, none⟩) n c)) (fun _ _ hF => opMove rfl (hF.ev 2 rfl)) rfl (gOn 0 rfl rfl rfl (by decide)) (kA rfl) (by decide) ?_
  have hi26 : 3 < n := by omega
  have hj29 : 3 < b.length := by first | exact hi26 | (simp only [List.length_drop]; omega) | (simp only [List.length_drop, List.length_take]; omega) | omega
  obtain ⟨x27, hx28⟩ := get_at b 3 hj29
  have hb30 := UInt8.toNat_lt x27
  refine pxV (v := (.pointer (some ⟨b4, off5 + 3 * 1, none⟩))) (fun _ _ hF => opIndex (i := 3) (e := 5) (sz := 1) rfl (by kernel_rfl) (by kernel_rfl) (hF.ev 0 rfl) rfl rfl hi26) rfl (gOn 1 rfl rfl rfl (by decide)) (kM [false, true, true, true] rfl rfl) (by decide) ?_
  refine pxS (v := (.int .u8 (((x27.toNat) : Nat) : Int))) (fun w => HoldsL cByte w b4 off5 b) (hH.holdsL hL6 hb7 hR8) (fun _ _ hF hS => opLoadT (C := cByte) (y := x27) rfl (hF.ev 0 rfl) (by kernel_rfl) (hS 3 _ hx28) rfl) rfl (gOn 1 rfl rfl rfl (by decide)) (kM [false, true, true, true] rfl rfl) (by decide) ?_
  refine pxV (v := (.bool (decide (x27.toNat > 10)))) (fun _ _ hF => opGtr rfl (hF.ev 0 rfl) rfl (dc (by omega))) rfl (gOn 1 rfl rfl rfl (by decide)) (kM [false, true, true, true] rfl rfl) (by decide) ?_
  refine zv (v := (.bool (decide (x27.toNat > 10)))) (fun _ _ hF => opPickF rfl (hF.ev 1 rfl) (hF.ev 0 rfl)) 3 ?_
  refine zn ?_
  refine zP (fun hc31 => ?_) (fun hc31 => ?_)
  refine zr ?_
  refine zv (v := (cHd.val (0, fun _ => 0))) (fun _ _ hF => opBuildP (cells := cHd.enc (0, fun _ => 0)) (vals := []) rfl EvP.nil (by kernel_rfl) _) 5 ?_
  refine ze0 0 hH rfl (.sw cHd (0, fun _ => 0) (0, fun _ => 0)) trivial ?_
  clear hH
  rintro _ _ w rfl hH
  refine zv .mv 1 ?_
  refine zn ?_
  refine cxRet ?_
  refine qxThenR ?_
  refine qxRetCT 1 0 (hH.blk 0 rfl) rfl rfl rfl (by kernel_rfl) (Cod.size _ _) (by kernel_rfl) ?_
  have e0 : b.getD 0 0 = x9 := getD_of hx10
  have e1 : b.getD 1 0 = x15 := getD_of hx16
  have e2 : b.getD 2 0 = x21 := getD_of hx22
  have e3 : b.getD 3 0 = x27 := getD_of hx28
  have hok : ¬ (b.length < 36 ∨ (b.getD 0 0).toNat ≠ 2) := by rw [e0]; omega
  obtain ⟨he, hv⟩ := hdE_10 hok (.inr (.inr (by rw [e3]; omega)))
  exact ⟨by rw [he, hv]; rfl, HH.toBelow hH⟩
  refine cxSkip ?_
  refine qxThen ?_
  refine zx ?_
  replace hH := hH.drew
  refine rv 0 .mv 1 ?_
  have hi32 : 3 < n := by omega
  have hj35 : 3 < b.length := by first | exact hi32 | (simp only [List.length_drop]; omega) | (simp only [List.length_drop, List.length_take]; omega) | omega
  refine rv 1 (.ix 1 3 (hi := hi32)) 1 ?_
  refine rld 2 (S := fun w => HoldsL cByte w b4 off5 b) (hH.holdsL hL6 hb7 hR8) (.ld cByte x27 (fun _ hS => (hS 3 _ hx28))) 1 ?_
  refine rv 3 .mv 4 ?_
  refine rv 4 (v := (.slice (some ⟨b4, off5 + 4 * 1, none⟩) (n - 4) (c - 4))) (fun _ _ hF => opSlcL (k := 4) (e := 5) (sz := 1) rfl (by kernel_rfl) (by kernel_rfl) (hF.ev 0 rfl) rfl rfl (by omega) (by omega)) 1 ?_
  refine rv 5 (v := (.pointer (some ⟨b4, off5 + 4 * 1, none⟩))) (fun _ _ hF => opToArray (m := 32) (e := 5) rfl (by kernel_rfl) (hF.ev 0 rfl) (by omega)) 1 ?_
  refine rld 6 (S := fun w => HoldsL cByte w b4 off5 b) (hH.holdsL hL6 hb7 hR8) (.ld (cArr 32) (cutF b 4) (fun _ hS => (hS.arr 4 32 (by first | omega | (rw [lst_len]; omega) | (simp only [List.length_drop, List.length_take]; omega) | (simp only [List.length_drop, List.length_take, lst_len]; omega))))) 1 ?_
  refine rv 7 (v := (cHd.val (x27, (cutF b 4)))) (fun _ _ hF => opBuildP (cells := cHd.enc (x27, (cutF b 4))) rfl (EvP.cons (v := (.int .u8 (((x27.toNat) : Nat) : Int))) (hF.ev 1 rfl) (EvP.cons (v := ((cArr 32).val (cutF b 4))) (hF.ev 0 rfl) EvP.nil)) (built_pair (x := (x27, (cutF b 4))) (by kernel_rfl) rfl rfl) _) 3 ?_
  refine rx1k 8 ?_
  refine re0 8 0 hH rfl (.sw cHd (0, fun _ => 0) (x27, (cutF b 4))) trivial (pgo [] (pgo [] (.nil _ []))) ?_
  clear hH
  rintro _ _ w rfl hH
  refine ⟨pnil, ?_⟩
  refine rv 9 .mv 1 ?_
  refine rn ?_
  refine cxRet ?_
  refine qxRetCT 1 0 (hH.blk 0 rfl) rfl rfl rfl (by kernel_rfl) (Cod.size _ _) (by kernel_rfl) ?_
  have e0 : b.getD 0 0 = x9 := getD_of hx10
  have e1 : b.getD 1 0 = x15 := getD_of hx16
  have e2 : b.getD 2 0 = x21 := getD_of hx22
  have e3 : b.getD 3 0 = x27 := getD_of hx28
  have hok : ¬ (b.length < 36 ∨ (b.getD 0 0).toNat ≠ 2) := by rw [e0]; omega
  obtain ⟨he, hv⟩ := hdE_0 hok (by rw [e1, e2, e3]; omega)
  rw [e3] at hv
  exact ⟨by rw [he, hv]; rfl, HH.toBelow hH⟩
end Go.Proofs.YtfloiekaiiapnaaGreatDoor
