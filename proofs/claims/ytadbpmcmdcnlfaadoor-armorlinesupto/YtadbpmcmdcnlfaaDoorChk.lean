/- slices.Chunk, of bytes, by 48: its parts, in order. -/
import Derived.Test.YtadbpmcmdcnlfaaDoorProg
import Derived.Test.YtadbpmcmdcnlfaaDoorRegIn
import Derived.Test.YtadbpmcmdcnlfaaDoorBlk
import Derived.WalkKit
import Derived.OwnWalkIn
import Derived.LoopNIn
import Derived.LoopIn
import Derived.Shelf.Abstract
import Derived.Shelf.RegionOpen
namespace Go.Proofs.YtadbpmcmdcnlfaaDoor
open Go Go.RowKit Go.Shelf
set_option maxRecDepth 100000

/-- How many bytes part i of n has. -/
def plen (n i : Nat) : Nat := min 48 (n - 48 * i)
/-- Part i of n bytes. -/
def partV (b off n i : Nat) : Value := .slice (some ⟨b, off + 48 * i, none⟩) (plen n i) (plen n i)
abbrev Parts (n : Nat) : Type := { i : Nat // 48 * i < n }
/-- Two blocks are as they were. -/
def KeptAt (B : Nat) (W W' : World) : Prop := W'.heap[B]? = W.heap[B]? ∧ W'.heap[B + 1]? = W.heap[B + 1]?
theorem KeptAt.trans {B : Nat} {W W' W'' : World} (h : KeptAt B W W') (k : KeptAt B W' W'') : KeptAt B W W'' := ⟨k.1.trans h.1, k.2.trans h.2⟩
theorem KeptAt.blk {B : Nat} {W W' : World} (h : KeptAt B W W') {t : TypeId} {cs : Array Value} (hb : Blk W B t cs) : Blk W' B t cs := h.1.trans hb
theorem KeptAt.blk1 {B : Nat} {W W' : World} (h : KeptAt B W W') {t : TypeId} {cs : Array Value} (hb : Blk W (B + 1) t cs) : Blk W' (B + 1) t cs := h.2.trans hb

set_option maxHeartbeats 2000000 in
theorem chunk_c (A : Option Addr) (n c : Nat) (w : World) : Calls Tryd.prog 21 #[.slice A n c, .int .i64 48] w fun e w' =>
    e = .returned (.func (.func 37) #[] #[.pointer (some ⟨w.heap.size, 0, none⟩), .pointer (some ⟨w.heap.size + 1, 0, none⟩)]) ∧ w' = (w.alloc (.cells #[.slice A n c] 22)).alloc (.cells #[.int .i64 48] 3) := by
  go_enter Tryd.func21, Tryd.ntmps21
  go_wp2
  go_ret
  exact ⟨rfl, rfl⟩

theorem drew_grown (w : World) : w.grownBy w.drew none := ⟨rfl, rfl, rfl, Nat.le_refl _, fun _ _ _ => rfl⟩

set_option maxHeartbeats 2000000 in
theorem chunk1_in (m l Bs b off n c : Nat) (A : Option Addr) (hm : 1 ≤ m) (hA : 0 < n → A = some ⟨b, off, none⟩) (hnc : n ≤ c) (hc : n ≤ 140737488355328) (J Jx : List (Parts n) → World → Prop)
    (hJd : ∀ s w, J s w → J s w.drew)
    (hY : ∀ pre x W, J pre W → pre.length < (n + 47) / 48 → YieldAt Fence.wide (m - 1) Tryd.prog l #[partV b off n x.1] W fun e W' =>
      (e = .returned (.bool true) ∧ J (pre ++ [x]) W' ∧ KeptAt Bs W W') ∨ (e = .returned (.bool false) ∧ Jx (pre ++ [x]) W'))
    (W : World) (h1 : Blk W Bs 22 #[.slice A n c]) (h2 : Blk W (Bs + 1) 3 #[.int .i64 48]) (h0 : J [] W) :
    CallsIn Fence.wide m Tryd.prog 37 #[.func (.yield l) #[] #[], .pointer (some ⟨Bs, 0, none⟩), .pointer (some ⟨Bs + 1, 0, none⟩)] W fun e W' => (∃ v, e = .returned v) ∧
      ((∃ ys, ys.map (·.1) = List.range ((n + 47) / 48) ∧ J ys W') ∨ (∃ pre, True ∧ Jx pre W')) := by
  refine callsIn_of_wp Tryd.func37 rfl trivial ?_ rfl
  simp only [Tryd.ntmps37, List.size_toArray, List.length_cons, List.length_nil, Nat.reduceAdd, Nat.reduceSub, Array.replicate_succ, Array.replicate_zero, List.push_toArray, List.append_toArray, List.nil_append, List.cons_append]
  gi_wp2
  gi_loopw [4] (fun i wr => ∃ (k : Nat) (ys : List (Parts n)), 48 * k < n + 48 ∧ i = .int .i64 (48 * (k : Int)) ∧ ys.map (·.1) = List.range k ∧ J ys wr ∧ Blk wr Bs 22 #[.slice A n c] ∧ Blk wr (Bs + 1) 3 #[.int .i64 48])
    (fun i _ => n + 48 - (intOf i).toNat)
  case atStart => exact ⟨0, [], by omega, rfl, rfl, h0, h1, h2⟩
  case round =>
    obtain ⟨k, ys, hk, rfl, hys, hJ, hb1, hb2⟩ := hrel
    have e1 : wr.cell? ⟨Bs, 0, none⟩ = some (.slice A n c) := hb1.cell 0
    have e2 : wr.cell? ⟨Bs + 1, 0, none⟩ = some (.int .i64 48) := hb2.cell 0
    by_cases hlt : 48 * k < n
    · obtain rfl := hA (by omega)
      have i1 : ((48 * k : Nat) : Int) < (n : Int) := by omega
      have i2 : 0 ≤ 48 * (k : Int) := by omega
      have i3 : 48 * (k : Int) ≤ (n : Int) := by omega
      have i4 : (48 * (k : Int)).toNat = 48 * k := by omega
      have i5 : ¬ c = 48 * k := by omega
      gi_wp2
      refine wpIn_wide.2 ?_
      refine region_seq (fun w' => J ys w' ∧ Blk w' Bs 22 #[.slice (some ⟨b, off, none⟩) n c] ∧ Blk w' (Bs + 1) 3 #[.int .i64 48]) (by kernel_rfl) (by kernel_rfl) (by simp) ⟨hJd _ _ hJ, hb1.drew, hb2.drew⟩ ?_
      clear hJ hb1 hb2 e1 e2
      iterate 6
        refine Seq.next ?_ (Sure.val rfl (fun w' hS => ?_)) ?_
        rotate_left 1
        · have e1 : w'.cell? ⟨Bs, 0, none⟩ = some (.slice (some ⟨b, off, none⟩) n c) := hS.2.1.cell 0
          have e2 : w'.cell? ⟨Bs + 1, 0, none⟩ = some (.int .i64 48) := hS.2.2.cell 0
          clear hS
          go_simp
          rfl
        simp only [Act.put, List.setIfInBounds_toArray, List.set_cons_zero, List.set_cons_succ]
      have hmin : (if ((n - 48 * k : Nat) : Int) < 48 then ((n - 48 * k : Nat) : Int) else 48) = ((plen n k : Nat) : Int) := by unfold plen; split <;> omega
      rw [hmin]
      have hp1 : 0 < plen n k ∧ plen n k ≤ 48 ∧ 48 * k + plen n k ≤ n := by unfold plen; omega
      obtain ⟨e, he⟩ : ∃ e, e = plen n k := ⟨_, rfl⟩
      rw [← he] at hp1 ⊢
      have HE := Lib.hid he
      clear he hmin
      refine Seq.last rfl fun w' hS => ?_
      obtain ⟨hJ, hb1, hb2⟩ := hS
      have e1 : w'.cell? ⟨Bs, 0, none⟩ = some (.slice (some ⟨b, off, none⟩) n c) := hb1.cell 0
      have e2 : w'.cell? ⟨Bs + 1, 0, none⟩ = some (.int .i64 48) := hb2.cell 0
      obtain ⟨fn, tmps, assign, body, hy, hR⟩ := hY ys ⟨k, hlt⟩ w' hJ (by have h := congrArg List.length hys; simp at h; omega)
      simp only [partV, ← HE.out] at hy
      obtain ⟨hp1, hp2, hp3⟩ := hp1
      have j1 : 48 * (k : Int) + (e : Int) ≤ (c : Int) := by omega
      have j2 : 48 * (k : Int) ≤ 48 * (k : Int) + (e : Int) := by omega
      have j3 : (48 * (k : Int) + (e : Int)).toNat = 48 * k + e := by omega
      have j4 : 0 ≤ 48 * (k : Int) + (e : Int) := by omega
      go_simp
      gi_wp2
      refine hR.mono ?_
      rintro e' W3 (⟨rfl, hJ3, hk3⟩ | ⟨rfl, hJx3⟩)
      · have hb3 := hk3.blk hb1
        have hb4 := hk3.blk1 hb2
        have e4 : W3.cell? ⟨Bs + 1, 0, none⟩ = some (.int .i64 48) := hb4.cell 0
        clear e1 e2 hy hR hb1 hb2
        have hys' : (ys ++ [(⟨k, hlt⟩ : Parts n)]).map (·.1) = List.range (k + 1) := by rw [List.map_append, hys, List.range_succ]; rfl
        gi_wp2
        go_roundw
        case rel => exact ⟨k + 1, _, by omega, by congr 1, hys', hJ3, hb3, hb4⟩
        case measure => simp [intOf]; omega
      · gi_wp2
        refine bodyPost_ret (results_none rfl _ _ _) rfl ?_
        exact ⟨⟨_, rfl⟩, .inr ⟨_, trivial, hJx3⟩⟩
    · have i1 : ¬ (48 * (k : Int)) < (n : Int) := by omega
      have hkk : k = (n + 47) / 48 := by omega
      gi_wp2
      go_end0
      exact ⟨⟨_, rfl⟩, .inl ⟨_, by rw [← hkk]; exact hys, hJ⟩⟩

/-- What slices.Chunk answers has its contract: all parts, in order; a body that goes on keeps the two blocks. -/
theorem chunk_stops (m Bs b off n c : Nat) (A : Option Addr) (w : World) (hm : 1 ≤ m) (hA : 0 < n → A = some ⟨b, off, none⟩) (hnc : n ≤ c) (hc : n ≤ 140737488355328)
    (h1 : Blk w Bs 22 #[.slice A n c]) (h2 : Blk w (Bs + 1) 3 #[.int .i64 48]) :
    SeqStopsK Fence.wide m Tryd.prog 37 #[.pointer (some ⟨Bs, 0, none⟩), .pointer (some ⟨Bs + 1, 0, none⟩)] (fun x : Parts n => #[partV b off n x.1]) (KeptAt Bs)
      (fun ys => ys.map (·.1) = List.range ((n + 47) / 48)) (fun _ => True) ((n + 47) / 48) w := fun l J Jx W hW hJ _ hY h0 =>
  chunk1_in m l Bs b off n c A hm hA hnc hc J Jx (fun s w h => hJ s w _ none h (drew_grown w) (fun _ h => by cases h)) hY W (h1.below hW h1.lt) (h2.below hW h2.lt) h0
end Go.Proofs.YtadbpmcmdcnlfaaDoor
