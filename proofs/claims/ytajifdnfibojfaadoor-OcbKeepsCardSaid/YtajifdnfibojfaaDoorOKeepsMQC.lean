/- through: a text sealed or opened in its place. tag: the tag of associated bytes and of plain ones. Copies out of bytes that came in; make of bytes. Seal of package ocb. Open of package ocb. Seal and Open of a key or a nonce that is none; Open of too few bytes. -/
import Derived.Test.YtajifdnfibojfaaDoorOKeepsMQB
import Derived.Laws.IdiomCopy
namespace Go.Proofs.YtajifdnfibojfaaDoor
open Go Go.RowKit Go.Shelf
set_option maxRecDepth 100000
attribute [local go_sem] Oper.semAt_some

/-- What becomes of a part, the offset being o; C goes on whole blocks. -/
def thrB (C E : (Nat → UInt8) → Nat → UInt8) (n : Nat) (f : Nat → UInt8) (i : Nat) (o : Nat → UInt8) : Nat → UInt8 :=
  if plen n i < 16 then fun j => xr (f (16 * i + j)) (E o j) else added (C (added (fun j => f (16 * i + j)) o)) o
def thrStep (C E : (Nat → UInt8) → Nat → UInt8) (st dl : Nat → UInt8) (n : Nat) (s : ((Nat → UInt8) × Nat) × (Nat → UInt8)) (i : Nat) : ((Nat → UInt8) × Nat) × (Nat → UInt8) :=
  (wkStep st dl n i s.1, cpy (16 * i) (plen n i) s.2 (thrB C E n s.2 i (wkStep st dl n i s.1).1))
def thrTo (C E : (Nat → UInt8) → Nat → UInt8) (st dl : Nat → UInt8) (n : Nat) (of f : Nat → UInt8) (l : List Nat) : ((Nat → UInt8) × Nat) × (Nat → UInt8) := l.foldl (thrStep C E st dl n) ((of, 0), f)
theorem thrTo_snoc (C E : (Nat → UInt8) → Nat → UInt8) (st dl : Nat → UInt8) (n : Nat) (of f : Nat → UInt8) (l : List Nat) (i : Nat) : thrTo C E st dl n of f (l ++ [i]) = thrStep C E st dl n (thrTo C E st dl n of f l) i := by simp [thrTo]
theorem thr_le (C E : (Nat → UInt8) → Nat → UInt8) (st dl : Nat → UInt8) (n : Nat) : ∀ (l : List Nat) (s : ((Nat → UInt8) × Nat) × (Nat → UInt8)), (l.foldl (thrStep C E st dl n) s).1.2 ≤ s.1.2 + l.length
  | [], _ => Nat.le_refl _
  | i :: l, s => by
    have h := thr_le C E st dl n l (thrStep C E st dl n s i)
    have h2 : (thrStep C E st dl n s i).1.2 ≤ s.1.2 + 1 := wkStep_le _ _ _ _ _
    simp only [List.foldl_cons, List.length_cons]
    omega
theorem thrTo_le (C E : (Nat → UInt8) → Nat → UInt8) (st dl : Nat → UInt8) (n : Nat) (of f : Nat → UInt8) (l : List Nat) : (thrTo C E st dl n of f l).1.2 ≤ l.length := by
  have h := thr_le C E st dl n l ((of, 0), f)
  simpa [thrTo] using h

/-- The walk, the text, and two boxes. -/
def Thr (K : Value) (st dl : Nat → UInt8) (gw b N : Nat) (F : Value) (B1 : Nat) (s : (Nat → UInt8) × Nat) (f : Nat → UInt8) (W : World) : Prop :=
  Blk W gw 39 (wkRow K st dl s.1 s.2) ∧ Row W b 5 N f ∧ Blk W B1 55 #[.pointer (some ⟨gw, 0, none⟩)] ∧ Blk W (B1 + 1) 41 #[F]
section
variable {K : Value} {st dl : Nat → UInt8} {gw b N : Nat} {F : Value} {B1 : Nat} {s : (Nat → UInt8) × Nat} {f : Nat → UInt8} {W W' : World}
theorem Thr.below (h : Thr K st dl gw b N F B1 s f W) (hb : Below W.heap.size W W') : Thr K st dl gw b N F B1 s f W' :=
  ⟨h.1.below hb h.1.lt, h.2.1.below hb h.2.1.lt, h.2.2.1.below hb h.2.2.1.lt, h.2.2.2.below hb h.2.2.2.lt⟩
theorem Thr.kept {row' : Option Nat} (h : Thr K st dl gw b N F B1 s f W) (hg : W.grownBy W' row') (hr : ∀ r, row' = some r → ∃ o : Obj, W.heap[r]? = some o ∧ o.isCells = false) : Thr K st dl gw b N F B1 s f W' :=
  ⟨h.1.kept hg hr, h.2.1.kept hg hr, h.2.2.1.kept hg hr, h.2.2.2.kept hg hr⟩
theorem Thr.drew (h : Thr K st dl gw b N F B1 s f W) : Thr K st dl gw b N F B1 s f W.drew := h
theorem Thr.setRow_far (h : Thr K st dl gw b N F B1 s f W) {k : Nat} (h1 : k ≠ gw) (h2 : k ≠ b) (h3 : k ≠ B1) (h4 : k ≠ B1 + 1) (cs : Array Value) : Thr K st dl gw b N F B1 s f (W.setRow k cs) :=
  ⟨h.1.setRow_far h1 _, h.2.1.setRow_far h2 _, h.2.2.1.setRow_far h3 _, h.2.2.2.setRow_far h4 _⟩
theorem Thr.put (h : Thr K st dl gw b N F B1 s f W) (i : Nat) (x : UInt8) (h1 : gw ≠ b) (h2 : B1 ≠ b) (h3 : B1 + 1 ≠ b) : Thr K st dl gw b N F B1 s (fun j => if j = i then x else f j) (W.setCell ⟨b, i, none⟩ (.int .u8 (x.toNat : Int))) :=
  ⟨h.1.far (p := ⟨b, i, none⟩) h1 _, h.2.1.set_ i x, h.2.2.1.far (p := ⟨b, i, none⟩) h2 _, h.2.2.2.far (p := ⟨b, i, none⟩) h3 _⟩
theorem Thr.congr {f' : Nat → UInt8} (h : Thr K st dl gw b N F B1 s f W) (hf : ∀ j, f j = f' j) : Thr K st dl gw b N F B1 s f' W :=
  ⟨h.1, h.2.1.congr fun j _ => hf j, h.2.2⟩
theorem Thr.text (h : Thr K st dl gw b N F B1 s f W) (f' : Nat → UInt8) (h1 : b ≠ gw) (h2 : b ≠ B1) (h3 : b ≠ B1 + 1) : Thr K st dl gw b N F B1 s f' (W.setRow b (row N f')) :=
  ⟨h.1.setRow_far h1 _, h.2.1.setRow _, h.2.2.1.setRow_far h2 _, h.2.2.2.setRow_far h3 _⟩
theorem partV0 (b n i : Nat) : partV b 0 n i = .slice (some ⟨b, 16 * i, none⟩) (plen n i) (plen n i) := by simp [partV]
end

set_option maxHeartbeats 4000000 in
theorem through_c (A : Option Addr) (kn kc n c N gw b n0 : Nat) (E D C : (Nat → UInt8) → Nat → UInt8) (cf : Nat) (st dl of f : Nat → UInt8) (w : World)
    (hcap : ∀ W', Below n0 w W' → Cap A kn kc E D W')
    (hC : ∀ W', Below n0 w W' → ∀ x : Nat → UInt8, Calls Tryd.prog cf #[.agg (mkRow (.slice A kn kc) st dl), .agg (row 16 x)] W' fun e W'' => e = .returned (.agg (row 16 (C x))) ∧ Below W'.heap.size W' W'')
    (hcf : ∀ (args : Array Value) (w : World), (callFunc cf args).run Tryd.prog w = .ok (.enter cf args) w)
    (hT : DeB w) (hg : 2 < n0) (h1 : n0 ≤ gw) (h2 : n0 ≤ b) (hne : gw ≠ b) (hnN : n ≤ N) (hnc : n ≤ c) (hc : n ≤ 140737488355328)
    (hw : Blk w gw 39 (wkRow (.slice A kn kc) st dl of 0)) (hb : Row w b 5 N f) :
    Calls Tryd.prog 14 #[.pointer (some ⟨gw, 0, none⟩), .slice (some ⟨b, 0, none⟩) n c, .func (.func cf) #[.agg (mkRow (.slice A kn kc) st dl)] #[]] w fun e w' => e = .returned (.tuple #[]) ∧
      (∃ bl, Blk w' gw 39 (wkRow (.slice A kn kc) st dl (thrTo C E st dl n of f (List.range ((n + 15) / 16))).1.1 bl)) ∧ Row w' b 5 N (thrTo C E st dl n of f (List.range ((n + 15) / 16))).2 ∧ Below n0 w w' := by
  have HC := Lib.hid hcap
  have HF := Lib.hid hC
  have HG := Lib.hid hcf
  clear hcap hC hcf
  refine (callsIn_wide (n := 3)).1 ?_
  refine callsIn_of_wp_marks Tryd.func14 rfl trivial ?_ rfl
  simp only [Tryd.ntmps14, List.size_toArray, List.length_cons, List.length_nil, Nat.reduceAdd, Nat.reduceSub, Array.replicate_succ, Array.replicate_zero, List.push_toArray, List.append_toArray, List.nil_append, List.cons_append]
  refine wpIn_wide.2 ?_
  go_wp2_with (first | (go_at_call 25; refine (chunk_c _ _ _ _).mono ?_; rintro e w' ⟨rfl, hww⟩; have hww := hww.symm; subst hww))
  have hk := (((hw.alloc (.cells #[.pointer (some ⟨gw, 0, none⟩)] 55)).alloc (.cells #[.func (.func cf) #[.agg (mkRow (.slice A kn kc) st dl)] #[]] 41)).alloc (.cells #[.slice (some ⟨b, 0, none⟩) n c] 22)).alloc (.cells #[.int .i64 16] 3)
  have hx := (((hb.alloc (.cells #[.pointer (some ⟨gw, 0, none⟩)] 55)).alloc (.cells #[.func (.func cf) #[.agg (mkRow (.slice A kn kc) st dl)] #[]] 41)).alloc (.cells #[.slice (some ⟨b, 0, none⟩) n c] 22)).alloc (.cells #[.int .i64 16] 3)
  have hb1 := (((Blk.new w 55 #[.pointer (some ⟨gw, 0, none⟩)]).alloc (.cells #[.func (.func cf) #[.agg (mkRow (.slice A kn kc) st dl)] #[]] 41)).alloc (.cells #[.slice (some ⟨b, 0, none⟩) n c] 22)).alloc (.cells #[.int .i64 16] 3)
  have hb2 := ((Blk.new (w.alloc (.cells #[.pointer (some ⟨gw, 0, none⟩)] 55)) 41 #[.func (.func cf) #[.agg (mkRow (.slice A kn kc) st dl)] #[]]).alloc (.cells #[.slice (some ⟨b, 0, none⟩) n c] 22)).alloc (.cells #[.int .i64 16] 3)
  have hb3 := (Blk.new ((w.alloc (.cells #[.pointer (some ⟨gw, 0, none⟩)] 55)).alloc (.cells #[.func (.func cf) #[.agg (mkRow (.slice A kn kc) st dl)] #[]] 41)) 22 #[.slice (some ⟨b, 0, none⟩) n c]).alloc (.cells #[.int .i64 16] 3)
  have hb4 := Blk.new (((w.alloc (.cells #[.pointer (some ⟨gw, 0, none⟩)] 55)).alloc (.cells #[.func (.func cf) #[.agg (mkRow (.slice A kn kc) st dl)] #[]] 41)).alloc (.cells #[.slice (some ⟨b, 0, none⟩) n c] 22)) 3 #[.int .i64 16]
  have hlg := hw.lt
  have hlb := hb.lt
  have hbel : Below n0 w ((((w.alloc (.cells #[.pointer (some ⟨gw, 0, none⟩)] 55)).alloc (.cells #[.func (.func cf) #[.agg (mkRow (.slice A kn kc) st dl)] #[]] 41)).alloc (.cells #[.slice (some ⟨b, 0, none⟩) n c] 22)).alloc (.cells #[.int .i64 16] 3)) := ((((Below.refl _ _).alloc (by omega) _).alloc (by simp; omega) _).alloc (by simp; omega) _).alloc (by simp; omega) _
  simp only [World.size_alloc] at hb2 hb3 hb4
  revert hk hx hb1 hbel hb2 hb3 hb4
  clear hw hb
  generalize (((w.alloc (.cells #[.pointer (some ⟨gw, 0, none⟩)] 55)).alloc (.cells #[.func (.func cf) #[.agg (mkRow (.slice A kn kc) st dl)] #[]] 41)).alloc (.cells #[.slice (some ⟨b, 0, none⟩) n c] 22)).alloc (.cells #[.int .i64 16] 3) = w1
  intro hk hx hb1 hbel hb2 hb3 hb4
  have hw1 : w.heap.size + 1 + 1 + 1 < w1.heap.size := hb4.lt
  obtain ⟨F, hF⟩ : ∃ F, F = Value.func (.func cf) #[.agg (mkRow (.slice A kn kc) st dl)] #[] := ⟨_, rfl⟩
  rw [← hF] at hb2
  have hth : Thr (.slice A kn kc) st dl gw b N F w.heap.size (of, 0) f w1 := ⟨hk, hx, hb1, hb2⟩
  clear hk hx hb1 hb2
  refine (wpIn_wide (n := 3)).1 ?_
  refine wpIn_rangeFunc_ownG (α := Parts n) rfl (by omega) (gf := 39) (lb := #[.pointer (some ⟨w.heap.size + 1 + 1, 0, none⟩), .pointer (some ⟨w.heap.size + 1 + 1 + 1, 0, none⟩)]) rfl trivial (enters_of Tryd.func39 (by kernel_rfl) rfl)
    (chunk_stops 2 (w.heap.size + 1 + 1) b 0 n c (some ⟨b, 0, none⟩) w1 (by omega) (fun h => rfl) hnc hc hb3 hb4) (fun h k => h.trans k)
    (fun W l o o' hl _ _ _ => ⟨World.putObj_heap_other (by omega), World.putObj_heap_other (by omega)⟩) (Below.refl _ _) (fun _ => rfl)
    (fun pre W => (Thr (.slice A kn kc) st dl gw b N F w.heap.size (thrTo C E st dl n of f (pre.map (·.1))).1 (thrTo C E st dl n of f (pre.map (·.1))).2 W ∧ w1.heap.size ≤ W.heap.size) ∧ Below n0 w W)
    (fun _ _ _ => False)
    (OwnFrom.and (Own.from (fun s A B row hs hg hr => ⟨hs.1.kept hg hr, Nat.le_trans hs.2 hg.size⟩) _) (ownFrom_below (by omega) (by omega)))
    (fun _ _ _ _ _ hs _ _ => hs)
    ⟨⟨hth, Nat.le_refl _⟩, hbel⟩
    (fun x => { tmps := #[.pointer (some ⟨gw, 0, none⟩), .slice (some ⟨b, 0, none⟩) n c, .func (.func cf) #[.agg (mkRow (.slice A kn kc) st dl)] #[], .pointer (some ⟨w.heap.size, 0, none⟩), undef, .pointer (some ⟨w.heap.size + 1, 0, none⟩), .slice (some ⟨b, 16 * x.1, none⟩) (plen n x.1) (plen n x.1), undef, undef, undef, .slice (some ⟨b, 0, none⟩) n c, .func (.func 39) #[] #[.pointer (some ⟨w.heap.size + 1 + 1, 0, none⟩), .pointer (some ⟨w.heap.size + 1 + 1 + 1, 0, none⟩)], .slice (some ⟨b, 16 * x.1, none⟩) (plen n x.1) (plen n x.1), undef, undef, undef, undef, undef, undef, undef, undef, undef, undef, undef, undef, undef, undef, undef, undef, undef, undef, undef, undef, undef, undef, undef, undef, undef, undef, undef, undef, undef, undef, undef, undef, undef, undef, undef, undef, undef, undef, undef, undef, undef, undef, undef, undef, undef, undef, undef, undef], defers := [] }) ?assign ?body ?done ?stop
  case assign =>
    intro l x W K hK
    rw [partV0]
    gi_wp2
    exact hK
  case body =>
    rintro l pre x W ⟨⟨hth, hle⟩, hB⟩ hlen
    have hsd : Side w1.heap.size (w.heap.size + 1 + 1) W W := Side.refl (by omega)
    obtain ⟨s, hs⟩ : ∃ s, s = thrTo C E st dl n of f (pre.map (·.1)) := ⟨_, rfl⟩
    have hbl : s.1.2 < 9223372036854775808 := by
      have h := thrTo_le C E st dl n of f (pre.map (·.1))
      rw [List.length_map, ← hs] at h
      omega
    rw [← hs] at hth
    obtain ⟨s1, hs1⟩ : ∃ s1, s1 = wkStep st dl n x.1 s.1 := ⟨_, rfl⟩
    obtain ⟨f', hf'⟩ : ∃ f', f' = cpy (16 * x.1) (plen n x.1) s.2 (thrB C E n s.2 x.1 s1.1) := ⟨_, rfl⟩
    have hs2 : thrTo C E st dl n of f ((pre ++ [x]).map (·.1)) = (s1, f') := by rw [List.map_append, hf', hs1, hs]; exact thrTo_snoc _ _ _ _ _ _ _ _ _
    have HS2 := Lib.hid hs2
    have HS1 := Lib.hid hs1
    have HF2 := Lib.hid hf'
    clear hs1 hs2 hs hf'
    obtain ⟨hp1, hp2, hp3⟩ := part_len x.2
    obtain ⟨e, he⟩ : ∃ e, e = plen n x.1 := ⟨_, rfl⟩
    rw [← he] at hp1 hp2 hp3 ⊢
    have HE := Lib.hid he
    clear he
    obtain ⟨xi, hxi⟩ : ∃ xi, xi = x.1 := ⟨_, rfl⟩
    rw [← hxi] at hp3 ⊢
    have HXI := Lib.hid hxi
    clear hxi
    have e0 : W.cell? ⟨w.heap.size, 0, none⟩ = some (.pointer (some ⟨gw, 0, none⟩)) := hth.2.2.1.cell 0
    refine wpIn_block ?_
    refine wpIn_seq ?_
    refine region_in (by kernel_rfl) fun K hK => ?_
    go_wp2_with (first | (go_at_fn 26))
    have hgo := goTo_at (.slice A kn kc) st dl s.1 gw b 0 n xi W hth.1 hbl (hT.below hB hg) (by omega)
    rw [partV0, HXI.out, ← HE.out, ← HS1.out, ← HXI.out] at hgo
    refine hgo.mono ?_
    rintro e' W2 ⟨rfl, hk2, hbes⟩
    clear hgo e0
    have hth2 : Thr (.slice A kn kc) st dl gw b N F w.heap.size s1 s.2 W2 := ⟨hk2, (hbes.2 _ hth.2.1.lt (Ne.symm hne)).trans hth.2.1, (hbes.2 _ hth.2.2.1.lt (by omega)).trans hth.2.2.1, (hbes.2 _ hth.2.2.2.lt (by omega)).trans hth.2.2.2⟩
    have hB2 : Below n0 w W2 := hB.trans (hbes.1.mono (by omega))
    have hsd2 := hsd.other hth.1 (by omega) (by omega) hbes.1.size (fun k h1 h2 => hbes.2 k h1 h2)
    have hle2 : w1.heap.size ≤ W2.heap.size := Nat.le_trans hle hbes.1.size
    clear hth hk2 hB hsd hbes
    go_wp2
    refine hK _ _ ?_
    clear hK
    clear K
    refine wpIn_seq ?_
    by_cases hlt : e < 16
    · have hlt' : (e : Int) < 16 := by omega
      refine wpIn_seq ?_
      refine region_in (by kernel_rfl) fun K hK => ?_
      go_wp2
      refine hK _ _ ?_
      clear hK
      clear K
      refine wpIn_cond_true rfl ?_
      refine wpIn_seq ?_
      have hl1 := hth2.1.lt
      have hl2 := hth2.2.1.lt
      obtain ⟨Pd, hPd⟩ : ∃ Pd, Pd = E s1.1 := ⟨_, rfl⟩
      have HPD := Lib.hid hPd
      clear hPd
      refine region_made_in (SA (fun W' => Thr (.slice A kn kc) st dl gw b N F w.heap.size s1 s.2 W' ∧ Below n0 w W' ∧ Side w1.heap.size (w.heap.size + 1 + 1) W W' ∧ W2.heap.size ≤ W'.heap.size) fun g w' => Blk w' g 32 (row 16 fun _ => 0) ∧ W2.heap.size ≤ g) mixedOrders (by kernel_rfl) (by kernel_rfl) (by simp) ⟨⟨hth2.drew, hB2.drew, hsd2.drew, Nat.le_refl _⟩, fun _ h => by cases h⟩ ?_
      clear hth2 hB2 hsd2
      refine SeqG.next ?_ (fun g og => SureA.val rfl (fun w' hS => ?_)) ?_
      rotate_left 1
      · have e3 : w'.cell? ⟨w.heap.size, 0, none⟩ = some (.pointer (some ⟨gw, 0, none⟩)) := hS.1.2.2.1.cell 0
        clear hS
        go_simp
        rfl
      simp only [Act.put, List.setIfInBounds_toArray, List.set_cons_zero, List.set_cons_succ]
      refine SeqG.next ?_ (fun g og => SureA.val rfl (fun w' hS => ?_)) ?_
      rotate_left 1
      · have e3 : w'.cell? ⟨w.heap.size, 0, none⟩ = some (.pointer (some ⟨gw, 0, none⟩)) := hS.1.2.2.1.cell 0
        clear hS
        go_simp
        rfl
      simp only [Act.put, List.setIfInBounds_toArray, List.set_cons_zero, List.set_cons_succ]
      refine SeqG.next ?_ (fun g og => SureA.val rfl (fun w' hS => ?_)) ?_
      rotate_left 1
      · have e3 : w'.cell? ⟨w.heap.size, 0, none⟩ = some (.pointer (some ⟨gw, 0, none⟩)) := hS.1.2.2.1.cell 0
        clear hS
        go_simp
        rfl
      simp only [Act.put, List.setIfInBounds_toArray, List.set_cons_zero, List.set_cons_succ]
      refine SeqG.next (.agg (mkRow (.slice A kn kc) st dl)) (fun g og => Sure.load_Struct rfl 34 _ rfl gw 0 rfl (mkRow (.slice A kn kc) st dl) (fun w' hS => wkRow_mk hS.1.1.1) undMk (by rw [mk_size]; exact sizeMk)) ?_
      simp only [Act.put, List.setIfInBounds_toArray, List.set_cons_zero, List.set_cons_succ]
      refine SeqG.next ?_ (fun g og => SureA.val rfl (fun w' hS => ?_)) ?_
      rotate_left 1
      · have e3 : w'.cell? ⟨w.heap.size, 0, none⟩ = some (.pointer (some ⟨gw, 0, none⟩)) := hS.1.2.2.1.cell 0
        clear hS
        go_simp
        rfl
      simp only [Act.put, List.setIfInBounds_toArray, List.set_cons_zero, List.set_cons_succ]
      refine SeqG.next ?_ (fun g og => SureA.val rfl (fun w' hS => ?_)) ?_
      rotate_left 1
      · have e3 : w'.cell? ⟨w.heap.size, 0, none⟩ = some (.pointer (some ⟨gw, 0, none⟩)) := hS.1.2.2.1.cell 0
        clear hS
        go_simp
        rfl
      simp only [Act.put, List.setIfInBounds_toArray, List.set_cons_zero, List.set_cons_succ]
      refine SeqG.next ?_ (fun g og => SureA.val rfl (fun w' hS => ?_)) ?_
      rotate_left 1
      · have e3 : w'.cell? ⟨w.heap.size, 0, none⟩ = some (.pointer (some ⟨gw, 0, none⟩)) := hS.1.2.2.1.cell 0
        clear hS
        go_simp
        rfl
      simp only [Act.put, List.setIfInBounds_toArray, List.set_cons_zero, List.set_cons_succ]
      refine SeqG.next (.agg (row 16 s1.1)) (fun g og => Sure.load_Part rfl 32 _ rfl gw 33 rfl 16 s1.1 _ (fun w' hS => hS.1.1.1.range 33 16 s1.1 fun j hj => wkRow_of _ _ _ _ _ j hj) und16 size16) ?_
      simp only [Act.put, List.setIfInBounds_toArray, List.set_cons_zero, List.set_cons_succ]
      refine SeqG.next (.agg (row 16 Pd)) (fun g og => SureA.call (f := 15) (args := #[.agg (mkRow (.slice A kn kc) st dl), .agg (row 16 s1.1)]) rfl (fun w' => by go_simp) (fun w' hS => (menc_c A kn kc E D st dl s1.1 w' (HC.out _ hS.2.1)).mono fun e w'' h => ⟨by rw [HPD.out]; exact h.1, h.2, hS.1.below h.2, hS.2.1.trans (h.2.mono (by omega)), hS.2.2.1.below h.2, Nat.le_trans hS.2.2.2 h.2.size⟩)) ?_
      simp only [Act.put, List.setIfInBounds_toArray, List.set_cons_zero, List.set_cons_succ]
      refine SeqG.make (fun g => Makes.blk rfl 32 rfl _ zero16z W2.heap.size (fun w' hS => hS.2.2.2) (fun w' hS => ⟨hS.1.below ((Below.refl _ _).alloc (Nat.le_refl _) _), hS.2.1.alloc (by omega) _, hS.2.2.1.alloc _, Nat.le_trans hS.2.2.2 (by simp)⟩)) ?_
      simp only [Act.put, List.setIfInBounds_toArray, List.set_cons_zero, List.set_cons_succ]
      refine SeqG.store_Blk (fun g => rfl) 32 _ _ rfl (fun g => rfl) 32 (row 16 fun _ => 0) (row 16 Pd) (fun g => rfl) (fun g w' hS => (hS.2 g rfl).1) (by rw [row_size]; exact size16) (by rw [row_size, row_size]) (row_one _ _) ?_
      intro g W3 hS
      (try simp only [ptrV])
      obtain ⟨⟨hth, hB, hsd, hle3⟩, hT3⟩ := hS
      obtain ⟨hg3, hgl⟩ := hT3 g rfl
      have hth3 := hth.setRow_far (k := g) (by omega) (by omega) (by omega) (by omega) (row 16 Pd)
      have hB3 := below_setRow8 hB (k := g) (by omega) (row 16 Pd)
      have hsd3 := hsd.setRow (g := g) hg3 (by omega) (by omega) (row 16 Pd)
      have hr3 : Row (W3.setRow g (row 16 Pd)) g 32 16 Pd := hg3.setRow _
      clear hth hB hsd hT3 hg3 hle3
      revert hth3 hB3 hsd3 hr3
      generalize W3.setRow g (row 16 Pd) = W4
      intro hth3 hB3 hsd3 hr3
      have hfin : f' = cpy (16 * xi) e s.2 fun j => xr (s.2 (16 * xi + j)) (Pd j) := by
        rw [HF2.out, HE.out, HXI.out, HPD.out]
        unfold thrB
        rw [if_pos (by rw [← HE.out]; exact hlt)]
      have HFIN := Lib.hid hfin
      clear hfin
      have hq : s.2 = cpy (16 * xi) 0 s.2 fun j => xr (s.2 (16 * xi + j)) (Pd j) := by
        funext j
        unfold cpy
        rw [if_neg (by omega)]
      gi_wp2
      gi_loopw [30] (fun i wr => ∃ m : Nat, m ≤ e ∧ i = .int .i64 m ∧ Thr (.slice A kn kc) st dl gw b N F w.heap.size s1 (cpy (16 * xi) m s.2 fun j => xr (s.2 (16 * xi + j)) (Pd j)) wr ∧ Row wr g 32 16 Pd ∧ Below n0 w wr ∧ Side w1.heap.size (w.heap.size + 1 + 1) W wr) (fun i _ => e - (intOf i).toNat)
      case atStart => exact ⟨0, Nat.zero_le _, rfl, by rw [← hq]; exact hth3, hr3, hB3, hsd3⟩
      case round =>
        clear hth3 hr3 hB3 hsd3 hq
        obtain ⟨m, hm, rfl, hth, hr, hB, hsd⟩ := hrel
        by_cases hme : m < e
        · have hme' : (m : Int) < (e : Int) := by omega
          gi_wp2
          obtain ⟨fm, hfm⟩ : ∃ fm, fm = cpy (16 * xi) m s.2 fun j => xr (s.2 (16 * xi + j)) (Pd j) := ⟨_, rfl⟩
          have hv : fm (16 * xi + m) = s.2 (16 * xi + m) := by
            rw [hfm]; unfold cpy
            rw [if_neg (by omega)]
          have hn : ∀ j, (if j = 16 * xi + m then xr (s.2 (16 * xi + m)) (Pd m) else fm j) = cpy (16 * xi) (m + 1) s.2 (fun j => xr (s.2 (16 * xi + j)) (Pd j)) j := by
            intro j
            rw [hfm]; unfold cpy
            by_cases h : j = 16 * xi + m
            · subst h
              rw [if_pos rfl, if_pos (by omega), show 16 * xi + m - 16 * xi = m by omega]
            · rw [if_neg h]
              by_cases h2 : 16 * xi ≤ j ∧ j < 16 * xi + m
              · rw [if_pos h2, if_pos (by omega)]
              · rw [if_neg h2, if_neg (by omega)]
          rw [← hfm] at hth
          have HFM := Lib.hid hfm
          have HV := Lib.hid hv
          have HN := Lib.hid hn
          clear hfm hv hn
          refine region_seq_in (fun W' => Thr (.slice A kn kc) st dl gw b N F w.heap.size s1 fm W' ∧ Row W' g 32 16 Pd ∧ Below n0 w W' ∧ Side w1.heap.size (w.heap.size + 1 + 1) W W') mixedOrders (by kernel_rfl) (by kernel_rfl) (by simp) ⟨hth.drew, hr.drew, hB.drew, hsd.drew⟩ ?_
          clear hth hr hB hsd
          iterate 9
            refine Seq.next ?_ (Sure.val rfl (fun w' hS => ?_)) ?_
            rotate_left 1
            · have e1 := hS.1.2.1.cell (16 * xi + m) (by omega)
              have e2 := hS.2.1.cell m (by omega)
              rw [HV.out] at e1
              have i1 : (m : Int) < 16 := by omega
              clear hS
              go_simp
              rfl
            simp only [Act.put, List.setIfInBounds_toArray, List.set_cons_zero, List.set_cons_succ, xor8]
          refine Seq.last rfl fun w' hS => ?_
          obtain ⟨hth, hr, hB, hsd⟩ := hS
          have e1 := hth.2.1.cell (16 * xi + m) (by omega)
          have e3 := hth.2.1.frozen (16 * xi + m)
          go_simp
          clear e1 e3
          gi_wp2
          go_roundw
          case rel =>
            exact ⟨m + 1, by omega, by go_num, (hth.put (16 * xi + m) (xr (s.2 (16 * xi + m)) (Pd m)) hne (by omega) (by omega)).congr HN.out, hr.far (by simp; omega) _, hB.setCell (p := ⟨b, 16 * xi + m, none⟩) h2 _,
              hsd.other hth.2.1 (by omega) (by omega) (by simp) (fun k _ hk => Below.heap_setCell _ ⟨b, 16 * xi + m, none⟩ _ k hk)⟩
          case measure => simp [intOf]; omega
        · obtain rfl : m = e := by omega
          gi_wp2
          exact ⟨hsd.1, hsd.2.1, ⟨by rw [HS2.out]; show Thr _ _ _ _ _ _ _ _ s1 f' _; rw [HFIN.out]; exact hth, Nat.le_trans hle hsd.1.size⟩, hB⟩
    · have hlt' : ¬ (e : Int) < 16 := by omega
      obtain rfl : e = 16 := by omega
      refine wpIn_seq ?_
      refine region_in (by kernel_rfl) fun K hK => ?_
      go_wp2
      refine hK _ _ ?_
      clear hK
      clear K
      refine wpIn_cond_false rfl ?_
      refine wpIn_skip ?_
      refine wpIn_seq ?_
      have hl1 := hth2.1.lt
      have hl2 := hth2.2.1.lt
      obtain ⟨B0, hB0⟩ : ∃ B0 : Nat → UInt8, B0 = fun j => s.2 (16 * xi + j) := ⟨_, rfl⟩
      obtain ⟨Y1, hY1⟩ : ∃ Y1, Y1 = added B0 s1.1 := ⟨_, rfl⟩
      obtain ⟨Z1, hZ1⟩ : ∃ Z1, Z1 = C Y1 := ⟨_, rfl⟩
      obtain ⟨V1, hV1⟩ : ∃ V1, V1 = added Z1 s1.1 := ⟨_, rfl⟩
      have hfin : f' = cpy (16 * xi) 16 s.2 V1 := by
        rw [HF2.out, ← HE.out, hV1, hZ1, hY1, hB0, HXI.out]
        unfold thrB
        rw [if_neg (by rw [← HE.out]; omega)]
      have HFIN := Lib.hid hfin
      have HB0 := Lib.hid hB0
      have HY1 := Lib.hid hY1
      have HZ1 := Lib.hid hZ1
      have HV1 := Lib.hid hV1
      clear hfin hB0 hY1 hZ1 hV1
      have hcf := HG.out
      refine region_made_in (SA (fun W' => Thr (.slice A kn kc) st dl gw b N F w.heap.size s1 s.2 W' ∧ Below n0 w W' ∧ Side w1.heap.size (w.heap.size + 1 + 1) W W' ∧ W2.heap.size ≤ W'.heap.size) fun g w' => Blk w' g 32 (row 16 fun _ => 0) ∧ W2.heap.size ≤ g) mixedOrders (by kernel_rfl) (by kernel_rfl) (by simp) ⟨⟨hth2.drew, hB2.drew, hsd2.drew, Nat.le_refl _⟩, fun _ h => by cases h⟩ ?_
      clear hth2 hB2 hsd2
      refine SeqG.next ?_ (fun g og => SureA.val rfl (fun w' hS => ?_)) ?_
      rotate_left 1
      · have e3 : w'.cell? ⟨w.heap.size, 0, none⟩ = some (.pointer (some ⟨gw, 0, none⟩)) := hS.1.2.2.1.cell 0
        have e5 : w'.cell? ⟨w.heap.size + 1, 0, none⟩ = some (.func (.func cf) #[.agg (mkRow (.slice A kn kc) st dl)] #[]) := (hS.1.2.2.2.cell 0).trans (by rw [hF]; rfl)
        clear hS
        go_simp
        rfl
      simp only [Act.put, List.setIfInBounds_toArray, List.set_cons_zero, List.set_cons_succ]
      refine SeqG.next ?_ (fun g og => SureA.val rfl (fun w' hS => ?_)) ?_
      rotate_left 1
      · have e3 : w'.cell? ⟨w.heap.size, 0, none⟩ = some (.pointer (some ⟨gw, 0, none⟩)) := hS.1.2.2.1.cell 0
        have e5 : w'.cell? ⟨w.heap.size + 1, 0, none⟩ = some (.func (.func cf) #[.agg (mkRow (.slice A kn kc) st dl)] #[]) := (hS.1.2.2.2.cell 0).trans (by rw [hF]; rfl)
        clear hS
        go_simp
        rfl
      simp only [Act.put, List.setIfInBounds_toArray, List.set_cons_zero, List.set_cons_succ]
      refine SeqG.next ?_ (fun g og => SureA.val rfl (fun w' hS => ?_)) ?_
      rotate_left 1
      · have e3 : w'.cell? ⟨w.heap.size, 0, none⟩ = some (.pointer (some ⟨gw, 0, none⟩)) := hS.1.2.2.1.cell 0
        have e5 : w'.cell? ⟨w.heap.size + 1, 0, none⟩ = some (.func (.func cf) #[.agg (mkRow (.slice A kn kc) st dl)] #[]) := (hS.1.2.2.2.cell 0).trans (by rw [hF]; rfl)
        clear hS
        go_simp
        rfl
      simp only [Act.put, List.setIfInBounds_toArray, List.set_cons_zero, List.set_cons_succ]
      refine SeqG.next (.agg (row 16 B0)) (fun g og => by rw [HB0.out]; exact Sure.load_Mid rfl 32 _ rfl b (16 * xi) rfl 5 N 16 s.2 _ (fun w' hS => hS.1.1.2.1) (by omega) und16 size16) ?_
      simp only [Act.put, List.setIfInBounds_toArray, List.set_cons_zero, List.set_cons_succ]
      refine SeqG.next ?_ (fun g og => SureA.val rfl (fun w' hS => ?_)) ?_
      rotate_left 1
      · have e3 : w'.cell? ⟨w.heap.size, 0, none⟩ = some (.pointer (some ⟨gw, 0, none⟩)) := hS.1.2.2.1.cell 0
        have e5 : w'.cell? ⟨w.heap.size + 1, 0, none⟩ = some (.func (.func cf) #[.agg (mkRow (.slice A kn kc) st dl)] #[]) := (hS.1.2.2.2.cell 0).trans (by rw [hF]; rfl)
        clear hS
        go_simp
        rfl
      simp only [Act.put, List.setIfInBounds_toArray, List.set_cons_zero, List.set_cons_succ]
      refine SeqG.next ?_ (fun g og => SureA.val rfl (fun w' hS => ?_)) ?_
      rotate_left 1
      · have e3 : w'.cell? ⟨w.heap.size, 0, none⟩ = some (.pointer (some ⟨gw, 0, none⟩)) := hS.1.2.2.1.cell 0
        have e5 : w'.cell? ⟨w.heap.size + 1, 0, none⟩ = some (.func (.func cf) #[.agg (mkRow (.slice A kn kc) st dl)] #[]) := (hS.1.2.2.2.cell 0).trans (by rw [hF]; rfl)
        clear hS
        go_simp
        rfl
      simp only [Act.put, List.setIfInBounds_toArray, List.set_cons_zero, List.set_cons_succ]
      refine SeqG.next ?_ (fun g og => SureA.val rfl (fun w' hS => ?_)) ?_
      rotate_left 1
      · have e3 : w'.cell? ⟨w.heap.size, 0, none⟩ = some (.pointer (some ⟨gw, 0, none⟩)) := hS.1.2.2.1.cell 0
        have e5 : w'.cell? ⟨w.heap.size + 1, 0, none⟩ = some (.func (.func cf) #[.agg (mkRow (.slice A kn kc) st dl)] #[]) := (hS.1.2.2.2.cell 0).trans (by rw [hF]; rfl)
        clear hS
        go_simp
        rfl
      simp only [Act.put, List.setIfInBounds_toArray, List.set_cons_zero, List.set_cons_succ]
      refine SeqG.next (.agg (row 16 s1.1)) (fun g og => Sure.load_Part rfl 32 _ rfl gw 33 rfl 16 s1.1 _ (fun w' hS => hS.1.1.1.range 33 16 s1.1 fun j hj => wkRow_of _ _ _ _ _ j hj) und16 size16) ?_
      simp only [Act.put, List.setIfInBounds_toArray, List.set_cons_zero, List.set_cons_succ]
      refine SeqG.next (.agg (row 16 Y1)) (fun g og => SureA.call (f := 27) (args := #[.agg (row 16 B0), .agg (row 16 s1.1)]) rfl (fun w' => by go_simp) (fun w' hS => (xored_c B0 s1.1 w').mono fun e w'' h => ⟨by rw [HY1.out]; exact h.1, h.2, hS.1.below h.2, hS.2.1.trans (h.2.mono (by omega)), hS.2.2.1.below h.2, Nat.le_trans hS.2.2.2 h.2.size⟩)) ?_
      simp only [Act.put, List.setIfInBounds_toArray, List.set_cons_zero, List.set_cons_succ]
      refine SeqG.next (.agg (row 16 Z1)) (fun g og => SureA.call (f := cf) (args := #[.agg (mkRow (.slice A kn kc) st dl), .agg (row 16 Y1)]) rfl (fun w' => by go_simp) (fun w' hS => (HF.out w' hS.2.1 Y1).mono fun e w'' h => ⟨by rw [HZ1.out]; exact h.1, h.2, hS.1.below h.2, hS.2.1.trans (h.2.mono (by omega)), hS.2.2.1.below h.2, Nat.le_trans hS.2.2.2 h.2.size⟩)) ?_
      simp only [Act.put, List.setIfInBounds_toArray, List.set_cons_zero, List.set_cons_succ]
      refine SeqG.next ?_ (fun g og => SureA.val rfl (fun w' hS => ?_)) ?_
      rotate_left 1
      · have e3 : w'.cell? ⟨w.heap.size, 0, none⟩ = some (.pointer (some ⟨gw, 0, none⟩)) := hS.1.2.2.1.cell 0
        have e5 : w'.cell? ⟨w.heap.size + 1, 0, none⟩ = some (.func (.func cf) #[.agg (mkRow (.slice A kn kc) st dl)] #[]) := (hS.1.2.2.2.cell 0).trans (by rw [hF]; rfl)
        clear hS
        go_simp
        rfl
      simp only [Act.put, List.setIfInBounds_toArray, List.set_cons_zero, List.set_cons_succ]
      refine SeqG.next ?_ (fun g og => SureA.val rfl (fun w' hS => ?_)) ?_
      rotate_left 1
      · have e3 : w'.cell? ⟨w.heap.size, 0, none⟩ = some (.pointer (some ⟨gw, 0, none⟩)) := hS.1.2.2.1.cell 0
        have e5 : w'.cell? ⟨w.heap.size + 1, 0, none⟩ = some (.func (.func cf) #[.agg (mkRow (.slice A kn kc) st dl)] #[]) := (hS.1.2.2.2.cell 0).trans (by rw [hF]; rfl)
        clear hS
        go_simp
        rfl
      simp only [Act.put, List.setIfInBounds_toArray, List.set_cons_zero, List.set_cons_succ]
      refine SeqG.next ?_ (fun g og => SureA.val rfl (fun w' hS => ?_)) ?_
      rotate_left 1
      · have e3 : w'.cell? ⟨w.heap.size, 0, none⟩ = some (.pointer (some ⟨gw, 0, none⟩)) := hS.1.2.2.1.cell 0
        have e5 : w'.cell? ⟨w.heap.size + 1, 0, none⟩ = some (.func (.func cf) #[.agg (mkRow (.slice A kn kc) st dl)] #[]) := (hS.1.2.2.2.cell 0).trans (by rw [hF]; rfl)
        clear hS
        go_simp
        rfl
      simp only [Act.put, List.setIfInBounds_toArray, List.set_cons_zero, List.set_cons_succ]
      refine SeqG.next (.agg (row 16 s1.1)) (fun g og => Sure.load_Part rfl 32 _ rfl gw 33 rfl 16 s1.1 _ (fun w' hS => hS.1.1.1.range 33 16 s1.1 fun j hj => wkRow_of _ _ _ _ _ j hj) und16 size16) ?_
      simp only [Act.put, List.setIfInBounds_toArray, List.set_cons_zero, List.set_cons_succ]
      refine SeqG.next (.agg (row 16 V1)) (fun g og => SureA.call (f := 27) (args := #[.agg (row 16 Z1), .agg (row 16 s1.1)]) rfl (fun w' => by go_simp) (fun w' hS => (xored_c Z1 s1.1 w').mono fun e w'' h => ⟨by rw [HV1.out]; exact h.1, h.2, hS.1.below h.2, hS.2.1.trans (h.2.mono (by omega)), hS.2.2.1.below h.2, Nat.le_trans hS.2.2.2 h.2.size⟩)) ?_
      simp only [Act.put, List.setIfInBounds_toArray, List.set_cons_zero, List.set_cons_succ]
      refine SeqG.make (fun g => Makes.blk rfl 32 rfl _ zero16z W2.heap.size (fun w' hS => hS.2.2.2) (fun w' hS => ⟨hS.1.below ((Below.refl _ _).alloc (Nat.le_refl _) _), hS.2.1.alloc (by omega) _, hS.2.2.1.alloc _, Nat.le_trans hS.2.2.2 (by simp)⟩)) ?_
      simp only [Act.put, List.setIfInBounds_toArray, List.set_cons_zero, List.set_cons_succ]
      refine SeqG.store_Blk (fun g => rfl) 32 _ _ rfl (fun g => rfl) 32 (row 16 fun _ => 0) (row 16 V1) (fun g => rfl) (fun g w' hS => (hS.2 g rfl).1) (by rw [row_size]; exact size16) (by rw [row_size, row_size]) (row_one _ _) ?_
      intro g W3 hS
      (try simp only [ptrV])
      obtain ⟨⟨hth, hB, hsd, hle3⟩, hT3⟩ := hS
      obtain ⟨hg3, hgl⟩ := hT3 g rfl
      have hth3 := hth.setRow_far (k := g) (by omega) (by omega) (by omega) (by omega) (row 16 V1)
      have hB3 := below_setRow8 hB (k := g) (by omega) (row 16 V1)
      have hsd3 := hsd.setRow (g := g) hg3 (by omega) (by omega) (row 16 V1)
      have hr3 : Row (W3.setRow g (row 16 V1)) g 32 16 V1 := hg3.setRow _
      clear hth hB hsd hT3 hg3 hle3
      revert hth3 hB3 hsd3 hr3
      generalize W3.setRow g (row 16 V1) = W4
      intro hth3 hB3 hsd3 hr3
      refine region_in (by kernel_rfl) fun K hK => ?_
      go_wp2_with (refine wpList_copy_Row rfl _ _ 22 22 rfl 5 undB size8 b (16 * xi) 16 16 ⟨g, 0, none⟩ 16 16 rfl rfl 5 N s.2 hth3.2.1 16 V1 rfl (fun j hj => by rw [Addr.add_mid, Nat.zero_add]; exact hr3.cell j hj) (by omega) ?_)
      refine hK _ _ ?_
      have hth4 := hth3.text (cpy (16 * xi) 16 s.2 V1) (Ne.symm hne) (by omega) (by omega)
      have hsd4 := hsd3.setRow hth3.2.1 (by omega) (by omega) (row N (cpy (16 * xi) 16 s.2 V1))
      exact ⟨hsd4.1, hsd4.2.1, ⟨by rw [HS2.out]; show Thr _ _ _ _ _ _ _ _ s1 f' _; rw [HFIN.out]; exact hth4, Nat.le_trans hle hsd4.1.size⟩, below_setRow8 hB3 h2 _⟩
  case done =>
    rintro D ys W hD hys ⟨⟨hth, hle⟩, hB⟩ hK
    rw [hys] at hth
    (try simp only [Exit.inBlock])
    go_wp2
    have hth2 := hth.kept (grownBy_putObj' _ D (.deferred none)) (fun r e => by cases e; exact ⟨_, hK, rfl⟩)
    refine ⟨by simp, .inl ⟨_, _, rfl, run_takeDeferred hK, ?_⟩⟩
    exact ⟨_, results_none rfl _ _ _, rfl, ⟨_, hth2.1⟩, hth2.2.1, hB.trans (belowK_b (w := w) (by omega) _ D _ _ (by omega) hK rfl rfl)⟩
  case stop =>
    rintro D c' pre W _ _ h _
    exact h.elim
end Go.Proofs.YtajifdnfibojfaaDoor

namespace Go.Proofs.YtajifdnfibojfaaDoor
open Go Go.RowKit Go.Shelf
set_option maxRecDepth 100000

theorem wkRow_dl (K : Value) (st dl of : Nat → UInt8) (bl j : Nat) (hj : j < 16) : (wkRow K st dl of bl)[17 + j]? = some (by8 (dl j)) := by
  have h1 := mk_size K st dl
  have h2 : (mkRow K st dl ++ row 16 of).size = 49 := by simp [h1, row_size]
  unfold wkRow
  rw [Array.getElem?_append, if_pos (by omega), Array.getElem?_append, if_pos (by omega)]
  exact mkRow_dl K st dl j hj

/-- The tag. -/
def tagB (E : (Nat → UInt8) → Nat → UInt8) (st dl of : Nat → UInt8) (m : Nat) (fa : Nat → UInt8) (n : Nat) (fp : Nat → UInt8) : Nat → UInt8 :=
  added (E (added (sumTo n fp (List.range ((n + 15) / 16))) (added of dl))) (hashTo E st dl m fa (List.range ((m + 15) / 16))).2

set_option maxHeartbeats 4000000 in
theorem tag_c (A A1 A2 : Option Addr) (kn kc m c1 n c2 gw bl : Nat) (E D : (Nat → UInt8) → Nat → UInt8) (st dl of fa fp : Nat → UInt8) (w : World) (hcap : Cap A kn kc E D w) (hT : DeB w) (hg : 2 < w.heap.size)
    (hw : Blk w gw 39 (wkRow (.slice A kn kc) st dl of bl)) (ha : Bts w A1 m c1 fa) (hp : Bts w A2 n c2 fp) (hc1 : m ≤ 140737488355328) (hc2 : n ≤ 140737488355328) :
    Calls Tryd.prog 16 #[.pointer (some ⟨gw, 0, none⟩), .slice A1 m c1, .slice A2 n c2] w fun e w' => e = .returned (.agg (row 16 (tagB E st dl of m fa n fp))) ∧ Below w.heap.size w w' := by
  have HC := Lib.hid hcap
  have HA := Lib.hid ha
  have HP := Lib.hid hp
  clear hcap ha hp
  obtain ⟨Su, hSu⟩ : ∃ Su : Nat → UInt8, Su = sumTo n fp (List.range ((n + 15) / 16)) := ⟨_, rfl⟩
  obtain ⟨Hs, hHs⟩ : ∃ Hs : Nat → UInt8, Hs = (hashTo E st dl m fa (List.range ((m + 15) / 16))).2 := ⟨_, rfl⟩
  obtain ⟨En, hEn⟩ : ∃ En : Nat → UInt8, En = added of dl := ⟨_, rfl⟩
  obtain ⟨X1, hX1⟩ : ∃ X1 : Nat → UInt8, X1 = added Su En := ⟨_, rfl⟩
  obtain ⟨X2, hX2⟩ : ∃ X2 : Nat → UInt8, X2 = E X1 := ⟨_, rfl⟩
  obtain ⟨X3, hX3⟩ : ∃ X3 : Nat → UInt8, X3 = added X2 Hs := ⟨_, rfl⟩
  have htag : tagB E st dl of m fa n fp = X3 := by unfold tagB; rw [hX3, hX2, hX1, hEn, hSu, hHs]
  rw [htag]
  have HSu := Lib.hid hSu
  have HHs := Lib.hid hHs
  have HEn := Lib.hid hEn
  have HX1 := Lib.hid hX1
  have HX2 := Lib.hid hX2
  have HX3 := Lib.hid hX3
  clear hSu hHs hEn hX1 hX2 hX3 htag
  have hlg := hw.lt
  go_enter Tryd.func16, Tryd.ntmps16
  go_upto_region 1 with (fail)
  rw [zero16]
  have hz := Row.new w 32 16 (fun _ => 0)
  have hw1 := hw.alloc (.cells (row 16 fun _ => 0) 32)
  have hb1 : Below w.heap.size w (w.alloc (.cells (row 16 fun _ => 0) 32)) := (Below.refl _ _).alloc (Nat.le_refl _) _
  revert hz hw1 hb1
  clear hw
  generalize w.alloc (.cells (row 16 fun _ => 0) 32) = w1
  intro hz hw hb1
  refine region_made (SA (fun W' => Blk W' gw 39 (wkRow (.slice A kn kc) st dl of bl) ∧ Row W' w.heap.size 32 16 (fun _ => 0) ∧ Below w.heap.size w W' ∧ w.heap.size + 1 ≤ W'.heap.size) fun g w' => Blk w' g 32 (row 16 fun _ => 0) ∧ w.heap.size + 1 ≤ g) mixedOrders (by kernel_rfl) (by simp) ⟨⟨hw.drew, hz.drew, hb1.drew, hz.lt⟩, fun _ h => by cases h⟩ ?_
  clear hw hz hb1
  refine SeqG.next ?_ (fun g og => SureA.val rfl (fun w' hS => ?_)) ?_
  rotate_left 1
  · clear hS
    go_simp
    rfl
  simp only [Act.put, List.setIfInBounds_toArray, List.set_cons_zero, List.set_cons_succ]
  refine SeqG.next ?_ (fun g og => SureA.val rfl (fun w' hS => ?_)) ?_
  rotate_left 1
  · clear hS
    go_simp
    rfl
  simp only [Act.put, List.setIfInBounds_toArray, List.set_cons_zero, List.set_cons_succ]
  refine SeqG.next ?_ (fun g og => SureA.val rfl (fun w' hS => ?_)) ?_
  rotate_left 1
  · clear hS
    go_simp
    rfl
  simp only [Act.put, List.setIfInBounds_toArray, List.set_cons_zero, List.set_cons_succ]
  refine SeqG.next (.agg (row 16 of)) (fun g og => Sure.load_Part rfl 32 _ rfl gw 33 rfl 16 of _ (fun w' hS => hS.1.1.range 33 16 of fun j hj => wkRow_of _ _ _ _ _ j hj) und16 size16) ?_
  simp only [Act.put, List.setIfInBounds_toArray, List.set_cons_zero, List.set_cons_succ]
  refine SeqG.next ?_ (fun g og => SureA.val rfl (fun w' hS => ?_)) ?_
  rotate_left 1
  · clear hS
    go_simp
    rfl
  simp only [Act.put, List.setIfInBounds_toArray, List.set_cons_zero, List.set_cons_succ]
  refine SeqG.next ?_ (fun g og => SureA.val rfl (fun w' hS => ?_)) ?_
  rotate_left 1
  · clear hS
    go_simp
    rfl
  simp only [Act.put, List.setIfInBounds_toArray, List.set_cons_zero, List.set_cons_succ]
  refine SeqG.next ?_ (fun g og => SureA.val rfl (fun w' hS => ?_)) ?_
  rotate_left 1
  · clear hS
    go_simp
    rfl
  simp only [Act.put, List.setIfInBounds_toArray, List.set_cons_zero, List.set_cons_succ]
  refine SeqG.next ?_ (fun g og => SureA.val rfl (fun w' hS => ?_)) ?_
  rotate_left 1
  · clear hS
    go_simp
    rfl
  simp only [Act.put, List.setIfInBounds_toArray, List.set_cons_zero, List.set_cons_succ]
  refine SeqG.next (.agg (row 16 dl)) (fun g og => Sure.load_Part rfl 32 _ rfl gw 17 rfl 16 dl _ (fun w' hS => hS.1.1.range 17 16 dl fun j hj => wkRow_dl _ _ _ _ _ j hj) und16 size16) ?_
  simp only [Act.put, List.setIfInBounds_toArray, List.set_cons_zero, List.set_cons_succ]
  refine SeqG.next (.agg (row 16 En)) (fun g og => SureA.call (f := 27) (args := #[.agg (row 16 of), .agg (row 16 dl)]) rfl (fun w' => by go_simp) (fun w' hS => (xored_c of dl w').mono fun e w'' h => ⟨by rw [HEn.out]; exact h.1, h.2, hS.1.below h.2 hS.1.lt, hS.2.1.below h.2 hS.2.1.lt, hS.2.2.1.trans (h.2.mono hS.2.2.1.size), Nat.le_trans hS.2.2.2 h.2.size⟩)) ?_
  simp only [Act.put, List.setIfInBounds_toArray, List.set_cons_zero, List.set_cons_succ]
  refine SeqG.make (fun g => Makes.blk rfl 32 rfl _ zero16z (w.heap.size + 1) (fun w' hS => hS.2.2.2) (fun w' hS => ⟨hS.1.alloc _, hS.2.1.alloc _, hS.2.2.1.alloc hS.2.2.1.size _, Nat.le_trans hS.2.2.2 (by simp)⟩)) ?_
  simp only [Act.put, List.setIfInBounds_toArray, List.set_cons_zero, List.set_cons_succ]
  refine SeqG.store_Blk (fun g => rfl) 32 _ _ rfl (fun g => rfl) 32 (row 16 fun _ => 0) (row 16 En) (fun g => rfl) (fun g w' hS => (hS.2 g rfl).1) (by rw [row_size]; exact size16) (by rw [row_size, row_size]) (row_one _ _) ?_
  intro g W3 hS
  (try simp only [ptrV])
  obtain ⟨⟨hw, hz, hb, hle⟩, hT3⟩ := hS
  obtain ⟨hg3, hgl⟩ := hT3 g rfl
  have hw3 := hw.setRow_far (k := g) (by omega) (row 16 En)
  have hz3 := hz.setRow_far (k := g) (by omega) (row 16 En)
  have hb3 := below_setRow8 hb (k := g) (by omega) (row 16 En)
  have hr3 : Row (W3.setRow g (row 16 En)) g 32 16 En := hg3.setRow _
  clear hw hz hb hle hT3 hg3
  revert hw3 hz3 hb3 hr3
  generalize W3.setRow g (row 16 En) = W4
  intro hw3 hz3 hb3 hr3
  (try simp only [Exit.then])
  go_upto_region 2 with (fail)
  refine region_seq (fun W' => Blk W' gw 39 (wkRow (.slice A kn kc) st dl of bl) ∧ Row W' w.heap.size 32 16 (fun _ => 0) ∧ Below w.heap.size w W' ∧ Row W' g 32 16 En) mixedOrders (by kernel_rfl) (by simp) ⟨hw3.drew, hz3.drew, hb3.drew, hr3.drew⟩ ?_
  clear hw3 hz3 hb3 hr3
  refine Seq.next ?_ (Sure.val rfl (fun w' hS => ?_)) ?_
  rotate_left 1
  · clear hS
    go_simp
    rfl
  simp only [Act.put, List.setIfInBounds_toArray, List.set_cons_zero, List.set_cons_succ]
  refine Seq.next ?_ (Sure.val rfl (fun w' hS => ?_)) ?_
  rotate_left 1
  · clear hS
    go_simp
    rfl
  simp only [Act.put, List.setIfInBounds_toArray, List.set_cons_zero, List.set_cons_succ]
  refine Seq.next ?_ (Sure.val rfl (fun w' hS => ?_)) ?_
  rotate_left 1
  · clear hS
    go_simp
    rfl
  simp only [Act.put, List.setIfInBounds_toArray, List.set_cons_zero, List.set_cons_succ]
  refine Seq.next (.agg (mkRow (.slice A kn kc) st dl)) (Sure.load_Struct rfl 34 _ rfl gw 0 rfl (mkRow (.slice A kn kc) st dl) (fun w' hS => wkRow_mk hS.1) undMk (by rw [mk_size]; exact sizeMk)) ?_
  simp only [Act.put, List.setIfInBounds_toArray, List.set_cons_zero, List.set_cons_succ]
  refine Seq.next ?_ (Sure.val rfl (fun w' hS => ?_)) ?_
  rotate_left 1
  · clear hS
    go_simp
    rfl
  simp only [Act.put, List.setIfInBounds_toArray, List.set_cons_zero, List.set_cons_succ]
  refine Seq.next (.agg (row 16 Su)) (Sure.call (f := 29) (args := #[.slice A2 n c2]) rfl (fun w' => by go_simp) (fun w' hS => (sum_c A2 n c2 fp w' (HP.out.below hS.2.2.1) hc2).mono fun e w'' h => ⟨by rw [HSu.out]; exact h.1, hS.1.below h.2 hS.1.lt, hS.2.1.below h.2 hS.2.1.lt, hS.2.2.1.trans (h.2.mono hS.2.2.1.size), hS.2.2.2.below h.2 hS.2.2.2.lt⟩)) ?_
  simp only [Act.put, List.setIfInBounds_toArray, List.set_cons_zero, List.set_cons_succ]
  refine Seq.next (.agg (row 16 En)) (Sure.load_Row rfl 32 _ rfl g rfl 32 16 _ _ (fun w' hS => hS.2.2.2) und16 size16) ?_
  simp only [Act.put, List.setIfInBounds_toArray, List.set_cons_zero, List.set_cons_succ]
  refine Seq.next (.agg (row 16 X1)) (Sure.call (f := 27) (args := #[.agg (row 16 Su), .agg (row 16 En)]) rfl (fun w' => by go_simp) (fun w' hS => (xored_c Su En w').mono fun e w'' h => ⟨by rw [HX1.out]; exact h.1, hS.1.below h.2 hS.1.lt, hS.2.1.below h.2 hS.2.1.lt, hS.2.2.1.trans (h.2.mono hS.2.2.1.size), hS.2.2.2.below h.2 hS.2.2.2.lt⟩)) ?_
  simp only [Act.put, List.setIfInBounds_toArray, List.set_cons_zero, List.set_cons_succ]
  refine Seq.next (.agg (row 16 X2)) (Sure.call (f := 15) (args := #[.agg (mkRow (.slice A kn kc) st dl), .agg (row 16 X1)]) rfl (fun w' => by go_simp) (fun w' hS => (menc_c A kn kc E D st dl X1 w' (HC.out.below hS.2.2.1)).mono fun e w'' h => ⟨by rw [HX2.out]; exact h.1, hS.1.below h.2 hS.1.lt, hS.2.1.below h.2 hS.2.1.lt, hS.2.2.1.trans (h.2.mono hS.2.2.1.size), hS.2.2.2.below h.2 hS.2.2.2.lt⟩)) ?_
  simp only [Act.put, List.setIfInBounds_toArray, List.set_cons_zero, List.set_cons_succ]
  refine Seq.next ?_ (Sure.val rfl (fun w' hS => ?_)) ?_
  rotate_left 1
  · clear hS
    go_simp
    rfl
  simp only [Act.put, List.setIfInBounds_toArray, List.set_cons_zero, List.set_cons_succ]
  refine Seq.next ?_ (Sure.val rfl (fun w' hS => ?_)) ?_
  rotate_left 1
  · clear hS
    go_simp
    rfl
  simp only [Act.put, List.setIfInBounds_toArray, List.set_cons_zero, List.set_cons_succ]
  refine Seq.next ?_ (Sure.val rfl (fun w' hS => ?_)) ?_
  rotate_left 1
  · clear hS
    go_simp
    rfl
  simp only [Act.put, List.setIfInBounds_toArray, List.set_cons_zero, List.set_cons_succ]
  refine Seq.next (.agg (mkRow (.slice A kn kc) st dl)) (Sure.load_Struct rfl 34 _ rfl gw 0 rfl (mkRow (.slice A kn kc) st dl) (fun w' hS => wkRow_mk hS.1) undMk (by rw [mk_size]; exact sizeMk)) ?_
  simp only [Act.put, List.setIfInBounds_toArray, List.set_cons_zero, List.set_cons_succ]
  refine Seq.next ?_ (Sure.val rfl (fun w' hS => ?_)) ?_
  rotate_left 1
  · clear hS
    go_simp
    rfl
  simp only [Act.put, List.setIfInBounds_toArray, List.set_cons_zero, List.set_cons_succ]
  refine Seq.next (.agg (row 16 Hs)) (Sure.call (f := 30) (args := #[.agg (mkRow (.slice A kn kc) st dl), .slice A1 m c1]) rfl (fun w' => by go_simp) (fun w' hS => (hash_c A A1 kn kc m c1 E D st dl fa w' (HC.out.below hS.2.2.1) (hT.below hS.2.2.1 hg) (by have := hS.2.2.1.size; omega) (HA.out.below hS.2.2.1) hc1).mono fun e w'' h => ⟨by rw [HHs.out]; exact h.1, hS.1.below h.2 hS.1.lt, hS.2.1.below h.2 hS.2.1.lt, hS.2.2.1.trans (h.2.mono hS.2.2.1.size), hS.2.2.2.below h.2 hS.2.2.2.lt⟩)) ?_
  simp only [Act.put, List.setIfInBounds_toArray, List.set_cons_zero, List.set_cons_succ]
  refine Seq.next (.agg (row 16 X3)) (Sure.call (f := 27) (args := #[.agg (row 16 X2), .agg (row 16 Hs)]) rfl (fun w' => by go_simp) (fun w' hS => (xored_c X2 Hs w').mono fun e w'' h => ⟨by rw [HX3.out]; exact h.1, hS.1.below h.2 hS.1.lt, hS.2.1.below h.2 hS.2.1.lt, hS.2.2.1.trans (h.2.mono hS.2.2.1.size), hS.2.2.2.below h.2 hS.2.2.2.lt⟩)) ?_
  simp only [Act.put, List.setIfInBounds_toArray, List.set_cons_zero, List.set_cons_succ]
  refine Seq.store_Row rfl 32 _ _ rfl w.heap.size rfl 32 16 _ X3 rfl (fun w' hS => hS.2.1) size16 fun w' hS => ?_
  have hz5 := hS.2.1.setRow X3
  have hb5 := below_setRow8 hS.2.2.1 (Nat.le_refl _) (row 16 X3)
  clear hS
  revert hz5 hb5
  generalize w'.setRow w.heap.size (row 16 X3) = W5
  intro hz5 hb5
  go_wp2
  exact ret_Row rfl rfl _ _ 16 _ _ rfl hz5 und16 size16 ⟨rfl, hb5⟩
end Go.Proofs.YtajifdnfibojfaaDoor

namespace Go.Proofs.YtajifdnfibojfaaDoor
open Go Go.RowKit Go.Shelf
set_option maxRecDepth 100000

theorem setRow_self {w : World} {g : Nat} {t : TypeId} {cs : Array Value} (h : Blk w g t cs) : w.setRow g cs = w := by
  have hlt := h.lt
  have hv : w.heap[g] = .cells cs t (0, 0) := (Array.getElem?_eq_some_iff.1 h).2
  have e : (w.setRow g cs).heap = w.heap := by
    apply Array.ext
    · simp [World.setRow]
    · intro i h1 h2
      have h3 : (w.setRow g cs).heap[i]? = w.heap[i]? := by
        by_cases hi : i = g
        · subst hi
          rw [show (w.setRow i cs).heap[i]? = _ from setRow_heap w i _ cs t _ h]
          exact h.symm
        · exact setRow_other w g i cs hi
      rw [Array.getElem?_eq_getElem h1, Array.getElem?_eq_getElem h2] at h3
      exact Option.some.inj h3
  cases w
  simp only [World.setRow] at e ⊢
  rw [e]
/-- copy, of bytes that came in, nil or not. -/
theorem run_copy_B {P : Program} {w : World} (dT sT ty e : TypeId) (g off dLen dCap : Nat) (A : Option Addr) (sLen sCap k : Nat) (t : TypeId) (n : Nat) (f fs : Nat → UInt8)
    (hu : P.underlying dT = some (.slice e)) (hsz : (P.info? e).map (·.size) = some 1) (hg : Row w g t n f) (hA : Bts w A sLen sCap fs) (hk : k = Nat.min sLen dLen) (hfit : off + k ≤ n) :
    (Builtin.copy_ #[dT, sT] ty #[.slice (some ⟨g, off, none⟩) dLen dCap, .slice A sLen sCap]).run P w = .ok (goInt k) (w.setRow g (row n (cpy off k f fs))) := by
  by_cases h0 : k = 0
  · subst h0
    rw [run_copy_none (P := P) w dT sT ty e (some ⟨g, off, none⟩) A dLen dCap sLen sCap hu hsz hk.symm]
    have e1 : row n (cpy off 0 f fs) = row n f := row_congr fun i _ => by unfold cpy; rw [if_neg (by omega)]
    rw [e1, setRow_self hg]
    rfl
  · have hs : 0 < sLen := by
      have : Nat.min sLen dLen ≤ sLen := Nat.min_le_left _ _
      omega
    obtain ⟨b, o, rfl, hc⟩ := hA.1 hs
    have hle : k ≤ sLen := by rw [hk]; exact Nat.min_le_left _ _
    exact run_copy_Row dT sT ty e g off dLen dCap ⟨b, o, none⟩ sLen sCap k t n f fs hu hsz hg hk (fun j hj => by rw [Addr.add_mid]; exact hc j (by omega)) hfit
theorem wpList_copy_B {P : Program} {w : World} {ops : Array Oper} {rest : List Oper} {o : Oper} {a : Act} {Q : Exit → Act → World → Prop} (hgd : o.guard = none) (d s : Operand) (dT sT : TypeId)
    (ho : o.op = .call { callee := .builtin .copy, args := #[d, s], argTypes := #[dT, sT] }) (e : TypeId) (hu : P.underlying dT = some (.slice e)) (hsz : (P.info? e).map (·.size) = some 1)
    (g off dLen dCap : Nat) (A : Option Addr) (sLen sCap : Nat) (hd : a.eval d = .slice (some ⟨g, off, none⟩) dLen dCap) (hs : a.eval s = .slice A sLen sCap)
    (t : TypeId) (n : Nat) (f : Nat → UInt8) (hg : Row w g t n f) (k : Nat) (fs : Nat → UInt8) (hk : k = Nat.min sLen dLen) (hA : Bts w A sLen sCap fs) (hfit : off + k ≤ n)
    (h : wpList P ops Q rest (a.put o.dst (goInt k)) (w.setRow g (row n (cpy off k f fs)))) : wpList P ops Q (o :: rest) a w := by
  refine wpList_plain hgd fun K hK => ?_
  have hrun := run_copy_B (P := P) dT sT o.type e g off dLen dCap A sLen sCap k t n f fs hu hsz hg hA hk hfit
  unfold Oper.wp
  simp [execOp, ho, resolve, invoke, builtin, hd, hs, hrun, Result.andThen]
  exact hK _ _ h

theorem make_n (n : Nat) (hn : n ≤ 140737488355328) (w : World) : (Instr.makeSlice 22 (.int .i64 (n : Int)) (.int .i64 (n : Int))).run Tryd.prog w = .ok (.slice (some ⟨w.heap.size, 0, none⟩) n n) (w.alloc (.cells (row n fun _ => 0) 5)) := by
  have h := run_make_Row (P := Tryd.prog) 22 5 n 1 1 undB info8 (by omega) (by omega) (by omega) w
  rw [Nat.mul_one] at h
  exact h
theorem zeroMk : (Tryd.prog.info? 34).bind (·.zero) = some (.agg (mkRow (.slice none 0 0) (fun _ => 0) fun _ => 0)) := by kernel_rfl
theorem wk_built2 (A : Option Addr) (n c : Nat) (st dl of : Nat → UInt8) : Tryd.prog.built 39 [(0, .agg (mkRow (.slice A n c) st dl)), (1, .agg (row 16 of))] = some (wkRow (.slice A n c) st dl of 0) := by kernel_rfl
end Go.Proofs.YtajifdnfibojfaaDoor

namespace Go.Proofs.YtajifdnfibojfaaDoor
open Go Go.RowKit Go.Shelf
set_option maxRecDepth 100000

/-- What is sealed, and the tag behind it. -/
def outB (E : (Nat → UInt8) → Nat → UInt8) (st dl O : Nat → UInt8) (m : Nat) (fa : Nat → UInt8) (n : Nat) (fp : Nat → UInt8) : Nat → UInt8 :=
  cpy n 16 (thrTo E E st dl n O (cpy 0 n (fun _ => 0) fp) (List.range ((n + 15) / 16))).2 (tagB E st dl (thrTo E E st dl n O (cpy 0 n (fun _ => 0) fp) (List.range ((n + 15) / 16))).1.1 m fa n fp)

set_option maxHeartbeats 4000000 in
theorem Seal_w (A N A1 A2 : Option Addr) (kn kc k kc2 m c1 n c2 : Nat) (E D : (Nat → UInt8) → Nat → UInt8) (fn fa fp : Nat → UInt8) (w : World) (hcap : Cap A kn kc E D w) (hT : DeB w) (hg : 2 < w.heap.size)
    (hk : 0 < k) (hk2 : k < 16) (hN : Bts w N k kc2 fn) (ha : Bts w A1 m c1 fa) (hp : Bts w A2 n c2 fp) (hc1 : m ≤ 140737488355328) (hnn : n ≤ 140737488351232) :
    Calls Tryd.prog 8 #[.slice A kn kc, .slice N k kc2, .slice A1 m c1, .slice A2 n c2] w fun e w' =>
      ∃ g, e = .returned (.tuple #[.slice (some ⟨g, 0, none⟩) (n + 16) (n + 16), .int .i64 0]) ∧ w.heap.size ≤ g ∧ Row w' g 5 (n + 16) (outB E (E fun _ => 0) (dblB (E fun _ => 0)) (offB E k fn) m fa n fp) ∧ Below w.heap.size w w' := by
  obtain ⟨gn, on, hNA, hNc⟩ := hN.1 hk
  subst hNA
  have hbeg := begin_c A (some ⟨gn, on, none⟩) kn kc k kc2 E D w hcap hk hk2
  have HC := Lib.hid hcap
  have HA := Lib.hid ha
  have HP := Lib.hid hp
  have HNC := Lib.hid hNc
  clear hcap ha hp hN hNc
  obtain ⟨st, hst⟩ : ∃ st, st = E fun _ => 0 := ⟨_, rfl⟩
  rw [← hst] at hbeg ⊢
  obtain ⟨dl, hdl⟩ : ∃ dl, dl = dblB st := ⟨_, rfl⟩
  rw [← hdl] at hbeg ⊢
  clear hst hdl
  obtain ⟨O, hO⟩ : ∃ O, O = offB E k fn := ⟨_, rfl⟩
  obtain ⟨F0, hF0⟩ : ∃ F0, F0 = cpy 0 n (fun _ => 0) fp := ⟨_, rfl⟩
  obtain ⟨R, hR⟩ : ∃ R, R = thrTo E E st dl n O F0 (List.range ((n + 15) / 16)) := ⟨_, rfl⟩
  obtain ⟨Tg, hTg⟩ : ∃ Tg, Tg = tagB E st dl R.1.1 m fa n fp := ⟨_, rfl⟩
  have hout : outB E st dl (offB E k fn) m fa n fp = cpy n 16 R.2 Tg := by unfold outB; rw [hTg, hR, hF0, hO]
  rw [hout]
  have HO := Lib.hid hO
  have HF0 := Lib.hid hF0
  have HR := Lib.hid hR
  have HTg := Lib.hid hTg
  clear hO hF0 hR hTg hout
  go_enter Tryd.func8, Tryd.ntmps8
  go_wp2_with (go_at_fn 12)
  refine hbeg.mono ?_
  rintro e w2 ⟨rfl, hb2⟩
  clear hbeg
  go_upto_region 4 with (first | (refine wpList_alloc_Blk rfl 34 rfl _ zeroMk ?_) | (refine wpList_store_row rfl 34 _ _ rfl w2.heap.size (mkRow (.slice A kn kc) st dl) rfl rfl 34 _ (Blk.new _ _ _) (by rw [mk_size]; exact sizeMk) (by rw [mk_size, mk_size]) (mk_one _ _ _ _ _) ?_))
  have hm := (Blk.new w2 34 (mkRow (.slice none 0 0) (fun _ => 0) fun _ => 0)).setRow (mkRow (.slice A kn kc) st dl)
  have hb3 := below_setRow8 (k := w2.heap.size) (hb2.alloc hb2.size (.cells (mkRow (.slice none 0 0) (fun _ => 0) fun _ => 0) 34)) hb2.size (mkRow (.slice A kn kc) st dl)
  have hgm := hb2.size
  revert hm hb3 hgm
  clear hb2
  generalize (w2.alloc (.cells (mkRow (.slice none 0 0) (fun _ => 0) fun _ => 0) 34)).setRow w2.heap.size (mkRow (.slice A kn kc) st dl) = w3
  generalize w2.heap.size = gm
  intro hm hb3 hgm
  have hmk := make_n (n + 16) (by omega)
  rw [show ((n + 16 : Nat) : Int) = (n : Int) + 16 from rfl] at hmk
  go_upto_region 5 with (fail)
  have ho1 := Row.new w3 5 (n + 16) (fun _ => 0)
  have hm1 := hm.alloc (.cells (row (n + 16) fun _ => 0) 5)
  have hb4 := hb3.alloc hb3.size (.cells (row (n + 16) fun _ => 0) 5)
  have hgo := hb3.size
  have hgl := hm.lt
  revert ho1 hm1 hb4 hgo hgl
  clear hm hb3 hmk
  generalize w3.alloc (.cells (row (n + 16) fun _ => 0) 5) = w4
  generalize w3.heap.size = go
  intro ho1 hm1 hb4 hgo hgl
  go_upto_region 6 with (refine wpList_copy_B rfl _ _ 22 22 rfl 5 undB size8 go 0 (n + 16) (n + 16) A2 n c2 rfl rfl 5 (n + 16) (fun _ => 0) ho1 n fp (Nat.min_eq_left (by omega)).symm (HP.out.below hb4) (by omega) ?_)
  rw [← HF0.out]
  have ho2 := ho1.setRow F0
  have hm2 := hm1.setRow_far (k := go) (by omega) (row (n + 16) F0)
  have hb5 := below_setRow8 hb4 hgo (row (n + 16) F0)
  clear ho1 hm1 hb4
  revert ho2 hm2 hb5
  generalize w4.setRow go (row (n + 16) F0) = w5
  intro ho2 hm2 hb5
  refine region_made (SA (fun W' => Blk W' gm 34 (mkRow (.slice A kn kc) st dl) ∧ Row W' go 5 (n + 16) F0 ∧ Below w.heap.size w W' ∧ go + 1 ≤ W'.heap.size) fun g w' => Blk w' g 39 (wkRow (.slice none 0 0) (fun _ => 0) (fun _ => 0) (fun _ => 0) 0) ∧ go + 1 ≤ g) mixedOrders (by kernel_rfl) (by simp) ⟨⟨hm2.drew, ho2.drew, hb5.drew, ho2.lt⟩, fun _ h => by cases h⟩ ?_
  clear hm2 ho2 hb5
  refine SeqG.next (.agg (mkRow (.slice A kn kc) st dl)) (fun g og => Sure.load_Struct rfl 34 _ rfl gm 0 rfl (mkRow (.slice A kn kc) st dl) (fun w' hS => hS.1.1.whole) undMk (by rw [mk_size]; exact sizeMk)) ?_
  simp only [Act.put, List.setIfInBounds_toArray, List.set_cons_zero, List.set_cons_succ]
  refine SeqG.next (.agg (mkRow (.slice A kn kc) st dl)) (fun g og => Sure.load_Struct rfl 34 _ rfl gm 0 rfl (mkRow (.slice A kn kc) st dl) (fun w' hS => hS.1.1.whole) undMk (by rw [mk_size]; exact sizeMk)) ?_
  simp only [Act.put, List.setIfInBounds_toArray, List.set_cons_zero, List.set_cons_succ]
  refine SeqG.next ?_ (fun g og => SureA.val rfl (fun w' hS => ?_)) ?_
  rotate_left 1
  · clear hS
    go_simp
    rfl
  simp only [Act.put, List.setIfInBounds_toArray, List.set_cons_zero, List.set_cons_succ]
  refine SeqG.next (.agg (row 16 O)) (fun g og => SureA.call (f := 13) (args := #[.agg (mkRow (.slice A kn kc) st dl), .slice (some ⟨gn, on, none⟩) k kc2]) rfl (fun w' => by go_simp) (fun w' hS => (first_c A kn kc E D st dl gn on k kc2 fn w' (HC.out.below hS.2.2.1) hk hk2 (fun j hj => (hS.2.2.1.cell (p := ⟨gn, on + j, none⟩) (block_lt_of_cell (HNC.out j hj))).trans (HNC.out j hj))).mono fun e w'' h => ⟨by rw [HO.out]; exact h.1, h.2, hS.1.below h.2 hS.1.lt, hS.2.1.below h.2 hS.2.1.lt, hS.2.2.1.trans (h.2.mono hS.2.2.1.size), Nat.le_trans hS.2.2.2 h.2.size⟩)) ?_
  simp only [Act.put, List.setIfInBounds_toArray, List.set_cons_zero, List.set_cons_succ]
  refine SeqG.next (.agg (wkRow (.slice A kn kc) st dl O 0)) (fun g og => SureA.val rfl fun w' hS => exec_build 39 _ rfl (wkRow (.slice A kn kc) st dl O 0) [(0, .agg (mkRow (.slice A kn kc) st dl)), (1, .agg (row 16 O))] (by simp only [List.map_toArray, List.map_cons, List.map_nil]; rfl) (wk_built2 A kn kc st dl O) w') ?_
  simp only [Act.put, List.setIfInBounds_toArray, List.set_cons_zero, List.set_cons_succ]
  refine SeqG.make (fun g => Makes.blk rfl 39 rfl _ zeroWk (go + 1) (fun w' hS => hS.2.2.2) (fun w' hS => ⟨hS.1.alloc _, hS.2.1.alloc _, hS.2.2.1.alloc hS.2.2.1.size _, Nat.le_trans hS.2.2.2 (by simp)⟩)) ?_
  simp only [Act.put, List.setIfInBounds_toArray, List.set_cons_zero, List.set_cons_succ]
  refine SeqG.store_Blk (fun g => rfl) 39 _ _ rfl (fun g => rfl) 39 (wkRow (.slice none 0 0) (fun _ => 0) (fun _ => 0) (fun _ => 0) 0) (wkRow (.slice A kn kc) st dl O 0) (fun g => rfl) (fun g w' hS => (hS.2 g rfl).1) (by rw [wk_size]; exact sizeWk) (by rw [wk_size, wk_size]) (wk_one A kn kc st dl O 0) ?_
  intro gw W6 hS
  (try simp only [ptrV])
  obtain ⟨⟨hm6, ho6, hb6, hle6⟩, hT6⟩ := hS
  obtain ⟨hg6, hgw⟩ := hT6 gw rfl
  have hm7 := hm6.setRow_far (k := gw) (by omega) (wkRow (.slice A kn kc) st dl O 0)
  have ho7 := ho6.setRow_far (k := gw) (by omega) (wkRow (.slice A kn kc) st dl O 0)
  have hb7 := below_setRow8 hb6 (k := gw) (by omega) (wkRow (.slice A kn kc) st dl O 0)
  have hw7 := hg6.setRow (wkRow (.slice A kn kc) st dl O 0)
  clear hm6 ho6 hb6 hle6 hT6 hg6
  revert hm7 ho7 hb7 hw7
  generalize W6.setRow gw (wkRow (.slice A kn kc) st dl O 0) = w7
  intro hm7 ho7 hb7 hw7
  (try simp only [Exit.then])
  simp only [Act.put]
  go_upto_region 7 with (fail)
  have j1 : (n : Int) ≤ (n : Int) + 16 := by omega
  have j2 : 0 ≤ (n : Int) := by omega
  refine region_seq (fun W' => Blk W' gm 34 (mkRow (.slice A kn kc) st dl) ∧ Row W' go 5 (n + 16) F0 ∧ Below w.heap.size w W' ∧ Blk W' gw 39 (wkRow (.slice A kn kc) st dl O 0)) mixedOrders (by kernel_rfl) (by simp) ⟨hm7.drew, ho7.drew, hb7.drew, hw7.drew⟩ ?_
  clear hm7 ho7 hb7 hw7
  refine Seq.next ?_ (Sure.val rfl (fun w' hS => ?_)) ?_
  rotate_left 1
  · clear hS
    go_simp
    rfl
  simp only [Act.put, List.setIfInBounds_toArray, List.set_cons_zero, List.set_cons_succ]
  refine Seq.next ?_ (Sure.val rfl (fun w' hS => ?_)) ?_
  rotate_left 1
  · clear hS
    go_simp
    rfl
  simp only [Act.put, List.setIfInBounds_toArray, List.set_cons_zero, List.set_cons_succ]
  refine Seq.next ?_ (Sure.val rfl (fun w' hS => ?_)) ?_
  rotate_left 1
  · clear hS
    go_simp
    rfl
  simp only [Act.put, List.setIfInBounds_toArray, List.set_cons_zero, List.set_cons_succ]
  refine Seq.next ?_ (Sure.val rfl (fun w' hS => ?_)) ?_
  rotate_left 1
  · clear hS
    go_simp
    rfl
  simp only [Act.put, List.setIfInBounds_toArray, List.set_cons_zero, List.set_cons_succ]
  refine Seq.next (.agg (mkRow (.slice A kn kc) st dl)) (Sure.load_Struct rfl 34 _ rfl gm 0 rfl (mkRow (.slice A kn kc) st dl) (fun w' hS => hS.1.whole) undMk (by rw [mk_size]; exact sizeMk)) ?_
  simp only [Act.put, List.setIfInBounds_toArray, List.set_cons_zero, List.set_cons_succ]
  refine Seq.next ?_ (Sure.val rfl (fun w' hS => ?_)) ?_
  rotate_left 1
  · clear hS
    go_simp
    rfl
  simp only [Act.put, List.setIfInBounds_toArray, List.set_cons_zero, List.set_cons_succ]
  have hthr := fun (w' : World) (hS : Blk w' gm 34 (mkRow (.slice A kn kc) st dl) ∧ Row w' go 5 (n + 16) F0 ∧ Below w.heap.size w w' ∧ Blk w' gw 39 (wkRow (.slice A kn kc) st dl O 0)) =>
    through_c A kn kc n (n + 16) (n + 16) gw go w.heap.size E D E 15 st dl O F0 w' (fun W' hb => HC.out.below (hS.2.2.1.trans hb)) (fun W' hb x => menc_c A kn kc E D st dl x W' (HC.out.below (hS.2.2.1.trans hb))) (enters_of Tryd.func15 (by kernel_rfl) rfl)
      (hT.below hS.2.2.1 hg) hg (by omega) (by omega) (by omega) (by omega) (by omega) (by omega) hS.2.2.2 hS.2.1
  refine Seq.call_last (some 42) rfl rfl 14 #[.pointer (some ⟨gw, 0, none⟩), .slice (some ⟨go, 0, none⟩) n (n + 16), .func (.func 15) #[.agg (mkRow (.slice A kn kc) st dl)] #[]] (fun w' => by go_simp) fun w' hS => (hthr w' hS).mono ?_
  rintro e w8 ⟨rfl, ⟨bl, hw8⟩, ho8, hb8⟩
  have hb8 := hS.2.2.1.trans hb8
  clear hS hthr
  rw [← HR.out] at hw8 ho8
  refine ⟨_, rfl, ?_⟩
  simp only [Act.put, List.setIfInBounds_toArray, List.set_cons_zero, List.set_cons_succ]
  go_wp2_with (go_at_fn 16)
  have htag := tag_c A A1 A2 kn kc m c1 n c2 gw bl E D st dl R.1.1 fa fp w8 (HC.out.below hb8) (hT.below hb8 hg) (by have := hb8.size; omega) hw8 (HA.out.below hb8) (HP.out.below hb8) (by omega) (by omega)
  rw [← HTg.out] at htag
  refine htag.mono ?_
  rintro e w9 ⟨rfl, hb9⟩
  have ho9 := ho8.below hb9 ho8.lt
  have hb9 := hb8.trans (hb9.mono hb8.size)
  clear htag hw8 ho8 hb8
  go_upto_region 9 with (first | (refine wpList_alloc_Row rfl 32 rfl 16 zero16z ?_) | (refine wpList_store_Row rfl 32 _ _ rfl w9.heap.size rfl 32 16 (fun _ => 0) _ rfl (Row.new _ _ _ _) size16 ?_))
  have ht10 := (Row.new w9 32 16 (fun _ => 0)).setRow Tg
  have hl9 := ho9.lt
  have ho10 := (ho9.alloc (.cells (row 16 fun _ => 0) 32)).setRow_far (k := w9.heap.size) (by omega) (row 16 Tg)
  have hb10 := below_setRow8 (k := w9.heap.size) (hb9.alloc hb9.size (.cells (row 16 fun _ => 0) 32)) hb9.size (row 16 Tg)
  revert ht10 ho10 hb10
  clear ho9 hb9
  generalize (w9.alloc (.cells (row 16 fun _ => 0) 32)).setRow w9.heap.size (row 16 Tg) = w10
  generalize w9.heap.size = gt at *
  intro ht10 ho10 hb10
  have j3 : (n : Int) < (n : Int) + 16 := by omega
  have j4 : (n : Int).toNat = n := by omega
  have j5 : ¬ n + 16 = n := by omega
  refine region_seq (fun W' => Row W' gt 32 16 Tg ∧ Row W' go 5 (n + 16) R.2 ∧ Below w.heap.size w W') mixedOrders (by kernel_rfl) (by simp) ⟨ht10.drew, ho10.drew, hb10.drew⟩ ?_
  clear ht10 ho10 hb10
  refine Seq.next ?_ (Sure.val rfl (fun w' hS => ?_)) ?_
  rotate_left 1
  · clear hS
    go_simp
    rfl
  simp only [Act.put, List.setIfInBounds_toArray, List.set_cons_zero, List.set_cons_succ]
  refine Seq.next ?_ (Sure.val rfl (fun w' hS => ?_)) ?_
  rotate_left 1
  · clear hS
    go_simp
    rfl
  simp only [Act.put, List.setIfInBounds_toArray, List.set_cons_zero, List.set_cons_succ]
  refine Seq.next ?_ (Sure.val rfl (fun w' hS => ?_)) ?_
  rotate_left 1
  · clear hS
    go_simp
    rfl
  simp only [Act.put, List.setIfInBounds_toArray, List.set_cons_zero, List.set_cons_succ]
  refine Seq.next ?_ (Sure.val rfl (fun w' hS => ?_)) ?_
  rotate_left 1
  · clear hS
    go_simp
    rfl
  simp only [Act.put, List.setIfInBounds_toArray, List.set_cons_zero, List.set_cons_succ]
  refine Seq.next ?_ (Sure.val rfl (fun w' hS => ?_)) ?_
  rotate_left 1
  · clear hS
    go_simp
    rfl
  simp only [Act.put, List.setIfInBounds_toArray, List.set_cons_zero, List.set_cons_succ]

  refine Seq.copy_Row rfl _ _ 22 22 rfl 5 undB size8 go n 16 16 ⟨gt, 0, none⟩ 16 16 rfl rfl 5 (n + 16) R.2 (fun w' hS => hS.2.1) 16 Tg rfl (fun w' hS j hj => by rw [Addr.add_mid, Nat.zero_add]; exact hS.1.cell j hj) (by omega) fun w' hS => ?_
  have ho11 := hS.2.1.setRow (cpy n 16 R.2 Tg)
  have hb11 := below_setRow8 hS.2.2 (k := go) (by omega) (row (n + 16) (cpy n 16 R.2 Tg))
  clear hS
  revert ho11 hb11
  generalize w'.setRow go (row (n + 16) (cpy n 16 R.2 Tg)) = w11
  intro ho11 hb11
  (try simp only [Act.put, List.setIfInBounds_toArray, List.set_cons_zero, List.set_cons_succ])
  go_wp2
  go_ret2
  exact ⟨go, rfl, by omega, ho11, hb11⟩
theorem Seal_c (A N A1 A2 : Option Addr) (kn kc k kc2 m c1 n c2 : Nat) (E D : (Nat → UInt8) → Nat → UInt8) (fn fa fp : Nat → UInt8) (w : World) (hcap : Cap A kn kc E D w) (hT : DeB w) (hg : 2 < w.heap.size)
    (hk : 0 < k) (hk2 : k < 16) (hN : Bts w N k kc2 fn) (ha : Bts w A1 m c1 fa) (hp : Bts w A2 n c2 fp) (hc1 : c1 ≤ 140737488351232) (hc2 : c2 ≤ 140737488351232) :
    Calls Tryd.prog 8 #[.slice A kn kc, .slice N k kc2, .slice A1 m c1, .slice A2 n c2] w fun e w' =>
      ∃ g, e = .returned (.tuple #[.slice (some ⟨g, 0, none⟩) (n + 16) (n + 16), .int .i64 0]) ∧ w.heap.size ≤ g ∧ Row w' g 5 (n + 16) (outB E (E fun _ => 0) (dblB (E fun _ => 0)) (offB E k fn) m fa n fp) ∧ Below w.heap.size w w' :=
  Seal_w A N A1 A2 kn kc k kc2 m c1 n c2 E D fn fa fp w hcap hT hg hk hk2 hN ha hp (by have := ha.2.2; omega) (Nat.le_trans hp.2.2 hc2)
end Go.Proofs.YtajifdnfibojfaaDoor

namespace Go.Proofs.YtajifdnfibojfaaDoor
open Go Go.RowKit Go.Shelf
set_option maxRecDepth 100000

theorem run_neq16 (f g : Nat → UInt8) (w : World) : (binOp .neq 32 (.agg (row 16 f)) (.agg (row 16 g))).run Tryd.prog w = .ok (.bool (!eqb 16 f g)) w := by
  have hi : ∃ i, Tryd.prog.info? 5 = some i := by
    cases hq : Tryd.prog.info? 5 with
    | none => have := size8; rw [hq] at this; cases this
    | some i => exact ⟨i, rfl⟩
  obtain ⟨i, hi⟩ := hi
  have h := run_equalIn_array (P := Tryd.prog) (w := w) 9999 (row 16 f) (row 16 g) und16 hi
  rw [cells8, run_eqItems_row 9998 16 f g _ (fun j hj => List.mem_range.1 hj)] at h
  have h' : (Op.equalIn 10000 32 (.agg (row 16 f)) (.agg (row 16 g))).run Tryd.prog w = .ok ((List.range 16).all fun i => f i == g i) w := h
  simp only [binOp]
  simp [Op.equal, Op.maxDepth, h', eqb]

/-- What is opened: the offset behind it, and the bytes; the tag of it. -/
def opnR (E D : (Nat → UInt8) → Nat → UInt8) (st dl O : Nat → UInt8) (q : Nat) (fs : Nat → UInt8) : ((Nat → UInt8) × Nat) × (Nat → UInt8) :=
  thrTo D E st dl q O (cpy 0 q (fun _ => 0) fs) (List.range ((q + 15) / 16))
def opnT (E D : (Nat → UInt8) → Nat → UInt8) (st dl O : Nat → UInt8) (m : Nat) (fa : Nat → UInt8) (q : Nat) (fs : Nat → UInt8) : Nat → UInt8 :=
  tagB E st dl (opnR E D st dl O q fs).1.1 m fa q (opnR E D st dl O q fs).2
/-- What Open answers. -/
def Opened (E D : (Nat → UInt8) → Nat → UInt8) (O : Nat → UInt8) (m : Nat) (fa : Nat → UInt8) (q : Nat) (fs : Nat → UInt8) (w : World) (e : Ending) (w' : World) : Prop :=
  Below w.heap.size w w' ∧
    ((eqb 16 (opnT E D (E fun _ => 0) (dblB (E fun _ => 0)) O m fa q fs) (fun j => fs (q + j)) = true ∧ ∃ g, e = .returned (.tuple #[.slice (some ⟨g, 0, none⟩) q q, .int .i64 0]) ∧ w.heap.size ≤ g ∧ Row w' g 5 q (opnR E D (E fun _ => 0) (dblB (E fun _ => 0)) O q fs).2) ∨
     (eqb 16 (opnT E D (E fun _ => 0) (dblB (E fun _ => 0)) O m fa q fs) (fun j => fs (q + j)) = false ∧ e = .returned (.tuple #[.slice none 0 0, .int .i64 5])))

set_option maxHeartbeats 4000000 in
theorem Open_c (A N A1 A2 : Option Addr) (kn kc k kc2 m c1 q c2 : Nat) (E D : (Nat → UInt8) → Nat → UInt8) (fn fa fs : Nat → UInt8) (w : World) (hcap : Cap A kn kc E D w) (hT : DeB w) (hg : 2 < w.heap.size)
    (hk : 0 < k) (hk2 : k < 16) (hN : Bts w N k kc2 fn) (ha : Bts w A1 m c1 fa) (hp : Bts w A2 (q + 16) c2 fs) (hc1 : m ≤ 140737488355328) (hc2 : q + 16 ≤ 140737488355328) :
    Calls Tryd.prog 10 #[.slice A kn kc, .slice N k kc2, .slice A1 m c1, .slice A2 (q + 16) c2] w (Opened E D (offB E k fn) m fa q fs w) := by
  obtain ⟨gn, on, hNA, hNc⟩ := hN.1 hk
  subst hNA
  obtain ⟨b2, o2, hA2, hdc⟩ := hp.1 (by omega)
  subst hA2
  have hqc : q + 16 ≤ c2 := hp.2.2
  have hbeg := begin_c A (some ⟨gn, on, none⟩) kn kc k kc2 E D w hcap hk hk2
  have HC := Lib.hid hcap
  have HA := Lib.hid ha
  have HP := Lib.hid hp
  have HNC := Lib.hid hNc
  have HDC := Lib.hid hdc
  clear hcap ha hp hN hNc hdc
  unfold Opened
  obtain ⟨O, hO⟩ : ∃ O, O = offB E k fn := ⟨_, rfl⟩
  rw [← hO]
  obtain ⟨st, hst⟩ : ∃ st, st = E fun _ => 0 := ⟨_, rfl⟩
  rw [← hst] at hbeg ⊢
  obtain ⟨dl, hdl⟩ : ∃ dl, dl = dblB st := ⟨_, rfl⟩
  rw [← hdl] at hbeg ⊢
  clear hst hdl
  obtain ⟨F0, hF0⟩ : ∃ F0, F0 = cpy 0 q (fun _ => 0) fs := ⟨_, rfl⟩
  obtain ⟨R, hR⟩ : ∃ R, R = opnR E D st dl O q fs := ⟨_, rfl⟩
  obtain ⟨Tg, hTg⟩ : ∃ Tg, Tg = opnT E D st dl O m fa q fs := ⟨_, rfl⟩
  obtain ⟨T2, hT2⟩ : ∃ T2 : Nat → UInt8, T2 = fun j => fs (q + j) := ⟨_, rfl⟩
  rw [← hR, ← hTg, ← hT2]
  have hR2 : thrTo D E st dl q O F0 (List.range ((q + 15) / 16)) = R := by rw [hR, hF0]; rfl
  have hTg2 : tagB E st dl R.1.1 m fa q R.2 = Tg := by rw [hTg, hR]; rfl
  have HO := Lib.hid hO
  have HF0 := Lib.hid hF0
  have HR := Lib.hid hR2
  have HTg := Lib.hid hTg2
  have HT2 := Lib.hid hT2
  clear hO hF0 hR hTg hR2 hTg2 hT2
  have hlen : ¬ ((q : Int) + 16 < 16) := by omega
  go_enter Tryd.func10, Tryd.ntmps10
  go_wp2_with (go_at_fn 12)
  refine hbeg.mono ?_
  rintro e w2 ⟨rfl, hb2⟩
  clear hbeg
  go_upto_region 6 with (first | (refine wpList_alloc_Blk rfl 34 rfl _ zeroMk ?_) | (refine wpList_store_row rfl 34 _ _ rfl w2.heap.size (mkRow (.slice A kn kc) st dl) rfl rfl 34 _ (Blk.new _ _ _) (by rw [mk_size]; exact sizeMk) (by rw [mk_size, mk_size]) (mk_one _ _ _ _ _) ?_))
  have hm := (Blk.new w2 34 (mkRow (.slice none 0 0) (fun _ => 0) fun _ => 0)).setRow (mkRow (.slice A kn kc) st dl)
  have hb3 := below_setRow8 (k := w2.heap.size) (hb2.alloc hb2.size (.cells (mkRow (.slice none 0 0) (fun _ => 0) fun _ => 0) 34)) hb2.size (mkRow (.slice A kn kc) st dl)
  have hgm := hb2.size
  revert hm hb3 hgm
  clear hb2
  generalize (w2.alloc (.cells (mkRow (.slice none 0 0) (fun _ => 0) fun _ => 0) 34)).setRow w2.heap.size (mkRow (.slice A kn kc) st dl) = w3
  generalize w2.heap.size = gm
  intro hm hb3 hgm
  have hmk := make_n q (by omega)
  go_upto_region 7 with (fail)
  have ho1 := Row.new w3 5 q (fun _ => 0)
  have hm1 := hm.alloc (.cells (row q fun _ => 0) 5)
  have hb4 := hb3.alloc hb3.size (.cells (row q fun _ => 0) 5)
  have hgo := hb3.size
  have hgl := hm.lt
  revert ho1 hm1 hb4 hgo hgl
  clear hm hb3 hmk
  generalize w3.alloc (.cells (row q fun _ => 0) 5) = w4
  generalize w3.heap.size = go
  intro ho1 hm1 hb4 hgo hgl
  go_upto_region 8 with (refine wpList_copy_B rfl _ _ 22 22 rfl 5 undB size8 go 0 q q (some ⟨b2, o2, none⟩) (q + 16) c2 rfl rfl 5 q (fun _ => 0) ho1 q fs (Nat.min_eq_right (by omega)).symm (HP.out.below hb4) (by omega) ?_)
  rw [← HF0.out]
  have ho2 := ho1.setRow F0
  have hm2 := hm1.setRow_far (k := go) (by omega) (row q F0)
  have hb5 := below_setRow8 hb4 hgo (row q F0)
  clear ho1 hm1 hb4
  revert ho2 hm2 hb5
  generalize w4.setRow go (row q F0) = w5
  intro ho2 hm2 hb5
  refine region_made (SA (fun W' => Blk W' gm 34 (mkRow (.slice A kn kc) st dl) ∧ Row W' go 5 q F0 ∧ Below w.heap.size w W' ∧ go + 1 ≤ W'.heap.size) fun g w' => Blk w' g 39 (wkRow (.slice none 0 0) (fun _ => 0) (fun _ => 0) (fun _ => 0) 0) ∧ go + 1 ≤ g) mixedOrders (by kernel_rfl) (by simp) ⟨⟨hm2.drew, ho2.drew, hb5.drew, ho2.lt⟩, fun _ h => by cases h⟩ ?_
  clear hm2 ho2 hb5
  refine SeqG.next (.agg (mkRow (.slice A kn kc) st dl)) (fun g og => Sure.load_Struct rfl 34 _ rfl gm 0 rfl (mkRow (.slice A kn kc) st dl) (fun w' hS => hS.1.1.whole) undMk (by rw [mk_size]; exact sizeMk)) ?_
  simp only [Act.put, List.setIfInBounds_toArray, List.set_cons_zero, List.set_cons_succ]
  refine SeqG.next (.agg (mkRow (.slice A kn kc) st dl)) (fun g og => Sure.load_Struct rfl 34 _ rfl gm 0 rfl (mkRow (.slice A kn kc) st dl) (fun w' hS => hS.1.1.whole) undMk (by rw [mk_size]; exact sizeMk)) ?_
  simp only [Act.put, List.setIfInBounds_toArray, List.set_cons_zero, List.set_cons_succ]
  refine SeqG.next ?_ (fun g og => SureA.val rfl (fun w' hS => ?_)) ?_
  rotate_left 1
  · clear hS
    go_simp
    rfl
  simp only [Act.put, List.setIfInBounds_toArray, List.set_cons_zero, List.set_cons_succ]
  refine SeqG.next (.agg (row 16 O)) (fun g og => SureA.call (f := 13) (args := #[.agg (mkRow (.slice A kn kc) st dl), .slice (some ⟨gn, on, none⟩) k kc2]) rfl (fun w' => by go_simp) (fun w' hS => (first_c A kn kc E D st dl gn on k kc2 fn w' (HC.out.below hS.2.2.1) hk hk2 (fun j hj => (hS.2.2.1.cell (p := ⟨gn, on + j, none⟩) (block_lt_of_cell (HNC.out j hj))).trans (HNC.out j hj))).mono fun e w'' h => ⟨by rw [HO.out]; exact h.1, h.2, hS.1.below h.2 hS.1.lt, hS.2.1.below h.2 hS.2.1.lt, hS.2.2.1.trans (h.2.mono hS.2.2.1.size), Nat.le_trans hS.2.2.2 h.2.size⟩)) ?_
  simp only [Act.put, List.setIfInBounds_toArray, List.set_cons_zero, List.set_cons_succ]
  refine SeqG.next (.agg (wkRow (.slice A kn kc) st dl O 0)) (fun g og => SureA.val rfl fun w' hS => exec_build 39 _ rfl (wkRow (.slice A kn kc) st dl O 0) [(0, .agg (mkRow (.slice A kn kc) st dl)), (1, .agg (row 16 O))] (by simp only [List.map_toArray, List.map_cons, List.map_nil]; rfl) (wk_built2 A kn kc st dl O) w') ?_
  simp only [Act.put, List.setIfInBounds_toArray, List.set_cons_zero, List.set_cons_succ]
  refine SeqG.make (fun g => Makes.blk rfl 39 rfl _ zeroWk (go + 1) (fun w' hS => hS.2.2.2) (fun w' hS => ⟨hS.1.alloc _, hS.2.1.alloc _, hS.2.2.1.alloc hS.2.2.1.size _, Nat.le_trans hS.2.2.2 (by simp)⟩)) ?_
  simp only [Act.put, List.setIfInBounds_toArray, List.set_cons_zero, List.set_cons_succ]
  refine SeqG.store_Blk (fun g => rfl) 39 _ _ rfl (fun g => rfl) 39 (wkRow (.slice none 0 0) (fun _ => 0) (fun _ => 0) (fun _ => 0) 0) (wkRow (.slice A kn kc) st dl O 0) (fun g => rfl) (fun g w' hS => (hS.2 g rfl).1) (by rw [wk_size]; exact sizeWk) (by rw [wk_size, wk_size]) (wk_one A kn kc st dl O 0) ?_
  intro gw W6 hS
  (try simp only [ptrV])
  obtain ⟨⟨hm6, ho6, hb6, hle6⟩, hT6⟩ := hS
  obtain ⟨hg6, hgw⟩ := hT6 gw rfl
  have hm7 := hm6.setRow_far (k := gw) (by omega) (wkRow (.slice A kn kc) st dl O 0)
  have ho7 := ho6.setRow_far (k := gw) (by omega) (wkRow (.slice A kn kc) st dl O 0)
  have hb7 := below_setRow8 hb6 (k := gw) (by omega) (wkRow (.slice A kn kc) st dl O 0)
  have hw7 := hg6.setRow (wkRow (.slice A kn kc) st dl O 0)
  clear hm6 ho6 hb6 hle6 hT6 hg6
  revert hm7 ho7 hb7 hw7
  generalize W6.setRow gw (wkRow (.slice A kn kc) st dl O 0) = w7
  intro hm7 ho7 hb7 hw7
  (try simp only [Exit.then])
  simp only [Act.put]
  go_wp2_with (first | (refine wpList_load_Blk rfl 34 _ rfl gm rfl 34 _ hm7 undMk (by rw [mk_size]; exact sizeMk) ?_) | (go_at_fn 14))
  have hthr := through_c A kn kc q q q gw go w.heap.size E D D 21 st dl O F0 w7 (fun W' hb => HC.out.below (hb7.trans hb)) (fun W' hb x => mdec_c A kn kc E D st dl x W' (HC.out.below (hb7.trans hb))) (enters_of Tryd.func21 (by kernel_rfl) rfl)
      (hT.below hb7 hg) hg (by omega) (by omega) (by omega) (by omega) (by omega) (by omega) hw7 ho7
  refine hthr.mono ?_
  rintro e w8 ⟨rfl, ⟨bl, hw8⟩, ho8, hb8⟩
  have hb8 := hb7.trans hb8
  clear hthr hm7 ho7 hb7 hw7
  rw [HR.out] at hw8 ho8
  go_upto_region 10 with (fail)
  have j3 : (q : Int) ≤ (q : Int) + 16 := by omega
  have j4 : (q : Int).toNat = q := by omega
  have j5 : ¬ c2 = q := by omega
  have j6 : 0 ≤ (q : Int) := by omega
  have j7 : q + 16 - q = 16 := by omega
  cases hq : eqb 16 Tg T2 with
  | true =>
    have eN : ∀ w : World, (binOp .neq 32 (.agg (row 16 Tg)) (.agg (row 16 T2))).run Tryd.prog w = .ok (.bool false) w := fun w => by rw [run_neq16, hq]; rfl
    refine region_seq (fun W' => Blk W' gw 39 (wkRow (.slice A kn kc) st dl R.1.1 bl) ∧ Row W' go 5 q R.2 ∧ Below w.heap.size w W') mixedOrders (by kernel_rfl) (by simp) ⟨hw8.drew, ho8.drew, hb8.drew⟩ ?_
    clear hw8 ho8 hb8
    refine Seq.next ?_ (Sure.val rfl (fun w' hS => ?_)) ?_
    rotate_left 1
    · clear hS
      go_simp
      rfl
    simp only [Act.put, List.setIfInBounds_toArray, List.set_cons_zero, List.set_cons_succ]
    refine Seq.next ?_ (Sure.val rfl (fun w' hS => ?_)) ?_
    rotate_left 1
    · clear hS
      go_simp
      rfl
    simp only [Act.put, List.setIfInBounds_toArray, List.set_cons_zero, List.set_cons_succ]
    refine Seq.next (.agg (row 16 Tg)) (Sure.call (f := 16) (args := #[.pointer (some ⟨gw, 0, none⟩), .slice A1 m c1, .slice (some ⟨go, 0, none⟩) q q]) rfl (fun w' => by go_simp) (fun w' hS => (tag_c A A1 (some ⟨go, 0, none⟩) kn kc m c1 q q gw bl E D st dl R.1.1 fa R.2 w' (HC.out.below hS.2.2) (hT.below hS.2.2 hg) (by have := hS.2.2.size; omega) hS.1 (HA.out.below hS.2.2) (Bts.of_cells (fun j hj => by rw [Nat.zero_add]; exact hS.2.1.cell j hj) (Nat.le_refl _)) (by omega) (by omega)).mono fun e w'' h => ⟨by rw [← HTg.out]; exact h.1, hS.1.below h.2 hS.1.lt, hS.2.1.below h.2 hS.2.1.lt, hS.2.2.trans (h.2.mono hS.2.2.size)⟩)) ?_
    simp only [Act.put, List.setIfInBounds_toArray, List.set_cons_zero, List.set_cons_succ]
    refine Seq.next ?_ (Sure.val rfl (fun w' hS => ?_)) ?_
    rotate_left 1
    · clear hS
      go_simp
      rfl
    simp only [Act.put, List.setIfInBounds_toArray, List.set_cons_zero, List.set_cons_succ]
    refine Seq.next ?_ (Sure.val rfl (fun w' hS => ?_)) ?_
    rotate_left 1
    · clear hS
      go_simp
      rfl
    simp only [Act.put, List.setIfInBounds_toArray, List.set_cons_zero, List.set_cons_succ]
    refine Seq.next ?_ (Sure.val rfl (fun w' hS => ?_)) ?_
    rotate_left 1
    · clear hS
      go_simp
      rfl
    simp only [Act.put, List.setIfInBounds_toArray, List.set_cons_zero, List.set_cons_succ]
    refine Seq.next ?_ (Sure.val rfl (fun w' hS => ?_)) ?_
    rotate_left 1
    · clear hS
      go_simp
      rfl
    simp only [Act.put, List.setIfInBounds_toArray, List.set_cons_zero, List.set_cons_succ]
    refine Seq.next ?_ (Sure.val rfl (fun w' hS => ?_)) ?_
    rotate_left 1
    · clear hS
      go_simp
      rfl
    simp only [Act.put, List.setIfInBounds_toArray, List.set_cons_zero, List.set_cons_succ]
    refine Seq.next (.agg (row 16 T2)) (Sure.load_Part rfl 32 _ rfl b2 (o2 + q) rfl 16 T2 _ (fun w' hS => range_cells fun j hj => by rw [HT2.out, Nat.add_assoc]; exact (hS.2.2.cell (p := ⟨b2, o2 + (q + j), none⟩) (block_lt_of_cell (HDC.out (q + j) (by omega)))).trans (HDC.out (q + j) (by omega))) und16 size16) ?_
    simp only [Act.put, List.setIfInBounds_toArray, List.set_cons_zero, List.set_cons_succ]
    refine Seq.last rfl fun w' hS => ?_
    go_simp
    obtain ⟨hw9, ho9, hb9⟩ := hS
    go_wp2
    go_ret2
    exact ⟨hb9, .inl ⟨hq, go, rfl, by omega, ho9⟩⟩
  | false =>
    have eN : ∀ w : World, (binOp .neq 32 (.agg (row 16 Tg)) (.agg (row 16 T2))).run Tryd.prog w = .ok (.bool true) w := fun w => by rw [run_neq16, hq]; rfl
    refine region_seq (fun W' => Blk W' gw 39 (wkRow (.slice A kn kc) st dl R.1.1 bl) ∧ Row W' go 5 q R.2 ∧ Below w.heap.size w W') mixedOrders (by kernel_rfl) (by simp) ⟨hw8.drew, ho8.drew, hb8.drew⟩ ?_
    clear hw8 ho8 hb8
    refine Seq.next ?_ (Sure.val rfl (fun w' hS => ?_)) ?_
    rotate_left 1
    · clear hS
      go_simp
      rfl
    simp only [Act.put, List.setIfInBounds_toArray, List.set_cons_zero, List.set_cons_succ]
    refine Seq.next ?_ (Sure.val rfl (fun w' hS => ?_)) ?_
    rotate_left 1
    · clear hS
      go_simp
      rfl
    simp only [Act.put, List.setIfInBounds_toArray, List.set_cons_zero, List.set_cons_succ]
    refine Seq.next (.agg (row 16 Tg)) (Sure.call (f := 16) (args := #[.pointer (some ⟨gw, 0, none⟩), .slice A1 m c1, .slice (some ⟨go, 0, none⟩) q q]) rfl (fun w' => by go_simp) (fun w' hS => (tag_c A A1 (some ⟨go, 0, none⟩) kn kc m c1 q q gw bl E D st dl R.1.1 fa R.2 w' (HC.out.below hS.2.2) (hT.below hS.2.2 hg) (by have := hS.2.2.size; omega) hS.1 (HA.out.below hS.2.2) (Bts.of_cells (fun j hj => by rw [Nat.zero_add]; exact hS.2.1.cell j hj) (Nat.le_refl _)) (by omega) (by omega)).mono fun e w'' h => ⟨by rw [← HTg.out]; exact h.1, hS.1.below h.2 hS.1.lt, hS.2.1.below h.2 hS.2.1.lt, hS.2.2.trans (h.2.mono hS.2.2.size)⟩)) ?_
    simp only [Act.put, List.setIfInBounds_toArray, List.set_cons_zero, List.set_cons_succ]
    refine Seq.next ?_ (Sure.val rfl (fun w' hS => ?_)) ?_
    rotate_left 1
    · clear hS
      go_simp
      rfl
    simp only [Act.put, List.setIfInBounds_toArray, List.set_cons_zero, List.set_cons_succ]
    refine Seq.next ?_ (Sure.val rfl (fun w' hS => ?_)) ?_
    rotate_left 1
    · clear hS
      go_simp
      rfl
    simp only [Act.put, List.setIfInBounds_toArray, List.set_cons_zero, List.set_cons_succ]
    refine Seq.next ?_ (Sure.val rfl (fun w' hS => ?_)) ?_
    rotate_left 1
    · clear hS
      go_simp
      rfl
    simp only [Act.put, List.setIfInBounds_toArray, List.set_cons_zero, List.set_cons_succ]
    refine Seq.next ?_ (Sure.val rfl (fun w' hS => ?_)) ?_
    rotate_left 1
    · clear hS
      go_simp
      rfl
    simp only [Act.put, List.setIfInBounds_toArray, List.set_cons_zero, List.set_cons_succ]
    refine Seq.next ?_ (Sure.val rfl (fun w' hS => ?_)) ?_
    rotate_left 1
    · clear hS
      go_simp
      rfl
    simp only [Act.put, List.setIfInBounds_toArray, List.set_cons_zero, List.set_cons_succ]
    refine Seq.next (.agg (row 16 T2)) (Sure.load_Part rfl 32 _ rfl b2 (o2 + q) rfl 16 T2 _ (fun w' hS => range_cells fun j hj => by rw [HT2.out, Nat.add_assoc]; exact (hS.2.2.cell (p := ⟨b2, o2 + (q + j), none⟩) (block_lt_of_cell (HDC.out (q + j) (by omega)))).trans (HDC.out (q + j) (by omega))) und16 size16) ?_
    simp only [Act.put, List.setIfInBounds_toArray, List.set_cons_zero, List.set_cons_succ]
    refine Seq.last rfl fun w' hS => ?_
    go_simp
    obtain ⟨hw9, ho9, hb9⟩ := hS
    go_wp2
    go_ret2
    exact ⟨hb9, .inr ⟨hq, rfl⟩⟩
end Go.Proofs.YtajifdnfibojfaaDoor

namespace Go.Proofs.YtajifdnfibojfaaDoor
open Go Go.RowKit
set_option maxRecDepth 100000

set_option maxHeartbeats 2000000 in
theorem Seal_bad (A N A1 A2 : Option Addr) (kn kc k kc2 m c1 n c2 : Nat) (w : World)
    (hbeg : Calls Tryd.prog 12 #[.slice A kn kc, .slice N k kc2] w fun e w' => e = .returned (.tuple #[.agg (mkRow (.slice none 0 0) (fun _ => 0) fun _ => 0), .int .i64 1]) ∧ Below w.heap.size w w') :
    Calls Tryd.prog 8 #[.slice A kn kc, .slice N k kc2, .slice A1 m c1, .slice A2 n c2] w fun e w' => e = .returned (.tuple #[.slice none 0 0, .int .i64 1]) ∧ Below w.heap.size w w' := by
  go_enter Tryd.func8, Tryd.ntmps8
  go_wp2_with (go_at_fn 12)
  refine hbeg.mono ?_
  rintro e w2 ⟨rfl, hb2⟩
  clear hbeg
  go_wp2_with (first | (refine wpList_alloc_Blk rfl 34 rfl _ zeroMk ?_) | (refine wpList_store_row rfl 34 _ _ rfl w2.heap.size (mkRow (.slice none 0 0) (fun _ => 0) fun _ => 0) rfl rfl 34 _ (Blk.new _ _ _) (by rw [mk_size]; exact sizeMk) (by simp only [mk_size]) (mk_one _ _ _ _ _) ?_))
  exact bodyPost_ret (results_tmp2 rfl _ _ _) rfl ⟨rfl, below_setRow8 (k := w2.heap.size) (hb2.alloc hb2.size _) hb2.size _⟩

set_option maxHeartbeats 2000000 in
theorem Open_bad (A N A1 A2 : Option Addr) (kn kc k kc2 m c1 n c2 : Nat) (w : World)
    (hbeg : Calls Tryd.prog 12 #[.slice A kn kc, .slice N k kc2] w fun e w' => e = .returned (.tuple #[.agg (mkRow (.slice none 0 0) (fun _ => 0) fun _ => 0), .int .i64 1]) ∧ Below w.heap.size w w') :
    Calls Tryd.prog 10 #[.slice A kn kc, .slice N k kc2, .slice A1 m c1, .slice A2 n c2] w fun e w' => e = .returned (.tuple #[.slice none 0 0, .int .i64 1]) ∧ Below w.heap.size w w' := by
  go_enter Tryd.func10, Tryd.ntmps10
  go_wp2_with (go_at_fn 12)
  refine hbeg.mono ?_
  rintro e w2 ⟨rfl, hb2⟩
  clear hbeg
  go_wp2_with (first | (refine wpList_alloc_Blk rfl 34 rfl _ zeroMk ?_) | (refine wpList_store_row rfl 34 _ _ rfl w2.heap.size (mkRow (.slice none 0 0) (fun _ => 0) fun _ => 0) rfl rfl 34 _ (Blk.new _ _ _) (by rw [mk_size]; exact sizeMk) (by simp only [mk_size]) (mk_one _ _ _ _ _) ?_))
  exact bodyPost_ret (results_tmp2 rfl _ _ _) rfl ⟨rfl, below_setRow8 (k := w2.heap.size) (hb2.alloc hb2.size _) hb2.size _⟩

set_option maxHeartbeats 2000000 in
theorem Open_few (A N A1 A2 : Option Addr) (kn kc k kc2 m c1 n c2 : Nat) (E D : (Nat → UInt8) → Nat → UInt8) (w : World) (hcap : Cap A kn kc E D w) (hk : 0 < k) (hk2 : k < 16) (hn : n < 16) :
    Calls Tryd.prog 10 #[.slice A kn kc, .slice N k kc2, .slice A1 m c1, .slice A2 n c2] w fun e w' => e = .returned (.tuple #[.slice none 0 0, .int .i64 5]) ∧ Below w.heap.size w w' := by
  have hbeg := begin_c A N kn kc k kc2 E D w hcap hk hk2
  have hn' : (n : Int) < 16 := by omega
  obtain ⟨st, hst⟩ : ∃ st, st = E fun _ => 0 := ⟨_, rfl⟩
  rw [← hst] at hbeg
  clear hcap hst
  go_enter Tryd.func10, Tryd.ntmps10
  go_wp2_with (go_at_fn 12)
  refine hbeg.mono ?_
  rintro e w2 ⟨rfl, hb2⟩
  clear hbeg
  go_wp2_with (first | (refine wpList_alloc_Blk rfl 34 rfl _ zeroMk ?_) | (refine wpList_store_row rfl 34 _ _ rfl w2.heap.size (mkRow (.slice A kn kc) st (dblB st)) rfl rfl 34 _ (Blk.new _ _ _) (by rw [mk_size]; exact sizeMk) (by simp only [mk_size]) (mk_one _ _ _ _ _) ?_))
  exact bodyPost_ret (results_tmp2 rfl _ _ _) rfl ⟨rfl, below_setRow8 (k := w2.heap.size) (hb2.alloc hb2.size _) hb2.size _⟩
end Go.Proofs.YtajifdnfibojfaaDoor
