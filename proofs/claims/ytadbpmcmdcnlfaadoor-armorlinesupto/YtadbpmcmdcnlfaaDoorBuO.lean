/- What a builder's methods do with its buffer; a builder in memory. Plain theorems, over any program. -/
import Derived.Test.YtadbpmcmdcnlfaaDoorOpS
namespace Go.Proofs.YtadbpmcmdcnlfaaDoor
open Go Go.RowKit

theorem strCells_flat (m : List UInt8) : Lib.strCells (strL m) = flat cByte m := bytes_flat m
theorem byteCells_flat (m : List UInt8) : Lib.byteCells m = flat cByte m := bytes_flat m
section
variable {P : Program} {a : Act} {o : Oper} {w w0 : World} {R : List Nat} {Hs : List Hl} {v : Value} {x y : Operand} {t t2 ty ty2 e : TypeId} {l m : List UInt8} {g off : Nat} {E : Hl}
/-- append, of a string's bytes. -/
theorem smAppS (ho : o.op = .call { callee := .builtin .append, args := #[x, y], argTypes := #[ty, ty2] })
    (hu : P.underlying ty = some (.slice e)) (hu2 : P.underlying ty2 = some .string) (hi : (P.info? e).map (fun i => (i.zero, i.size, i.bytes)) = some (some (.int .u8 0), 1, 1))
    (hx : a.eval x = v) (hO : OwnT cByte e v l E) (hy : a.eval y = .string (strL m)) (hbytes : l.length + m.length ≤ 140737488355328) :
    Small P a o E (fun _ => True) (fun v' E' => OwnT cByte e v' (l ++ m) E' ∧ (v' = v ∨ 0 < (l ++ m).length)) := fun w hE _ => by
  obtain ⟨i, hi', h2⟩ := Option.map_eq_some_iff.1 hi
  simp only [Prod.mk.injEq] at h2
  obtain ⟨hz, hs1, hb1⟩ := h2
  have hmax : maxLen = 9223372036854775807 := rfl
  have hsz := strL_size m
  have hll : (flat cByte l).length = l.length := by rw [flat_len]; exact Nat.mul_one _
  have hlm : (flat cByte m).length = m.length := by rw [flat_len]; exact Nat.mul_one _
  have hlen : (flat cByte (l ++ m)).length = (l ++ m).length * cByte.sz := flat_len _
  suffices h : ∃ v' w' E', (Builtin.append_ #[ty, ty2] o.type #[v, .string (strL m)]).run P w = .ok v' w' ∧ (OwnT cByte e v' (l ++ m) E' ∧ (v' = v ∨ 0 < (l ++ m).length)) ∧ Hold w (bks E) E' w' by
    obtain ⟨v', w', E', hr, hp, hh⟩ := h
    unfold execOp
    simp only [ho, resolve, invoke, builtin, Sem.run_bind, Sem.run_pure, Result.andThen_ok, List.map_toArray, List.map_cons, List.map_nil, hx, hy, hr]
    exact ⟨E', hp, hh⟩
  have hhold := Has.hold hE
  have grown : ∀ (old : Nat), old < l.length + m.length → ∀ (B : List Nat),
      OwnT cByte e (.slice (some ⟨w.heap.size, 0, none⟩) (l.length + m.length) (grownCap w (l.length + m.length) old e)) (l ++ m) [bl w.heap.size e ((flat cByte l).toArray ++ (Lib.strCells (strL m)).toArray ++ Builtin.zeroCells (Value.int .u8 0).cells (grownCap w (l.length + m.length) old e - (l.length + m.length)))] ∧
      Hold w B [bl w.heap.size e ((flat cByte l).toArray ++ (Lib.strCells (strL m)).toArray ++ Builtin.zeroCells (Value.int .u8 0).cells (grownCap w (l.length + m.length) old e - (l.length + m.length)))] (w.drew.alloc (.cells ((flat cByte l).toArray ++ (Lib.strCells (strL m)).toArray ++ Builtin.zeroCells (Value.int .u8 0).cells (grownCap w (l.length + m.length) old e - (l.length + m.length))) e)) := by
    intro old ho' B
    have hge := grownCap_ge w (l.length + m.length) old e
    have hcm : grownCap w (l.length + m.length) old e ≤ maxLen := grownCap_le_maxLen w (l.length + m.length) old e (by omega)
    have hz1 : (Value.int IntKind.u8 0).cells.size = 1 := rfl
    have hB : Bk cByte (grownCap w (l.length + m.length) old e) ((flat cByte l).toArray ++ (Lib.strCells (strL m)).toArray ++ Builtin.zeroCells (Value.int .u8 0).cells (grownCap w (l.length + m.length) old e - (l.length + m.length))) (l ++ m) := by
      refine ⟨by rw [List.length_append]; exact hge, hcm, ?_, ?_⟩
      · simp only [Array.size_append, List.size_toArray, size_zeroCells, hz1, hll, Lib.strCells_length, hsz]
        show _ = _ * 1
        omega
      · rw [strCells_flat]
        simp only [Array.toList_append, List.append_assoc]
        rw [← List.append_assoc, ← flat_append, ← hlen]
        exact List.take_left
    refine ⟨hB.own e w.heap.size (by rw [List.length_append]), ?_⟩
    have := Has.new w.drew (.cells ((flat cByte l).toArray ++ (Lib.strCells (strL m)).toArray ++ Builtin.zeroCells (Value.int .u8 0).cells (grownCap w (l.length + m.length) old e - (l.length + m.length))) e)
    exact ⟨this.os, this.tape, this.output, this.size, this.blk, this.ne, fun x hx => (this.own x hx).imp id (fun h => (by cases h)), fun k hk _ => this.frame k hk (by simp)⟩
  rcases hO.cases with ⟨rfl, rfl, rfl⟩ | ⟨g, cap, cur, rfl, rfl, hB⟩
  · by_cases hm : m = []
    · subst hm
      refine ⟨.slice none 0 0, w, [], ?_, ⟨OwnT.nil _ _, .inl rfl⟩, hhold⟩
      have hs0 : (strL []).size = 0 := rfl
      have hf := Lib.run_firstCells_string (P := P) w 1 (strL [])
      rw [hs0] at hf
      simp [Builtin.append_, run_underlying hu, run_underlying hu2, sizeOf, typeInfo, hi', hs1, Builtin.lenOf, hs0, hf]
    · have hm0 : 0 < m.length := List.length_pos_iff.2 hm
      have hr := run_append_nil_string (P := P) w ty ty2 o.type e i (.int .u8 0) hu hu2 hi' hz (strL m) (by rw [hsz]; omega) (by rw [hsz]; simp only [List.length_nil, Nat.zero_add] at hbytes; omega) (by rw [hb1, hsz]; simp only [List.length_nil, Nat.zero_add] at hbytes; omega)
      have hgr := grown 0 (by simp; omega) (bks [])
      have e1 : ((strL m).data.map fun b => Value.int .u8 b.toNat) = (Lib.strCells (strL m)).toArray := by
        apply Array.ext'
        simp [Lib.strCells]
      rw [e1, hsz] at hr
      have e0 : (flat cByte ([] : List UInt8)).toArray = #[] := rfl
      simp only [List.length_nil, Nat.zero_add, List.nil_append, e0, Array.empty_append] at hgr
      exact ⟨_, _, _, hr, ⟨by simpa using hgr.1, .inr (by simpa using hm0)⟩, hgr.2⟩
  · have hg : w.heap[g]? = some (.cells cur e (0, 0)) := hE.blk (g, _) (by simp)
    have hcs : cur.size = cap := by have := hB.size; rw [this]; exact Nat.mul_one _
    by_cases hroom : l.length + m.length ≤ cap
    · have hr := Lib.run_append_room_string (P := P) w ty ty2 o.type e i hu hu2 hi' hs1 g l.length cap cur hg (strL m) (by rw [hsz]; exact hroom) (by rw [hsz]; omega)
      rw [hsz, strCells_flat] at hr
      have hp := hhold.setRow 0 rfl (cur.toList.take l.length ++ flat cByte m ++ cur.toList.drop (l.length + m.length)).toArray
      have ht : cur.toList.take l.length = flat cByte l := by
        have := hB.take
        rwa [show l.length * cByte.sz = l.length from Nat.mul_one _] at this
      rw [ht] at hr hp
      refine ⟨_, _, _, hr, ⟨?_, ?_⟩, hp⟩
      · refine Bk.own (cap := cap) ⟨by rw [List.length_append]; exact hroom, hB.max, ?_, ?_⟩ e g (by rw [List.length_append])
        · simp only [List.size_toArray, List.length_append, List.length_drop, Array.length_toList, hll, hlm, hcs]
          show _ = cap * 1
          omega
        · rw [← hlen, flat_append]
          exact List.take_left
      · by_cases hm : m = []
        · subst hm; left; simp
        · right; rw [List.length_append]; have := List.length_pos_iff.2 hm; omega
    · have holds : ∀ j u, (flat cByte l)[j]? = some u → w.cell? ((⟨g, 0, none⟩ : Addr).add j) = some u := fun j u hj => by
        rw [add_zero_at, cell_of_row w g j cur e (0, 0) hg]
        have ht := hB.take
        rw [← ht, List.getElem?_take] at hj
        split at hj
        · simpa using hj
        · cases hj
      have hr := Lib.run_append_grow_string (P := P) w ty ty2 o.type e i (.int .u8 0) hu hu2 hi' hz ⟨g, 0, none⟩ l.length cap (flat cByte l) (by rw [hs1]; exact flat_len l) holds (strL m) (by rw [hsz]; omega) (by rw [hsz]; omega) (by rw [hb1, hsz]; exact growslice_fits (by omega) (by omega))
      rw [hsz] at hr
      have hgr := grown cap (by omega) (bks [bl g e cur])
      refine ⟨_, _, _, hr, ⟨hgr.1, .inr ?_⟩, hgr.2⟩
      rw [List.length_append]
      have := hB.le
      omega
/-- unsafe.SliceData, of a buffer. -/
theorem opSliceDataN {ts : Array TypeId} (ho : o.op = .call { callee := .builtin .unsafeSliceData, args := #[x], argTypes := ts }) {n c : Nat} (hx : a.eval x = .slice none n c) : (execOp a.eval o).run P w = .ok (.value (.pointer none)) w := by
  have h := Lib.run_unsafeSliceData_nil (P := P) w ts o.type n c
  unfold execOp
  simp only [ho, resolve, invoke, builtin, Sem.run_bind, Sem.run_pure, Result.andThen_ok, List.map_toArray, List.map_cons, List.map_nil, hx, h]
theorem opSliceData {ts : Array TypeId} (ho : o.op = .call { callee := .builtin .unsafeSliceData, args := #[x], argTypes := ts }) {n c : Nat} {p : Addr} (hx : a.eval x = .slice (some p) n c) (hc : 0 < c) : (execOp a.eval o).run P w = .ok (.value (.pointer (some p))) w := by
  have h := Lib.run_unsafeSliceData_row (P := P) w ts o.type p n c (by omega)
  unfold execOp
  simp only [ho, resolve, invoke, builtin, Sem.run_bind, Sem.run_pure, Result.andThen_ok, List.map_toArray, List.map_cons, List.map_nil, hx, h]
theorem strL_nil : (ByteArray.empty) = strL [] := rfl
/-- unsafe.String, of no byte. -/
theorem opUnsafeStr0 {ts : Array TypeId} (hts : ts.size = 2) (ho : o.op = .call { callee := .builtin .unsafeString, args := #[x, y], argTypes := ts }) {p : Option Addr} (hx : a.eval x = .pointer p) (hy : a.eval y = .int .i64 0) : (execOp a.eval o).run P w = .ok (.value (.string (strL []))) w := by
  obtain ⟨pt, it, rfl⟩ : ∃ pt it, ts = #[pt, it] := by
    obtain ⟨⟨⟩⟩ := ts
    · simp at hts
    · rename_i p1 r
      match r, hts with
      | [p2], _ => exact ⟨p1, p2, rfl⟩
  have h := Lib.run_unsafeString_none (P := P) w pt it o.type p
  unfold execOp
  simp only [ho, resolve, invoke, builtin, Sem.run_bind, Sem.run_pure, Result.andThen_ok, List.map_toArray, List.map_cons, List.map_nil, hx, hy, h]
  rfl
theorem hold_freeze {cur : Array Value} (hE : Has [bl g e cur] w) (n : Nat) : ∃ fr, Hold w (bks [bl g e cur]) [(g, .cells cur e fr)] (w.freeze ⟨g, 0, none⟩ n) := by
  have hg : w.heap[g]? = some (.cells cur e (0, 0)) := hE.blk (g, _) (by simp)
  by_cases hn : n = 0
  · refine ⟨(0, 0), ?_⟩
    have e : w.freeze ⟨g, 0, none⟩ n = w := by unfold World.freeze; rw [if_pos hn]
    rw [e]; exact Has.hold hE
  · refine ⟨(0, 0 + n), ?_⟩
    have hfz : w.freeze ⟨g, 0, none⟩ n = { w with heap := w.heap.modify g fun
        | .cells c elem (lo, hi) => .cells c elem (if lo == hi then (0, 0 + n) else (min lo 0, max hi (0 + n)))
        | o => o } := by unfold World.freeze; rw [if_neg hn]; rfl
    rw [hfz]
    have := (Has.hold hE).upd (w' := { w with heap := w.heap.modify g fun
        | .cells c elem (lo, hi) => .cells c elem (if lo == hi then (0, 0 + n) else (min lo 0, max hi (0 + n)))
        | o => o }) 0 (o' := .cells cur e (0, 0 + n)) rfl rfl rfl rfl (by simp) (by simp [Array.getElem?_modify, hg]) (fun k _ hk => by simp [Array.getElem?_modify, Ne.symm hk])
    exact this
/-- unsafe.String, of a buffer: its bytes; they may not be written any more. -/
theorem smUnsafeStr {cap : Nat} {cur : Array Value} {pt it : TypeId} (ho : o.op = .call { callee := .builtin .unsafeString, args := #[x, y], argTypes := #[pt, it] }) (hu : P.underlying pt = some (.pointer e)) (hc : P.cellsOf e = 1) (hx : a.eval x = .pointer (some ⟨g, 0, none⟩)) (hy : a.eval y = .int .i64 (l.length : Int)) (hB : Bk cByte cap cur l) :
    Small P a o [bl g e cur] (fun _ => True) (fun v E' => v = .string (strL l) ∧ ∃ fr, E' = [(g, .cells cur e fr)]) := fun w hE _ => by
  have hg : w.heap[g]? = some (.cells cur e (0, 0)) := hE.blk (g, _) (by simp)
  have hmax : maxLen = 9223372036854775807 := rfl
  have hcs : cur.size = cap := by have := hB.size; rw [this]; exact Nat.mul_one _
  by_cases h0 : l = []
  · subst h0
    have hy' : a.eval y = .int .i64 0 := hy
    rw [opUnsafeStr0 (P := P) (w := w) (ts := #[pt, it]) rfl ho hx hy']
    obtain ⟨fr, hf⟩ := hold_freeze hE 0
    refine ⟨_, ⟨rfl, fr, rfl⟩, ?_⟩
    have e2 : w.freeze ⟨g, 0, none⟩ 0 = w := by unfold World.freeze; rw [if_pos rfl]
    rw [e2] at hf; exact hf
  · have h := Lib.run_unsafeString_row (P := P) w pt it o.type e hu hc g cur.size (shape_blk hg) l h0 (by have := hB.le; omega) (by have := hB.le; have := hB.max; omega) (fun j c hj => by
      rw [add_zero_at, cell_of_row w g j cur e (0, 0) hg]
      have := hB.cell j 0 (u := by8 c) hj rfl
      rw [show j * cByte.sz + 0 = j from Nat.mul_one j] at this
      exact this)
    obtain ⟨fr, hf⟩ := hold_freeze hE l.length
    unfold execOp
    simp only [ho, resolve, invoke, builtin, Sem.run_bind, Sem.run_pure, Result.andThen_ok, List.map_toArray, List.map_cons, List.map_nil, hx, hy, h]
    exact ⟨_, ⟨rfl, fr, rfl⟩, hf⟩
end
/-- bytealg.MakeNoZero. -/
theorem smMakeNoZero {P : Program} {a : Act} {o : Oper} {f : FuncId} {fn : Func} {x : Operand} {ty e : TypeId} {n : Nat} {ts ps : Array TypeId} (ho : o.op = .call { callee := .value (.func f), args := #[x], argTypes := ts }) (hf : P.funcs[f]? = some fn) (hn : (fn.name == "runtime.NumGoroutine") = false) (hb : fn.body.isNone = true) (h0 : Extern.findNext fn = none) (he : Extern.find fn = some (Extern.BytealgMakeNoZero.makeNoZero ps #[ty]))
    (hu : P.underlying ty = some (.slice e)) (hx : a.eval x = .int .i64 (n : Int)) (hle : n ≤ 140737488355328) :
    Small P a o [] (fun _ => True) (fun v E' => ∃ g cs, v = .slice (some ⟨g, 0, none⟩) n cs.size ∧ E' = [bl g e cs] ∧ n ≤ cs.size ∧ cs.size ≤ maxLen) := fun w _ _ => by
  have hmax : maxLen = 9223372036854775807 := rfl
  obtain ⟨cs, hr, h1, h2⟩ := Lib.run_makeNoZero (P := P) w ps ty e hu n (by omega)
  have h := opExtern (P := P) (a := a) (w := w) (xs := [x]) (vs := [.int .i64 (n : Int)]) (by exact ho) hf hn hb h0 he (Evs.cons hx Evs.nil) hr
  rw [h]
  refine ⟨_, ⟨w.heap.size, cs, rfl, rfl, h1, h2 (by omega)⟩, ?_⟩
  have := Has.new w.drew.drew (.cells cs e)
  exact ⟨this.os, this.tape, this.output, this.size, this.blk, this.ne, this.own, fun k hk hR => this.frame k hk hR⟩
/-- A builder, in block g: what has been written; its blocks. -/
def BuAt (tb tu : TypeId) (g : Nat) (l : List UInt8) (E : Hl) : Prop :=
  ∃ p A c F, (p = none ∨ p = some ⟨g, 0, none⟩) ∧ (A = none ∨ 0 < c) ∧ E = ([[bl g tb #[.pointer p, .slice A l.length c]], F] : List Hl).flatten ∧ OwnT cByte tu (.slice A l.length c) l F
theorem BuAt.new (tb tu : TypeId) (g : Nat) : BuAt tb tu g [] [bl g tb #[.pointer none, .slice none 0 0]] := ⟨none, none, 0, [], .inl rfl, .inl rfl, by simp, OwnT.nil _ _⟩
theorem own_room {tu : TypeId} {A : Option Addr} {n c : Nat} {l : List UInt8} {F : Hl} (h : OwnT cByte tu (.slice A n c) l F) : A = none ∨ l.length ≤ c := by
  rcases h.cases with ⟨h1, _, _⟩ | ⟨g, cap, cur, h1, _, hB⟩
  · injection h1 with h1 _ _; exact .inl h1
  · injection h1 with _ _ h3; rw [h3]; exact .inr hB.le
theorem BuAt.mk {tb tu : TypeId} {g n c : Nat} {p A : Option Addr} {l : List UInt8} {F : Hl} (hp : p = none ∨ p = some ⟨g, 0, none⟩) (hn : l.length = n) (hO : OwnT cByte tu (.slice A n c) l F) (h : 0 < l.length ∨ A = none ∨ 0 < c) : BuAt tb tu g l ([[bl g tb #[.pointer p, .slice A n c]], F] : List Hl).flatten := by
  subst hn
  refine ⟨p, A, c, F, hp, ?_, rfl, hO⟩
  rcases h with h | h
  · rcases own_room hO with h1 | h1
    · exact .inl h1
    · exact .inr (by omega)
  · exact h
end Go.Proofs.YtadbpmcmdcnlfaaDoor
