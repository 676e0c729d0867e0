/- What a vault keeps, also where the power goes. -/
import Derived.Test.YtglplhbhpaegeaaVk
namespace Go.Proofs.Ytglplhbhpaegeaa
open Go Go.RowKit

theorem unsec_part (p : List UInt8) : ∀ i, i ≤ p.length / 64 → unsec ((secs p).take i) = p.take (i * 64)
  | 0, _ => by simp [unsec]
  | i + 1, hi => by
    rw [unsec_take (secs_get (b := p) (i := i) (by omega)), unsec_part p i (by omega), ← lst_cutF (by omega), show (i + 1) * 64 = i * 64 + 64 by omega, List.take_add]
theorem unsec_secs {p : List UInt8} (h : p.length % 64 = 0) : unsec (secs p) = p := by
  have := unsec_part p (p.length / 64) (Nat.le_refl _)
  rw [List.take_of_length_le (by rw [secs_len]; exact Nat.le_refl _), List.take_of_length_le (by omega)] at this
  exact this
theorem textH_congr {half : Nat} {h : Hd} {S S' : List Sec} (e : ∀ j, startA half h.area ≤ j → j < startA half h.area + nsec h.size → S'[j]? = S[j]?) : textH half h S' = textH half h S := by
  unfold textH
  congr 2
  apply List.ext_getElem?
  intro j
  rw [List.getElem?_drop, List.getElem?_drop, List.getElem?_take, List.getElem?_take]
  split
  · exact e _ (by omega) (by omega)
  · rfl
theorem nsec_le {n half : Nat} (h : n ≤ half * 64) : nsec n ≤ half := by unfold nsec; omega
/-- What is kept is the same. -/
theorem vtOf_same {gd : Nat} {S S' : List Sec} (hl : S'.length = S.length) (h0 : ∀ j, j < 2 → S'[j]? = S[j]?) (h1 : ∀ j, startA (halfOf S) (headOf S).area ≤ j → j < startA (halfOf S) (headOf S).area + halfOf S → S'[j]? = S[j]?) : vtOf gd S' = vtOf gd S := by
  have e1 : halfOf S' = halfOf S := by unfold halfOf; rw [hl]
  have e2 : headOf S' = headOf S := by unfold headOf; rw [e1]; exact latest_congr h0
  have e3 : textH (halfOf S') (headOf S') S' = textH (halfOf S) (headOf S) S := by
    rw [e1, e2]
    refine textH_congr fun j hj hj2 => h1 j hj ?_
    have : nsec (headOf S).size ≤ halfOf S := nsec_le (latest_ok (halfOf S * 64) S).size
    omega
  unfold vtOf
  rw [e1, e2] at *
  rw [e3]
theorem area_off {half a k : Nat} (ha : a ≤ 1) {j n : Nat} (hn : n ≤ half) (hj : startA half a ≤ j) (hj2 : j < startA half a + half) (hk : k = 1 - a) : ¬ (startA half k ≤ j ∧ j < startA half k + n) := by
  subst hk
  unfold startA at *
  rcases Nat.lt_or_ge a 1 with h | h
  · obtain rfl : a = 0 := by omega
    simp only [Nat.zero_mul, Nat.sub_zero, Nat.one_mul] at *
    omega
  · obtain rfl : a = 1 := by omega
    simp only [Nat.one_mul, Nat.sub_self, Nat.zero_mul] at *
    omega
theorem secs_one {b : List UInt8} (h : b.length = 64) : secs b = [cutF b 0] := by unfold secs; rw [h]; rfl
/-- What keeping does to a disk at rest. -/
theorem keep_rest {D : Dk} {V : Vt} {gd : Nat} {b : List UInt8} (hR : AtRest D) (hV : V = vtOf gd D.now) (h4 : 4 ≤ D.now.length) (h5 : D.now.length ≤ 4000) (hb : b.length ≤ V.half * 64) (hn : V.number < 18446744073709551615) :
    (∃ D', V.keep D b = (0, D', vtOf gd D'.now) ∧ AtRest D' ∧ D'.now.length = D.now.length ∧ (vtOf gd D'.now).kept = b ∧ (vtOf gd D'.now).number = V.number + 1 ∧ D'.fused = D.fused) ∨
    (∃ D', V.keep D b = (8, D', { V with over := true }) ∧ D.fused = true ∧ ∀ keep, AtRest (D'.crash keep) ∧ (D'.crash keep).now.length = D.now.length ∧
      (((vtOf gd (D'.crash keep).now).kept = V.kept ∧ (vtOf gd (D'.crash keep).now).number = V.number) ∨ ((vtOf gd (D'.crash keep).now).kept = b ∧ (vtOf gd (D'.crash keep).now).number = V.number + 1))) := by
  obtain ⟨S, hS⟩ : ∃ S, D.now = S := ⟨_, rfl⟩
  rw [hS] at hV h4 h5 ⊢
  have hok : V.Ok := hV ▸ vtOf_ok h5
  have hhalf : V.half = halfOf S := by rw [hV]; rfl
  have hsec : V.sector = (headOf S).sector := by rw [hV]; rfl
  have hnum : V.number = (headOf S).number := by rw [hV]; rfl
  have harea : V.area = (headOf S).area := by rw [hV]; rfl
  have hover : V.over = false := by rw [hV]; rfl
  have hs1 := hok.sector
  have ha1 := hok.area
  have hh0 := hok.half
  have hh1 : halfOf S = (S.length - 2) / 2 := rfl
  generalize hh : V.next b.length = h
  have hnx : h = ⟨1 - V.sector, V.number + 1, b.length, 1 - V.area⟩ := by rw [← hh]; unfold Vt.next; rw [if_neg (by omega)]
  have hns : nsec b.length ≤ V.half := nsec_le hb
  have hk : V.keep D b = if (V.write D h b).1 ≠ 0 then ((V.write D h b).1, (V.write D h b).2, { V with over := true }) else (0, (V.write D h b).2, V.set h b) := by
    unfold Vt.keep
    rw [if_neg (by rw [hover]; simp), if_neg (by omega), hh]
  have hst : startA V.half h.area + V.half ≤ S.length := by
    rw [hnx]
    unfold startA
    show 2 + (1 - V.area) * V.half + V.half ≤ _
    have : (1 - V.area) * V.half ≤ 1 * V.half := Nat.mul_le_mul_right _ (by omega)
    omega
  have hpm : (padB b).length % 64 = 0 := by rw [padB_len]; omega
  have hfit : startA V.half h.area + (padB b).length / 64 ≤ D.now.length := by rw [padB_div, hS]; omega
  -- sectors beside the new area
  have apart : ∀ j, j < 2 ∨ (startA (halfOf S) (headOf S).area ≤ j ∧ j < startA (halfOf S) (headOf S).area + halfOf S) → ¬ (startA V.half h.area ≤ j ∧ j < startA V.half h.area + nsec b.length) := fun j hj => by
    rcases hj with hj | ⟨h1, h2⟩
    · unfold startA; omega
    · rw [hhalf] at hns ⊢
      exact area_off (by rw [← harea]; exact ha1) hns h1 h2 (by rw [hnx, harea])
  have secsL : (secs (padB b)).length = nsec b.length := by rw [secs_len, padB_div]
  unfold Vt.write at hk
  rcases lay_rest hR hpm hfit with ⟨D1, e1, hR1, hn1, hf1⟩ | ⟨D1, k, e1, hf1, hc1⟩
  · -- the bytes are there
    rw [e1] at hk
    simp only [ne_eq, not_true_eq_false, if_false] at hk
    rw [hS] at hn1
    have hl1 : D1.now.length = S.length := by rw [hn1, sets_len]
    have at1 : ∀ j, D1.now[j]? = if startA V.half h.area ≤ j ∧ j < startA V.half h.area + nsec b.length then (secs (padB b))[j - startA V.half h.area]? else S[j]? := fun j => by
      rw [hn1, sets_en _ _ _ _ (by rw [secsL]; omega), secsL]
    have off1 : ∀ j, j < 2 ∨ (startA (halfOf S) (headOf S).area ≤ j ∧ j < startA (halfOf S) (headOf S).area + halfOf S) → D1.now[j]? = S[j]? := fun j hj => by rw [at1, if_neg (apart j hj)]
    have same1 : vtOf gd D1.now = V := by rw [hV]; exact vtOf_same hl1 (fun j hj => off1 j (.inl hj)) (fun j h1 h2 => off1 j (.inr ⟨h1, h2⟩))
    have hhl : (hdL h.number h.size h.area).length = 64 := hdL_len _ _ _
    have hsec1 : h.sector < 2 := by rw [hnx]; show 1 - V.sector < 2; omega
    -- with the new head
    have new : ∀ S2, S2 = D1.now.set h.sector (cutF (hdL h.number h.size h.area) 0) → vtOf gd S2 = V.set h b := fun S2 hS2 => by
      have hl2 : S2.length = S.length := by rw [hS2, List.length_set, hl1]
      have hhf : halfOf S2 = V.half := by unfold halfOf; rw [hl2, hhalf]; rfl
      have hhd : headOf S2 = h := by
        have := latest_new (room := V.half * 64) (i := h.sector) (S := S) (S' := S2) (n := h.number) (s := h.size) (a := h.area) hsec1
          (by rw [hS2, List.getD_eq_getElem?_getD, List.getElem?_set_self (by omega)]; rfl)
          (by
            have hx := off1 (1 - h.sector) (.inl (by omega))
            rw [hS2, List.getD_eq_getElem?_getD, List.getD_eq_getElem?_getD, List.getElem?_set_ne (by omega), hx])
          (by rw [hhalf, hnx]; show (headOf S).number < V.number + 1; omega) (by rw [hnx]; show V.number + 1 < _; omega) (by rw [hnx]; exact hb) (by omega) (by rw [hnx]; show 1 - V.area < 2; omega)
        unfold headOf
        rw [hhf]
        exact this
      have htx : textH V.half h S2 = b := by
        have e : (S2.take (startA V.half h.area + nsec h.size)).drop (startA V.half h.area) = secs (padB b) := by
          apply List.ext_getElem?
          intro j
          have hsz : h.size = b.length := by rw [hnx]
          rw [List.getElem?_drop, List.getElem?_take, hsz]
          by_cases hj : j < nsec b.length
          · rw [if_pos (by omega), hS2, List.getElem?_set_ne (by unfold startA; omega), at1, if_pos (by omega)]
            congr 1; omega
          · rw [if_neg (by omega), List.getElem?_eq_none (by rw [secsL]; omega)]
        unfold textH
        rw [e, unsec_secs hpm]
        have hsz : h.size = b.length := by rw [hnx]
        rw [hsz]
        unfold padB
        rw [List.take_left']
        rfl
      show (⟨gd, halfOf S2, (headOf S2).sector, (headOf S2).number, (headOf S2).size, (headOf S2).area, textH (halfOf S2) (headOf S2) S2, false⟩ : Vt) = _
      rw [hhd, hhf, htx]
      unfold Vt.set
      rw [hV]; rfl
    have hfit2 : h.sector + (hdL h.number h.size h.area).length / 64 ≤ D1.now.length := by rw [hhl, hl1]; omega
    rcases lay_rest hR1 (at_ := h.sector) (b := hdL h.number h.size h.area) (by rw [hhl]) hfit2 with ⟨D2, e2, hR2, hn2, hf2⟩ | ⟨D2, k, e2, hf2, hc2⟩
    · rw [e2] at hk
      simp only [not_true_eq_false, if_false] at hk
      have e3 : D2.now = D1.now.set h.sector (cutF (hdL h.number h.size h.area) 0) := by rw [hn2, secs_one hhl]; rfl
      have e4 := new _ e3
      refine .inl ⟨D2, by rw [hk, e4], hR2, by rw [e3, List.length_set, hl1], by rw [e4]; rfl, by rw [e4, hnx]; rfl, by rw [hf2, hf1]⟩
    · rw [e2] at hk
      simp only [show ¬ (8 : Nat) = 0 by decide, not_false_eq_true, if_true] at hk
      refine .inr ⟨D2, hk, by rw [← hf1]; exact hf2, fun keep => ?_⟩
      obtain ⟨h1, h2⟩ := hc2 keep
      refine ⟨h1, by rw [h2, synced_len, hl1], ?_⟩
      have hcase : (D2.crash keep).now = D1.now ∨ (D2.crash keep).now = D1.now.set h.sector (cutF (hdL h.number h.size h.area) 0) := by
        rw [h2, secs_one hhl]
        cases k with
        | zero => exact .inl rfl
        | succ k =>
          rw [List.take_of_length_le (by simp)]
          show (if _ then D1.now.set _ _ else D1.now) = _ ∨ (if _ then D1.now.set _ _ else D1.now) = _
          split
          · exact .inr rfl
          · exact .inl rfl
      rcases hcase with e | e
      · rw [e, same1]; exact .inl ⟨rfl, rfl⟩
      · rw [new _ e]; exact .inr ⟨rfl, by rw [hnx]; rfl⟩
  · -- the power goes within the bytes
    rw [e1] at hk
    simp only [ne_eq, show ¬ (8 : Nat) = 0 by decide, not_false_eq_true, if_true] at hk
    refine .inr ⟨D1, hk, hf1, fun keep => ?_⟩
    obtain ⟨h1, h2⟩ := hc1 keep
    rw [hS] at h2
    have hl1 : (D1.crash keep).now.length = S.length := by rw [h2, synced_len]
    have off1 : ∀ j, j < 2 ∨ (startA (halfOf S) (headOf S).area ≤ j ∧ j < startA (halfOf S) (headOf S).area + halfOf S) → (D1.crash keep).now[j]? = S[j]? := fun j hj => by
      rw [h2]
      refine synced_other keep _ _ _ fun c hc hcj => apart j hj ?_
      have h3 := en_mem hc
      have h4 : ((secs (padB b)).take k).length ≤ nsec b.length := by rw [List.length_take, secsL]; omega
      omega
    have same1 : vtOf gd (D1.crash keep).now = V := by rw [hV]; exact vtOf_same hl1 (fun j hj => off1 j (.inl hj)) (fun j h1 h2 => off1 j (.inr ⟨h1, h2⟩))
    exact ⟨h1, hl1, .inl (by rw [same1]; exact ⟨rfl, rfl⟩)⟩
/-- Too long, or over. -/
theorem keep_long {D : Dk} {V : Vt} {b : List UInt8} (ho : V.over = false) (h : V.half * 64 < b.length) : V.keep D b = (6, D, V) := by
  unfold Vt.keep
  rw [if_neg (by rw [ho]; simp), if_pos h]
end Go.Proofs.Ytglplhbhpaegeaa
