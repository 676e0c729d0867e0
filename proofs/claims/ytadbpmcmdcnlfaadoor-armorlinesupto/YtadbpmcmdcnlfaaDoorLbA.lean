/- strings.TrimSuffix, strings.IndexByte, told over lists. -/
import Derived.Test.YtadbpmcmdcnlfaaDoorShfA
import Derived.Test.YtadbpmcmdcnlfaaDoorBu
import Derived.Test.YtadbpmcmdcnlfaaDoorAd
namespace Go.Proofs.YtadbpmcmdcnlfaaDoor
open Go Go.RowKit
set_option maxRecDepth 100000

theorem list_of_suffix (l : List UInt8) (c : UInt8) : Lib.trimSuffix l [c] = if l.getLast? = some c then l.dropLast else l := by
  unfold Lib.trimSuffix Lib.hasSuffix
  by_cases h : l.getLast? = some c
  · have hne : l ≠ [] := by rintro rfl; cases h
    have h2 := List.dropLast_concat_getLast hne
    rw [List.getLast?_eq_some_getLast hne] at h
    rw [Option.some.inj h] at h2
    have h3 : [c].isSuffixOf l = true := List.isSuffixOf_iff_suffix.2 ⟨l.dropLast, h2⟩
    rw [if_pos h3, if_pos (by rw [List.getLast?_eq_some_getLast hne]; exact h)]
    exact (List.dropLast_eq_take).symm
  · have h3 : ¬ [c].isSuffixOf l = true := fun h4 => h (by
      obtain ⟨t, rfl⟩ := List.isSuffixOf_iff_suffix.1 h4
      simp)
    rw [if_neg h3, if_neg h]
theorem trim_suffix_c (l : List UInt8) (c : UInt8) (hl : l.length ≤ 9223372036854775807) : Pure Tryd.prog 34 #[.string (strL l), .string (strL [c])] (fun _ => True) (.string (strL (if l.getLast? = some c then l.dropLast else l))) := fun w _ => by
  have h : Calls Tryd.prog 34 #[.string (strL l), .string (strL [c])] w fun e w' => e = .returned (.string ⟨(Lib.trimSuffix (strL l).data.toList (strL [c]).data.toList).toArray⟩) ∧ w' = w := Any.strings_TrimSuffix Tryd.lays102 (strL l) (strL [c]) w (by rw [strL_size]; exact hl)
  refine h.mono ?_
  rintro e w' ⟨rfl, rfl⟩
  refine ⟨?_, Below.refl _ _⟩
  rw [← list_of_suffix]
theorem idx_of (l : List UInt8) (c : UInt8) : Lib.indexByte l c = if l.idxOf c < l.length then ((l.idxOf c : Nat) : Int) else -1 := by
  induction l with
  | nil => rfl
  | cons b r ih =>
    unfold Lib.indexByte
    by_cases hb : (b == c) = true
    · rw [if_pos hb, List.idxOf_cons, hb]; simp
    · have hb' : (b == c) = false := by simpa using hb
      rw [if_neg hb, List.idxOf_cons, hb', ih]
      by_cases hi : r.idxOf c < r.length
      · simp [hi]
        first | done | omega
      · simp [hi]
theorem index_sgn_c (c : UInt8) : Pure Tryd.prog 35 #[.string (strL sgnL), .int .u8 (c.toNat : Int)] (fun _ => True) (.int .i64 (if sgI c < 64 then ((sgI c : Nat) : Int) else -1)) := fun w _ => by
  have h : Calls Tryd.prog 35 #[.string (strL sgnL), .int .u8 (c.toNat : Int)] w fun e w' => e = .returned (.int .i64 (Lib.indexByte (strL sgnL).data.toList (c.toNat : Int).toNat.toUInt8)) ∧ w' = w := Any.strings_IndexByte Tryd.lays137 (strL sgnL) (c.toNat : Int) w
  refine h.mono ?_
  rintro e w' ⟨rfl, rfl⟩
  refine ⟨?_, Below.refl _ _⟩
  have e1 : (c.toNat : Int).toNat.toUInt8 = c := by simp
  rw [e1]
  show Ending.returned (.int .i64 (Lib.indexByte sgnL c)) = _
  rw [idx_of]; rfl
end Go.Proofs.YtadbpmcmdcnlfaaDoor
