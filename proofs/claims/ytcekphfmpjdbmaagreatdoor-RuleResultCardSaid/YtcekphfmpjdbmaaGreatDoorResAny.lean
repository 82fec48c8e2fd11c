/- The law RuleResult, for any sign and types. -/
import Derived.Test.YtcekphfmpjdbmaaGreatDoorRes13ap
import Derived.Test.YtcekphfmpjdbmaaGreatDoorRes13at
import Derived.Test.YtcekphfmpjdbmaaGreatDoorRes13ao
import Derived.Test.YtcekphfmpjdbmaaGreatDoorRes13bp
import Derived.Test.YtcekphfmpjdbmaaGreatDoorRes13bt
import Derived.Test.YtcekphfmpjdbmaaGreatDoorRes13bo
import Derived.Test.YtcekphfmpjdbmaaGreatDoorRes10p
import Derived.Test.YtcekphfmpjdbmaaGreatDoorRes10t
import Derived.Test.YtcekphfmpjdbmaaGreatDoorRes10o
import Derived.Test.YtcekphfmpjdbmaaGreatDoorRes5
import Derived.Test.YtcekphfmpjdbmaaGreatDoorResplus
import Derived.Test.YtcekphfmpjdbmaaGreatDoorResminus
import Derived.Test.YtcekphfmpjdbmaaGreatDoorRestimes
import Derived.Test.YtcekphfmpjdbmaaGreatDoorResover
import Derived.Test.YtcekphfmpjdbmaaGreatDoorRespower
namespace Go.Proofs.YtcekphfmpjdbmaaGreatDoor
open Go.RowKit

set_option maxRecDepth 100000 in
set_option maxHeartbeats 4000000 in
theorem res_heavy (ka pa qa na : Int) (va : Bool) (ca : ByteArray) (kb pb qb nb : Int) (vb : Bool) (cb : ByteArray) (s : ByteArray) (w : World) (hsa : ca.size ≤ maxLen) (hsb : cb.size ≤ maxLen) (hl : ¬ ((ca.size : Int) ≤ 300 ∧ (cb.size : Int) ≤ 300)) :
    Calls Tryz.prog 4 #[.string s, tyV ka pa qa na va ca, tyV kb pb qb nb vb cb] w fun e w' => e = .returned (.bool true) ∧ Below w.heap.size w w' := by
  have HSA := Lib.hid hsa; have HSB := Lib.hid hsb; have HL := Lib.hid hl
  clear hsa hsb hl
  go_enter Tryz.func4, Tryz.ntmps4
  go_wp2_with fail
  go_at_call 11
  refine (light_no [⟨ka, pa, qa, na, va, ca⟩, ⟨kb, pb, qb, nb, vb, cb⟩] (w.heap.size + 1 + 1) 0 2 _ (TysAt_two (heap_alloc3_new _ _ _ _)) (by simp) (by simp) (pic2 HSA.out HSB.out) (by have := HL.out; simpa [Ty.light] using this)).mono ?_
  rintro e w1 ⟨rfl, rfl⟩
  go_wp2_with fail
  go_at_call 12
  refine (awake_2 _).mono ?_
  rintro e w1 ⟨rfl, hb⟩
  go_wp2
  go_ret
  exact ⟨rfl, below_then (by go_grown) hb (by simp <;> omega)⟩

set_option maxRecDepth 100000 in
set_option maxHeartbeats 4000000 in
theorem res_long (ka pa qa na : Int) (va : Bool) (ca : ByteArray) (kb pb qb nb : Int) (vb : Bool) (cb : ByteArray) (s : ByteArray) (w : World) (hs : s.size ≤ maxLen) (hsa : ca.size ≤ maxLen) (hsb : cb.size ≤ maxLen) (hla : (ca.size : Int) ≤ 300) (hlb : (cb.size : Int) ≤ 300) (hss : 100 < s.size) :
    Calls Tryz.prog 4 #[.string s, tyV ka pa qa na va ca, tyV kb pb qb nb vb cb] w fun e w' => e = .returned (.bool true) ∧ Below w.heap.size w w' := by
  unfold maxLen at hs
  have HSA := Lib.hid hsa; have HSB := Lib.hid hsb; have HLA := Lib.hid hla; have HLB := Lib.hid hlb
  have hss2 : (100 : Int) < (s.size : Int) := by omega
  clear hsa hsb hla hlb
  go_enter Tryz.func4, Tryz.ntmps4
  go_wp2_with fail
  go_at_call 11
  refine (light_yes [⟨ka, pa, qa, na, va, ca⟩, ⟨kb, pb, qb, nb, vb, cb⟩] (w.heap.size + 1 + 1) 0 2 _ (TysAt_two (heap_alloc3_new _ _ _ _)) (by simp) (by simp) (pic2 HSA.out HSB.out) (all2 (f := Ty.light) (by simpa [Ty.light] using HLA.out) (by simpa [Ty.light] using HLB.out))).mono ?_
  rintro e w1 ⟨rfl, rfl⟩
  go_wp2_with fail
  go_at_call 12
  refine (awake_2 _).mono ?_
  rintro e w1 ⟨rfl, hb⟩
  go_wp2
  go_ret
  exact ⟨rfl, below_then (by go_grown) hb (by simp <;> omega)⟩

theorem numB_of {k p q n : Int} {vy : Bool} {pic : ByteArray} (h : (Ty.mk k p q n vy pic).ok = true) (hn : (Ty.mk k p q n vy pic).num = true) : NumB k p q ∧ n = 0 ∧ vy = false ∧ pic = ⟨#[]⟩ := by
  have hk : 1 ≤ k ∧ k ≤ 3 := by simpa [Ty.num, isNumS] using hn
  obtain rfl | rfl | rfl : k = 1 ∨ k = 2 ∨ k = 3 := by omega
  · obtain ⟨h1, h2, h3, h4, rfl, rfl, rfl⟩ := ok_1_of h
    exact ⟨⟨by omega, by omega, h1, h2, h3, h4, h⟩, rfl, rfl, rfl⟩
  · obtain ⟨h1, h2, h3, h4, rfl, rfl, rfl⟩ := ok_2_of h
    exact ⟨⟨by omega, by omega, h1, by omega, h3, h4, h⟩, rfl, rfl, rfl⟩
  · obtain ⟨h1, h2, rfl, rfl, rfl, rfl⟩ := ok_3_of h
    exact ⟨⟨by omega, by omega, h1, by omega, by omega, by omega, h⟩, rfl, rfl, rfl⟩

theorem lit_of (s : ByteArray) (l : List UInt8) (h : (s.toList == l) = true) : s = ⟨l.toArray⟩ := by
  obtain ⟨⟨m⟩⟩ := s
  rw [ByteArray.toList_eq] at h
  have : m = l := by simpa using h
  rw [this]

/-- The law RuleResult, for any sign and types. -/
theorem res_any (s : ByteArray) (ka pa qa na : Int) (va : Bool) (ca : ByteArray) (kb pb qb nb : Int) (vb : Bool) (cb : ByteArray) (w : World) (hs : s.size ≤ maxLen) (hsa : ca.size ≤ maxLen) (hsb : cb.size ≤ maxLen) :
    Calls Tryz.prog 4 #[.string s, tyV ka pa qa na va ca, tyV kb pb qb nb vb cb] w fun e w' => e = .returned (.bool true) ∧ Below w.heap.size w w' := by
  by_cases hl : (ca.size : Int) ≤ 300 ∧ (cb.size : Int) ≤ 300
  · by_cases hss : s.size ≤ 100
    · obtain ⟨hla, hlb⟩ := hl
      cases hva : (Ty.mk ka pa qa na va ca).ok
      · cases o1 : (s.toList == [43])
        · cases o2 : (s.toList == [42])
          · exact res_13ao ka pa qa na va ca kb pb qb nb vb cb s w hsa hsb hla hlb hva hss o1 o2
          · obtain rfl := lit_of s _ o2
            exact res_13at ka pa qa na va ca kb pb qb nb vb cb w hsa hsb hla hlb hva
        · obtain rfl := lit_of s _ o1
          exact res_13ap ka pa qa na va ca kb pb qb nb vb cb w hsa hsb hla hlb hva
      · cases hvb : (Ty.mk kb pb qb nb vb cb).ok
        · cases o1 : (s.toList == [43])
          · cases o2 : (s.toList == [42])
            · exact res_13bo ka pa qa na va ca kb pb qb nb vb cb s w hsa hsb hla hlb hva hvb hss o1 o2
            · obtain rfl := lit_of s _ o2
              exact res_13bt ka pa qa na va ca kb pb qb nb vb cb w hsa hsb hla hlb hva hvb
          · obtain rfl := lit_of s _ o1
            exact res_13bp ka pa qa na va ca kb pb qb nb vb cb w hsa hsb hla hlb hva hvb
        · by_cases hn : (Ty.mk ka pa qa na va ca).num = true ∧ (Ty.mk kb pb qb nb vb cb).num = true
          · obtain ⟨hA, rfl, rfl, rfl⟩ := numB_of hva hn.1
            obtain ⟨hB, rfl, rfl, rfl⟩ := numB_of hvb hn.2
            cases o1 : (s.toList == [43])
            · cases o2 : (s.toList == [45])
              · cases o3 : (s.toList == [42])
                · cases o4 : (s.toList == [47])
                  · cases o5 : (s.toList == [42, 42])
                    · exact res_5 ka pa qa kb pb qb s w hA hB hss (bflip o1) (bflip o2) (bflip o3) (bflip o4) (bflip o5)
                    · obtain rfl := lit_of s _ o5
                      exact res_power ka pa qa kb pb qb w hA hB
                  · obtain rfl := lit_of s _ o4
                    exact res_over ka pa qa kb pb qb w hA hB
                · obtain rfl := lit_of s _ o3
                  exact res_times ka pa qa kb pb qb w hA hB
              · obtain rfl := lit_of s _ o2
                exact res_minus ka pa qa kb pb qb w hA hB
            · obtain rfl := lit_of s _ o1
              exact res_plus ka pa qa kb pb qb w hA hB
          · have hn' : (Ty.mk ka pa qa na va ca).num = false ∨ (Ty.mk kb pb qb nb vb cb).num = false := by
              cases h1 : (Ty.mk ka pa qa na va ca).num
              · exact Or.inl rfl
              · cases h2 : (Ty.mk kb pb qb nb vb cb).num
                · exact Or.inr rfl
                · exact absurd ⟨h1, h2⟩ hn
            cases o1 : (s.toList == [43])
            · cases o2 : (s.toList == [42])
              · exact res_10o ka pa qa na va ca kb pb qb nb vb cb s w hsa hsb hla hlb hva hvb hn' hss o1 o2
              · obtain rfl := lit_of s _ o2
                exact res_10t ka pa qa na va ca kb pb qb nb vb cb w hsa hsb hla hlb hva hvb hn'
            · obtain rfl := lit_of s _ o1
              exact res_10p ka pa qa na va ca kb pb qb nb vb cb w hsa hsb hla hlb hva hvb hn'
    · exact res_long ka pa qa na va ca kb pb qb nb vb cb s w hs hsa hsb hl.1 hl.2 (by omega)
  · exact res_heavy ka pa qa na va ca kb pb qb nb vb cb s w hsa hsb hl
end Go.Proofs.YtcekphfmpjdbmaaGreatDoor
