/- strings.Trim of blanks; Trim of package bits. -/
import Derived.Test.YtljbkpnfjgnhnaaDoorBitTrimP
import Derived.Test.YtljbkpnfjgnhnaaDoorBitCmp2
import Derived.Test.YtljbkpnfjgnhnaaDoorBitAsk
import Derived.Test.YtljbkpnfjgnhnaaDoorBitAns
import Derived.Test.YtljbkpnfjgnhnaaDoorBitDem
import Derived.Test.YtljbkpnfjgnhnaaDoorBitRefE
namespace Go.Proofs.YtljbkpnfjgnhnaaDoor
open Go.RowKit

theorem head_tail (x : ByteArray) (h : 0 < x.size) : x.data.toList = x[0] :: (x.extract 1 x.size).data.toList := by
  have e : (x.extract 1 x.size).data.toList = x.data.toList.drop 1 := by rw [ext_drop x 1 (by omega)]
  rw [e]
  have hl : 0 < x.data.toList.length := by rw [lsz]; exact h
  have := List.drop_eq_getElem_cons hl
  rw [List.drop_zero] at this
  exact this
theorem init_last (x : ByteArray) (h : x.size - 1 < x.size) : x.data.toList = (x.extract 0 (x.size - 1)).data.toList ++ [x[x.size - 1]] := by
  have e : (x.extract 0 (x.size - 1)).data.toList = x.data.toList.take (x.size - 1) := by rw [ext_take]
  rw [e]
  have hl : x.size - 1 < x.data.toList.length := by rw [lsz]; exact h
  have := List.take_succ_eq_append_getElem hl
  rw [show x.size - 1 + 1 = x.size by omega, List.take_of_length_le (by rw [lsz]; exact Nat.le_refl _)] at this
  exact this
theorem empty_list {x : ByteArray} (h : x.size = 0) : x.data.toList = [] := List.eq_nil_of_length_eq_zero (by rw [lsz]; exact h)

set_option maxHeartbeats 1000000 in
theorem trimLeft1 (s : ByteArray) (w : World) (_hs : s.size ≤ 100000) :
    Calls Tryd.prog 46 #[.string s, .int .u8 32] w fun e w' => e = .returned (.string (bsz (dropB s.data.toList))) ∧ w' = w := by
  go_enter Tryd.func46, Tryd.ntmps46
  go_wp2
  go_loop [0] (fun v => ∃ x : ByteArray, v = .string x ∧ x.size ≤ s.size ∧ Hid (dropB x.data.toList = dropB s.data.toList)) (fun v => match v with | .string x => x.size | _ => 0)
  case atStart => exact ⟨s, rfl, Nat.le_refl _, rfl⟩
  case round =>
    obtain ⟨x, rfl, hx, HX⟩ := hrel
    by_cases h0 : x.size = 0
    · have HR : Hid (bsz (dropB s.data.toList) = x) := by
        show _ = _
        rw [← HX.out, empty_list h0]
        exact congrArg ByteArray.mk (Array.eq_empty_of_size_eq_zero h0).symm
      have d0 : decide (0 < (x.size : Int)) = false := by simp only [decide_eq_false_iff_not]; omega
      have d1 : decide (0 < x.size) = false := by simp only [decide_eq_false_iff_not]; omega
      go_wp2
      go_ret
      exact ⟨by rw [HR.out]; rfl, rfl⟩
    · have hp : 0 < x.size := by omega
      have hl := head_tail x hp
      have i1 : (0 : Int) < x.size := by omega
      have d0 : decide (0 < (x.size : Int)) = true := decide_eq_true i1
      have d1 : decide (0 < x.size) = true := decide_eq_true hp
      by_cases hc : x[0] = 32
      · have e1 : ((x[0].toNat : Int) == 32) = true := by rw [hc]; rfl
        have e2 : (x[0].toNat == 32) = true := by rw [hc]; rfl
        have HT : Hid (dropB (x.extract 1 x.size).data.toList = dropB s.data.toList) := by
          show _ = _
          rw [← HX.out, hl, dropB_cons, if_pos hc]
        have i2 : (1 : Int) ≤ x.size := by omega
        clear hl hc HX
        go_wp2
        go_round
        case rel => exact ⟨x.extract 1 x.size, rfl, by simp; omega, HT⟩
        case measure => simp; omega
      · have hne : x[0].toNat ≠ 32 := fun e => hc (UInt8.toNat_inj.1 e)
        have e1 : ((x[0].toNat : Int) == 32) = false := by rw [beq_eq_false_iff_ne]; omega
        have e2 : (x[0].toNat == 32) = false := by rw [beq_eq_false_iff_ne]; exact hne
        have HR : Hid (bsz (dropB s.data.toList) = x) := by
          show _ = _
          rw [← HX.out, hl, dropB_cons, if_neg hc, ← hl]
        clear hl hc hne HX
        go_wp2
        go_ret
        exact ⟨by rw [HR.out]; rfl, rfl⟩

set_option maxHeartbeats 1000000 in
theorem trimRight1 (s : ByteArray) (w : World) (hs : s.size ≤ 100000) :
    Calls Tryd.prog 47 #[.string s, .int .u8 32] w fun e w' => e = .returned (.string (bsz (dropR s.data.toList))) ∧ w' = w := by
  go_enter Tryd.func47, Tryd.ntmps47
  go_wp2
  go_loop [0] (fun v => ∃ x : ByteArray, v = .string x ∧ x.size ≤ s.size ∧ Hid (dropR x.data.toList = dropR s.data.toList)) (fun v => match v with | .string x => x.size | _ => 0)
  case atStart => exact ⟨s, rfl, Nat.le_refl _, rfl⟩
  case round =>
    obtain ⟨x, rfl, hx, HX⟩ := hrel
    by_cases h0 : x.size = 0
    · have HR : Hid (bsz (dropR s.data.toList) = x) := by
        show _ = _
        rw [← HX.out, empty_list h0]
        exact congrArg ByteArray.mk (Array.eq_empty_of_size_eq_zero h0).symm
      have d0 : decide (0 < (x.size : Int)) = false := by simp only [decide_eq_false_iff_not]; omega
      have d1 : decide (0 < x.size) = false := by simp only [decide_eq_false_iff_not]; omega
      go_wp2
      go_ret
      exact ⟨by rw [HR.out]; rfl, rfl⟩
    · obtain ⟨m, hm⟩ : ∃ m, x.size = m + 1 := ⟨x.size - 1, by omega⟩
      have hp : x.size - 1 < x.size := by omega
      have hl := init_last x hp
      have hmx : m < x.size := by omega
      have hg : x[x.size - 1] = x[m] := by congr 1; omega
      rw [hg, show x.size - 1 = m by omega] at hl
      have i0 : (0 : Int) < x.size := by omega
      have i1 : (x.size : Int) - 1 = m := by omega
      have i2 : (x.size : Int) = (m : Int) + 1 := by omega
      have d0 : decide (0 < (x.size : Int)) = true := decide_eq_true i0
      have d1 : decide (0 < x.size) = true := decide_eq_true (by omega)
      have hw : IntKind.i64.wrap ((x.size : Int) - 1) = m := by rw [i1]; exact IntWalk.i64_in _ (by omega)
      have i3 : (m : Int) < x.size := by omega
      by_cases hc : x[m] = 32
      · have e1 : ((x[m].toNat : Int) == 32) = true := by rw [hc]; rfl
        have e2 : (x[m].toNat == 32) = true := by rw [hc]; rfl
        have HT : Hid (dropR (x.extract 0 m).data.toList = dropR s.data.toList) := by
          show _ = _
          rw [← HX.out, hl, dropR_snoc, if_pos hc]
        clear hl hc HX hg hp
        go_wp2
        go_round
        case rel => exact ⟨x.extract 0 m, rfl, by simp; omega, HT⟩
        case measure => simp; omega
      · have hne : x[m].toNat ≠ 32 := fun e => hc (UInt8.toNat_inj.1 e)
        have e1 : ((x[m].toNat : Int) == 32) = false := by rw [beq_eq_false_iff_ne]; omega
        have e2 : (x[m].toNat == 32) = false := by rw [beq_eq_false_iff_ne]; exact hne
        have HR : Hid (bsz (dropR s.data.toList) = x) := by
          show _ = _
          rw [← HX.out, hl, dropR_snoc, if_neg hc, ← hl]
        clear hl hc hne HX hg hp
        go_wp2
        go_ret
        exact ⟨by rw [HR.out]; rfl, rfl⟩

set_option maxRecDepth 100000 in
set_option maxHeartbeats 1000000 in
theorem trim1 (s : ByteArray) (w : World) (hs : s.size ≤ 100000) :
    Calls Tryd.prog 29 #[.string s, .string ⟨#[32]⟩] w fun e w' => e = .returned (.string (bsz (trimL s.data.toList))) ∧ Below w.heap.size w w' := by
  have hr : (bsz (dropR s.data.toList)).size ≤ 100000 := by rw [bsz_size]; have := dropR_len s.data.toList; rw [lsz] at this; omega
  by_cases h0 : s.size = 0
  · have e2 : s.toList = [] := by rw [ByteArray.toList_eq]; exact empty_list h0
    have e1 : (s.toList == []) = true := beq_iff_eq.2 e2
    have HR : Hid (bsz (trimL s.data.toList) = s) := by
      show _ = _
      rw [empty_list h0]
      exact congrArg ByteArray.mk (Array.eq_empty_of_size_eq_zero h0).symm
    clear h0
    go_enter Tryd.func29, Tryd.ntmps29
    go_wp2
    go_ret
    exact ⟨by rw [HR.out]; rfl, Below.refl _ _⟩
  · have e2 : ¬ s.toList = [] := fun e => h0 (by rw [← lsz, ← ByteArray.toList_eq, e]; rfl)
    have e1 : (s.toList == []) = false := by simpa using e2
    have e3 : (!s.toList.isEmpty) = true := by simpa using e2
    go_enter Tryd.func29, Tryd.ntmps29
    go_wp2
    go_quiet ((first
      | (go_at_call 47; exact Calls.quiet_of_same (trimRight1 _ _ hs))
      | (go_at_call 46; exact Calls.quiet_of_same (trimLeft1 _ _ hr))))
    go_wp2
    go_ret
    exact ⟨rfl, below_drewN (Below.refl _ _) _⟩
end Go.Proofs.YtljbkpnfjgnhnaaDoor
