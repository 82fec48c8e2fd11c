/- Package bits: demandWithin of one number or two, demandCounts, demandRoom, demandTable. -/
import Derived.Test.YtljbkpnfjgnhnaaDoorBitAns
namespace Go.Proofs.YtljbkpnfjgnhnaaDoor
open Go.RowKit

set_option maxHeartbeats 1000000 in
theorem within1_ok (lo hi i : Int) (b cap : Nat) (w : World) (c0 : w.cell? ⟨b, 0, none⟩ = some (.int .i64 i)) (l0 : lo ≤ i) (h0 : i ≤ hi) :
    Calls Tryd.prog 54 #[.int .i64 lo, .int .i64 hi, .slice (some ⟨b, 0, none⟩) 1 cap] w fun e w' => e = .returned (.tuple #[]) ∧ w = w' := by
  have d0 : decide (i < lo) = false := by simp only [decide_eq_false_iff_not]; omega
  have g0 : decide (hi < i) = false := by simp only [decide_eq_false_iff_not]; omega
  go_enter Tryd.func54, Tryd.ntmps54
  go_wp2
  go_loop [10] (fun v => ∃ k : Nat, k ≤ 1 ∧ v = .int .i64 k) (fun v => 1 - (intOf v).toNat)
  case atStart => exact ⟨0, by omega, rfl⟩
  case round =>
    obtain ⟨k, hk, rfl⟩ := hrel
    obtain rfl | rfl : k = 0 ∨ k = 1 := by omega
    · go_wp2
      go_round
      case rel => exact ⟨1, by omega, rfl⟩
      case measure => simp [intOf]
    · go_wp2
      go_end0
      exact ⟨rfl, rfl⟩

set_option maxHeartbeats 1000000 in
theorem within1_no1l (lo hi i : Int) (b cap : Nat) (w : World) (c0 : w.cell? ⟨b, 0, none⟩ = some (.int .i64 i)) (l0 : i < lo) :
    Calls Tryd.prog 54 #[.int .i64 lo, .int .i64 hi, .slice (some ⟨b, 0, none⟩) 1 cap] w fun e w' => e = bRef 7 ∧ w = w' := by
  have d0 : decide (i < lo) = true := by simp only [decide_eq_true_eq]; omega
  go_enter Tryd.func54, Tryd.ntmps54
  go_wp2
  go_loop [10] (fun v => ∃ k : Nat, k ≤ 0 ∧ v = .int .i64 k) (fun v => 0 - (intOf v).toNat)
  case atStart => exact ⟨0, by omega, rfl⟩
  case round =>
    obtain ⟨k, hk, rfl⟩ := hrel
    obtain rfl : k = 0 := by omega
    go_wp2_with (go_at_call 41; refine (bRefuse _ _).mono ?_; rintro e w3 ⟨rfl, rfl⟩)
    exact ⟨rfl, rfl, rfl⟩

set_option maxHeartbeats 1000000 in
theorem within1_no1h (lo hi i : Int) (b cap : Nat) (w : World) (c0 : w.cell? ⟨b, 0, none⟩ = some (.int .i64 i)) (l0 : lo ≤ i) (h0 : hi < i) :
    Calls Tryd.prog 54 #[.int .i64 lo, .int .i64 hi, .slice (some ⟨b, 0, none⟩) 1 cap] w fun e w' => e = bRef 7 ∧ w = w' := by
  have d0 : decide (i < lo) = false := by simp only [decide_eq_false_iff_not]; omega
  have g0 : decide (hi < i) = true := by simp only [decide_eq_true_eq]; omega
  go_enter Tryd.func54, Tryd.ntmps54
  go_wp2
  go_loop [10] (fun v => ∃ k : Nat, k ≤ 0 ∧ v = .int .i64 k) (fun v => 0 - (intOf v).toNat)
  case atStart => exact ⟨0, by omega, rfl⟩
  case round =>
    obtain ⟨k, hk, rfl⟩ := hrel
    obtain rfl : k = 0 := by omega
    go_wp2_with (go_at_call 41; refine (bRefuse _ _).mono ?_; rintro e w3 ⟨rfl, rfl⟩)
    exact ⟨rfl, rfl, rfl⟩

set_option maxHeartbeats 1000000 in
theorem within2_ok (lo hi i n : Int) (b cap : Nat) (w : World) (c0 : w.cell? ⟨b, 0, none⟩ = some (.int .i64 i)) (c1 : w.cell? ⟨b, 1, none⟩ = some (.int .i64 n)) (l0 : lo ≤ i) (h0 : i ≤ hi) (l1 : lo ≤ n) (h1 : n ≤ hi) :
    Calls Tryd.prog 54 #[.int .i64 lo, .int .i64 hi, .slice (some ⟨b, 0, none⟩) 2 cap] w fun e w' => e = .returned (.tuple #[]) ∧ w = w' := by
  have d0 : decide (i < lo) = false := by simp only [decide_eq_false_iff_not]; omega
  have g0 : decide (hi < i) = false := by simp only [decide_eq_false_iff_not]; omega
  have d1 : decide (n < lo) = false := by simp only [decide_eq_false_iff_not]; omega
  have g1 : decide (hi < n) = false := by simp only [decide_eq_false_iff_not]; omega
  go_enter Tryd.func54, Tryd.ntmps54
  go_wp2
  go_loop [10] (fun v => ∃ k : Nat, k ≤ 2 ∧ v = .int .i64 k) (fun v => 2 - (intOf v).toNat)
  case atStart => exact ⟨0, by omega, rfl⟩
  case round =>
    obtain ⟨k, hk, rfl⟩ := hrel
    obtain rfl | rfl | rfl : k = 0 ∨ k = 1 ∨ k = 2 := by omega
    · go_wp2
      go_round
      case rel => exact ⟨1, by omega, rfl⟩
      case measure => simp [intOf]
    · go_wp2
      go_round
      case rel => exact ⟨2, by omega, rfl⟩
      case measure => simp [intOf]
    · go_wp2
      go_end0
      exact ⟨rfl, rfl⟩

set_option maxHeartbeats 1000000 in
theorem within2_no1l (lo hi i n : Int) (b cap : Nat) (w : World) (c0 : w.cell? ⟨b, 0, none⟩ = some (.int .i64 i)) (_c1 : w.cell? ⟨b, 1, none⟩ = some (.int .i64 n)) (l0 : i < lo) :
    Calls Tryd.prog 54 #[.int .i64 lo, .int .i64 hi, .slice (some ⟨b, 0, none⟩) 2 cap] w fun e w' => e = bRef 7 ∧ w = w' := by
  have d0 : decide (i < lo) = true := by simp only [decide_eq_true_eq]; omega
  go_enter Tryd.func54, Tryd.ntmps54
  go_wp2
  go_loop [10] (fun v => ∃ k : Nat, k ≤ 0 ∧ v = .int .i64 k) (fun v => 0 - (intOf v).toNat)
  case atStart => exact ⟨0, by omega, rfl⟩
  case round =>
    obtain ⟨k, hk, rfl⟩ := hrel
    obtain rfl : k = 0 := by omega
    go_wp2_with (go_at_call 41; refine (bRefuse _ _).mono ?_; rintro e w3 ⟨rfl, rfl⟩)
    exact ⟨rfl, rfl, rfl⟩

set_option maxHeartbeats 1000000 in
theorem within2_no1h (lo hi i n : Int) (b cap : Nat) (w : World) (c0 : w.cell? ⟨b, 0, none⟩ = some (.int .i64 i)) (_c1 : w.cell? ⟨b, 1, none⟩ = some (.int .i64 n)) (l0 : lo ≤ i) (h0 : hi < i) :
    Calls Tryd.prog 54 #[.int .i64 lo, .int .i64 hi, .slice (some ⟨b, 0, none⟩) 2 cap] w fun e w' => e = bRef 7 ∧ w = w' := by
  have d0 : decide (i < lo) = false := by simp only [decide_eq_false_iff_not]; omega
  have g0 : decide (hi < i) = true := by simp only [decide_eq_true_eq]; omega
  go_enter Tryd.func54, Tryd.ntmps54
  go_wp2
  go_loop [10] (fun v => ∃ k : Nat, k ≤ 0 ∧ v = .int .i64 k) (fun v => 0 - (intOf v).toNat)
  case atStart => exact ⟨0, by omega, rfl⟩
  case round =>
    obtain ⟨k, hk, rfl⟩ := hrel
    obtain rfl : k = 0 := by omega
    go_wp2_with (go_at_call 41; refine (bRefuse _ _).mono ?_; rintro e w3 ⟨rfl, rfl⟩)
    exact ⟨rfl, rfl, rfl⟩

set_option maxHeartbeats 1000000 in
theorem within2_no2l (lo hi i n : Int) (b cap : Nat) (w : World) (c0 : w.cell? ⟨b, 0, none⟩ = some (.int .i64 i)) (c1 : w.cell? ⟨b, 1, none⟩ = some (.int .i64 n)) (l0 : lo ≤ i) (h0 : i ≤ hi) (l1 : n < lo) :
    Calls Tryd.prog 54 #[.int .i64 lo, .int .i64 hi, .slice (some ⟨b, 0, none⟩) 2 cap] w fun e w' => e = bRef 7 ∧ w = w' := by
  have d0 : decide (i < lo) = false := by simp only [decide_eq_false_iff_not]; omega
  have g0 : decide (hi < i) = false := by simp only [decide_eq_false_iff_not]; omega
  have d1 : decide (n < lo) = true := by simp only [decide_eq_true_eq]; omega
  go_enter Tryd.func54, Tryd.ntmps54
  go_wp2
  go_loop [10] (fun v => ∃ k : Nat, k ≤ 1 ∧ v = .int .i64 k) (fun v => 1 - (intOf v).toNat)
  case atStart => exact ⟨0, by omega, rfl⟩
  case round =>
    obtain ⟨k, hk, rfl⟩ := hrel
    obtain rfl | rfl : k = 0 ∨ k = 1 := by omega
    · go_wp2
      go_round
      case rel => exact ⟨1, by omega, rfl⟩
      case measure => simp [intOf]
    · go_wp2_with (go_at_call 41; refine (bRefuse _ _).mono ?_; rintro e w3 ⟨rfl, rfl⟩)
      exact ⟨rfl, rfl, rfl⟩

set_option maxHeartbeats 1000000 in
theorem within2_no2h (lo hi i n : Int) (b cap : Nat) (w : World) (c0 : w.cell? ⟨b, 0, none⟩ = some (.int .i64 i)) (c1 : w.cell? ⟨b, 1, none⟩ = some (.int .i64 n)) (l0 : lo ≤ i) (h0 : i ≤ hi) (l1 : lo ≤ n) (h1 : hi < n) :
    Calls Tryd.prog 54 #[.int .i64 lo, .int .i64 hi, .slice (some ⟨b, 0, none⟩) 2 cap] w fun e w' => e = bRef 7 ∧ w = w' := by
  have d0 : decide (i < lo) = false := by simp only [decide_eq_false_iff_not]; omega
  have g0 : decide (hi < i) = false := by simp only [decide_eq_false_iff_not]; omega
  have d1 : decide (n < lo) = false := by simp only [decide_eq_false_iff_not]; omega
  have g1 : decide (hi < n) = true := by simp only [decide_eq_true_eq]; omega
  go_enter Tryd.func54, Tryd.ntmps54
  go_wp2
  go_loop [10] (fun v => ∃ k : Nat, k ≤ 1 ∧ v = .int .i64 k) (fun v => 1 - (intOf v).toNat)
  case atStart => exact ⟨0, by omega, rfl⟩
  case round =>
    obtain ⟨k, hk, rfl⟩ := hrel
    obtain rfl | rfl : k = 0 ∨ k = 1 := by omega
    · go_wp2
      go_round
      case rel => exact ⟨1, by omega, rfl⟩
      case measure => simp [intOf]
    · go_wp2_with (go_at_call 41; refine (bRefuse _ _).mono ?_; rintro e w3 ⟨rfl, rfl⟩)
      exact ⟨rfl, rfl, rfl⟩


/-- A plain number. -/
def plainI (i : Int) : Bool := decide (-1000000000 ≤ i) && decide (i ≤ 1000000000)
theorem plainI_yes {i : Int} (h : plainI i = true) : -1000000000 ≤ i ∧ i ≤ 1000000000 := by simpa [plainI] using h
theorem plainI_no {i : Int} (h : plainI i = false) : i < -1000000000 ∨ (-1000000000 ≤ i ∧ 1000000000 < i) := by
  have : ¬ (-1000000000 ≤ i ∧ i ≤ 1000000000) := fun e => by simp [plainI, e] at h
  omega

theorem within1_no (lo hi i : Int) (b cap : Nat) (w : World) (c0 : w.cell? ⟨b, 0, none⟩ = some (.int .i64 i)) (h : i < lo ∨ (lo ≤ i ∧ hi < i)) :
    Calls Tryd.prog 54 #[.int .i64 lo, .int .i64 hi, .slice (some ⟨b, 0, none⟩) 1 cap] w fun e w' => e = bRef 7 ∧ w = w' := by
  rcases h with h | h
  · exact within1_no1l lo hi i b cap w c0 h
  · exact within1_no1h lo hi i b cap w c0 h.1 h.2
theorem within2_no (lo hi i n : Int) (b cap : Nat) (w : World) (c0 : w.cell? ⟨b, 0, none⟩ = some (.int .i64 i)) (c1 : w.cell? ⟨b, 1, none⟩ = some (.int .i64 n)) (h : (i < lo ∨ (lo ≤ i ∧ hi < i)) ∨ ((lo ≤ i ∧ i ≤ hi) ∧ (n < lo ∨ (lo ≤ n ∧ hi < n)))) :
    Calls Tryd.prog 54 #[.int .i64 lo, .int .i64 hi, .slice (some ⟨b, 0, none⟩) 2 cap] w fun e w' => e = bRef 7 ∧ w = w' := by
  rcases h with (h | h) | ⟨g, h | h⟩
  · exact within2_no1l lo hi i n b cap w c0 c1 h
  · exact within2_no1h lo hi i n b cap w c0 c1 h.1 h.2
  · exact within2_no2l lo hi i n b cap w c0 c1 g.1 g.2 h
  · exact within2_no2h lo hi i n b cap w c0 c1 g.1 g.2 h.1 h.2

set_option maxHeartbeats 400000 in
theorem counts1_ok (i : Int) (b cap : Nat) (w : World) (c0 : w.cell? ⟨b, 0, none⟩ = some (.int .i64 i)) (h : plainI i = true) :
    Calls Tryd.prog 38 #[.slice (some ⟨b, 0, none⟩) 1 cap] w fun e w' => e = .returned (.tuple #[]) ∧ w = w' := by
  have H := Lib.hid (plainI_yes h)
  clear h
  go_enter Tryd.func38, Tryd.ntmps38
  go_wp2_with (go_at_call 54; refine (within1_ok _ _ i b cap _ c0 H.out.1 H.out.2).mono ?_; rintro e w1 ⟨rfl, rfl⟩)
  go_end0
  exact ⟨rfl, rfl⟩
set_option maxHeartbeats 400000 in
theorem counts1_no (i : Int) (b cap : Nat) (w : World) (c0 : w.cell? ⟨b, 0, none⟩ = some (.int .i64 i)) (h : plainI i = false) :
    Calls Tryd.prog 38 #[.slice (some ⟨b, 0, none⟩) 1 cap] w fun e w' => e = bRef 7 ∧ w = w' := by
  have H := Lib.hid (plainI_no h)
  clear h
  go_enter Tryd.func38, Tryd.ntmps38
  go_wp2_with (go_at_call 54; refine (within1_no _ _ i b cap _ c0 H.out).mono ?_; rintro e w1 ⟨rfl, rfl⟩)
  exact ⟨rfl, rfl, rfl⟩
set_option maxHeartbeats 400000 in
theorem counts2_ok (i n : Int) (b cap : Nat) (w : World) (c0 : w.cell? ⟨b, 0, none⟩ = some (.int .i64 i)) (c1 : w.cell? ⟨b, 1, none⟩ = some (.int .i64 n)) (h : plainI i = true) (h' : plainI n = true) :
    Calls Tryd.prog 38 #[.slice (some ⟨b, 0, none⟩) 2 cap] w fun e w' => e = .returned (.tuple #[]) ∧ w = w' := by
  have H := Lib.hid (plainI_yes h)
  have H' := Lib.hid (plainI_yes h')
  clear h h'
  go_enter Tryd.func38, Tryd.ntmps38
  go_wp2_with (go_at_call 54; refine (within2_ok _ _ i n b cap _ c0 c1 H.out.1 H.out.2 H'.out.1 H'.out.2).mono ?_; rintro e w1 ⟨rfl, rfl⟩)
  go_end0
  exact ⟨rfl, rfl⟩
set_option maxHeartbeats 400000 in
theorem counts2_no (i n : Int) (b cap : Nat) (w : World) (c0 : w.cell? ⟨b, 0, none⟩ = some (.int .i64 i)) (c1 : w.cell? ⟨b, 1, none⟩ = some (.int .i64 n)) (h : (plainI i && plainI n) = false) :
    Calls Tryd.prog 38 #[.slice (some ⟨b, 0, none⟩) 2 cap] w fun e w' => e = bRef 7 ∧ w = w' := by
  have H : Hid ((i < -1000000000 ∨ (-1000000000 ≤ i ∧ 1000000000 < i)) ∨ ((-1000000000 ≤ i ∧ i ≤ 1000000000) ∧ (n < -1000000000 ∨ (-1000000000 ≤ n ∧ 1000000000 < n)))) := by
    show _ ∨ _
    cases h1 : plainI i with
    | false => exact .inl (plainI_no h1)
    | true => exact .inr ⟨plainI_yes h1, plainI_no (by simpa [h1] using h)⟩
  clear h
  go_enter Tryd.func38, Tryd.ntmps38
  go_wp2_with (go_at_call 54; refine (within2_no _ _ i n b cap _ c0 c1 H.out).mono ?_; rintro e w1 ⟨rfl, rfl⟩)
  exact ⟨rfl, rfl, rfl⟩

/- demandRoom -/
def roomB (l : Nat) (t : Int) : Bool := l == 0 || decide (t ≤ 250 / (l : Int))
/- demandTable -/
theorem spanOf_5' (w : World) :
    Calls Tryd.prog 23 #[.iface 76 (.agg #[])] w fun e w' => e = .returned (.tuple #[spV 5, .bool true]) ∧ Below w.heap.size w w' := spanOf_5 w
end Go.Proofs.YtljbkpnfjgnhnaaDoor
