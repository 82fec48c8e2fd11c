/- Package bits: demandWithin of one number or two, demandCounts, demandRoom, demandTable. -/
import Derived.Test.YtgoghblfficfpaaBitAns
namespace Go.Proofs.Ytgoghblfficfpaa
open Go.RowKit

set_option maxHeartbeats 1000000 in
theorem within1_ok (lo hi i : Int) (b cap : Nat) (w : World) (c0 : w.cell? ⟨b, 0, none⟩ = some (.int .i64 i)) (l0 : lo ≤ i) (h0 : i ≤ hi) :
    Calls Try.prog 93 #[.int .i64 lo, .int .i64 hi, .slice (some ⟨b, 0, none⟩) 1 cap] w fun e w' => e = .returned (.tuple #[]) ∧ w = w' := by
  have d0 : decide (i < lo) = false := by simp only [decide_eq_false_iff_not]; omega
  have g0 : decide (hi < i) = false := by simp only [decide_eq_false_iff_not]; omega
  go_enter Try.func93, Try.ntmps93
  go_wp2
  go_loop [10] (fun v => ∃ k : Nat, k ≤ 1 ∧ v = .int .i64 k) (fun v => 1 - (intOf v).toNat)
  case atStart => exact ⟨0, by omega, rfl⟩
  case round =>
    obtain ⟨k, hk, rfl⟩ := hrel
    obtain rfl | rfl : k = 0 ∨ k = 1 := by omega
    · go_wp2
      go_round
      case rel => exact ⟨1, by omega, rfl⟩
      case measure => simp [intOf]
    · go_wp2
      go_end0
      exact ⟨rfl, rfl⟩

set_option maxHeartbeats 1000000 in
theorem within1_no1l (lo hi i : Int) (b cap : Nat) (w : World) (c0 : w.cell? ⟨b, 0, none⟩ = some (.int .i64 i)) (l0 : i < lo) :
    Calls Try.prog 93 #[.int .i64 lo, .int .i64 hi, .slice (some ⟨b, 0, none⟩) 1 cap] w fun e w' => e = bRef 7 ∧ w = w' := by
  have d0 : decide (i < lo) = true := by simp only [decide_eq_true_eq]; omega
  go_enter Try.func93, Try.ntmps93
  go_wp2
  go_loop [10] (fun v => ∃ k : Nat, k ≤ 0 ∧ v = .int .i64 k) (fun v => 0 - (intOf v).toNat)
  case atStart => exact ⟨0, by omega, rfl⟩
  case round =>
    obtain ⟨k, hk, rfl⟩ := hrel
    obtain rfl : k = 0 := by omega
    go_wp2_with (go_at_call 120; refine (bRefuse _ _).mono ?_; rintro e w3 ⟨rfl, rfl⟩)
    exact ⟨rfl, rfl, rfl⟩

set_option maxHeartbeats 1000000 in
theorem within1_no1h (lo hi i : Int) (b cap : Nat) (w : World) (c0 : w.cell? ⟨b, 0, none⟩ = some (.int .i64 i)) (l0 : lo ≤ i) (h0 : hi < i) :
    Calls Try.prog 93 #[.int .i64 lo, .int .i64 hi, .slice (some ⟨b, 0, none⟩) 1 cap] w fun e w' => e = bRef 7 ∧ w = w' := by
  have d0 : decide (i < lo) = false := by simp only [decide_eq_false_iff_not]; omega
  have g0 : decide (hi < i) = true := by simp only [decide_eq_true_eq]; omega
  go_enter Try.func93, Try.ntmps93
  go_wp2
  go_loop [10] (fun v => ∃ k : Nat, k ≤ 0 ∧ v = .int .i64 k) (fun v => 0 - (intOf v).toNat)
  case atStart => exact ⟨0, by omega, rfl⟩
  case round =>
    obtain ⟨k, hk, rfl⟩ := hrel
    obtain rfl : k = 0 := by omega
    go_wp2_with (go_at_call 120; refine (bRefuse _ _).mono ?_; rintro e w3 ⟨rfl, rfl⟩)
    exact ⟨rfl, rfl, rfl⟩

set_option maxHeartbeats 1000000 in
theorem within2_ok (lo hi i n : Int) (b cap : Nat) (w : World) (c0 : w.cell? ⟨b, 0, none⟩ = some (.int .i64 i)) (c1 : w.cell? ⟨b, 1, none⟩ = some (.int .i64 n)) (l0 : lo ≤ i) (h0 : i ≤ hi) (l1 : lo ≤ n) (h1 : n ≤ hi) :
    Calls Try.prog 93 #[.int .i64 lo, .int .i64 hi, .slice (some ⟨b, 0, none⟩) 2 cap] w fun e w' => e = .returned (.tuple #[]) ∧ w = w' := by
  have d0 : decide (i < lo) = false := by simp only [decide_eq_false_iff_not]; omega
  have g0 : decide (hi < i) = false := by simp only [decide_eq_false_iff_not]; omega
  have d1 : decide (n < lo) = false := by simp only [decide_eq_false_iff_not]; omega
  have g1 : decide (hi < n) = false := by simp only [decide_eq_false_iff_not]; omega
  go_enter Try.func93, Try.ntmps93
  go_wp2
  go_loop [10] (fun v => ∃ k : Nat, k ≤ 2 ∧ v = .int .i64 k) (fun v => 2 - (intOf v).toNat)
  case atStart => exact ⟨0, by omega, rfl⟩
  case round =>
    obtain ⟨k, hk, rfl⟩ := hrel
    obtain rfl | rfl | rfl : k = 0 ∨ k = 1 ∨ k = 2 := by omega
    · go_wp2
      go_round
      case rel => exact ⟨1, by omega, rfl⟩
      case measure => simp [intOf]
    · go_wp2
      go_round
      case rel => exact ⟨2, by omega, rfl⟩
      case measure => simp [intOf]
    · go_wp2
      go_end0
      exact ⟨rfl, rfl⟩

set_option maxHeartbeats 1000000 in
theorem within2_no1l (lo hi i n : Int) (b cap : Nat) (w : World) (c0 : w.cell? ⟨b, 0, none⟩ = some (.int .i64 i)) (_c1 : w.cell? ⟨b, 1, none⟩ = some (.int .i64 n)) (l0 : i < lo) :
    Calls Try.prog 93 #[.int .i64 lo, .int .i64 hi, .slice (some ⟨b, 0, none⟩) 2 cap] w fun e w' => e = bRef 7 ∧ w = w' := by
  have d0 : decide (i < lo) = true := by simp only [decide_eq_true_eq]; omega
  go_enter Try.func93, Try.ntmps93
  go_wp2
  go_loop [10] (fun v => ∃ k : Nat, k ≤ 0 ∧ v = .int .i64 k) (fun v => 0 - (intOf v).toNat)
  case atStart => exact ⟨0, by omega, rfl⟩
  case round =>
    obtain ⟨k, hk, rfl⟩ := hrel
    obtain rfl : k = 0 := by omega
    go_wp2_with (go_at_call 120; refine (bRefuse _ _).mono ?_; rintro e w3 ⟨rfl, rfl⟩)
    exact ⟨rfl, rfl, rfl⟩

set_option maxHeartbeats 1000000 in
theorem within2_no1h (lo hi i n : Int) (b cap : Nat) (w : World) (c0 : w.cell? ⟨b, 0, none⟩ = some (.int .i64 i)) (_c1 : w.cell? ⟨b, 1, none⟩ = some (.int .i64 n)) (l0 : lo ≤ i) (h0 : hi < i) :
    Calls Try.prog 93 #[.int .i64 lo, .int .i64 hi, .slice (some ⟨b, 0, none⟩) 2 cap] w fun e w' => e = bRef 7 ∧ w = w' := by
  have d0 : decide (i < lo) = false := by simp only [decide_eq_false_iff_not]; omega
  have g0 : decide (hi < i) = true := by simp only [decide_eq_true_eq]; omega
  go_enter Try.func93, Try.ntmps93
  go_wp2
  go_loop [10] (fun v => ∃ k : Nat, k ≤ 0 ∧ v = .int .i64 k) (fun v => 0 - (intOf v).toNat)
  case atStart => exact ⟨0, by omega, rfl⟩
  case round =>
    obtain ⟨k, hk, rfl⟩ := hrel
    obtain rfl : k = 0 := by omega
    go_wp2_with (go_at_call 120; refine (bRefuse _ _).mono ?_; rintro e w3 ⟨rfl, rfl⟩)
    exact ⟨rfl, rfl, rfl⟩

set_option maxHeartbeats 1000000 in
theorem within2_no2l (lo hi i n : Int) (b cap : Nat) (w : World) (c0 : w.cell? ⟨b, 0, none⟩ = some (.int .i64 i)) (c1 : w.cell? ⟨b, 1, none⟩ = some (.int .i64 n)) (l0 : lo ≤ i) (h0 : i ≤ hi) (l1 : n < lo) :
    Calls Try.prog 93 #[.int .i64 lo, .int .i64 hi, .slice (some ⟨b, 0, none⟩) 2 cap] w fun e w' => e = bRef 7 ∧ w = w' := by
  have d0 : decide (i < lo) = false := by simp only [decide_eq_false_iff_not]; omega
  have g0 : decide (hi < i) = false := by simp only [decide_eq_false_iff_not]; omega
  have d1 : decide (n < lo) = true := by simp only [decide_eq_true_eq]; omega
  go_enter Try.func93, Try.ntmps93
  go_wp2
  go_loop [10] (fun v => ∃ k : Nat, k ≤ 1 ∧ v = .int .i64 k) (fun v => 1 - (intOf v).toNat)
  case atStart => exact ⟨0, by omega, rfl⟩
  case round =>
    obtain ⟨k, hk, rfl⟩ := hrel
    obtain rfl | rfl : k = 0 ∨ k = 1 := by omega
    · go_wp2
      go_round
      case rel => exact ⟨1, by omega, rfl⟩
      case measure => simp [intOf]
    · go_wp2_with (go_at_call 120; refine (bRefuse _ _).mono ?_; rintro e w3 ⟨rfl, rfl⟩)
      exact ⟨rfl, rfl, rfl⟩

set_option maxHeartbeats 1000000 in
theorem within2_no2h (lo hi i n : Int) (b cap : Nat) (w : World) (c0 : w.cell? ⟨b, 0, none⟩ = some (.int .i64 i)) (c1 : w.cell? ⟨b, 1, none⟩ = some (.int .i64 n)) (l0 : lo ≤ i) (h0 : i ≤ hi) (l1 : lo ≤ n) (h1 : hi < n) :
    Calls Try.prog 93 #[.int .i64 lo, .int .i64 hi, .slice (some ⟨b, 0, none⟩) 2 cap] w fun e w' => e = bRef 7 ∧ w = w' := by
  have d0 : decide (i < lo) = false := by simp only [decide_eq_false_iff_not]; omega
  have g0 : decide (hi < i) = false := by simp only [decide_eq_false_iff_not]; omega
  have d1 : decide (n < lo) = false := by simp only [decide_eq_false_iff_not]; omega
  have g1 : decide (hi < n) = true := by simp only [decide_eq_true_eq]; omega
  go_enter Try.func93, Try.ntmps93
  go_wp2
  go_loop [10] (fun v => ∃ k : Nat, k ≤ 1 ∧ v = .int .i64 k) (fun v => 1 - (intOf v).toNat)
  case atStart => exact ⟨0, by omega, rfl⟩
  case round =>
    obtain ⟨k, hk, rfl⟩ := hrel
    obtain rfl | rfl : k = 0 ∨ k = 1 := by omega
    · go_wp2
      go_round
      case rel => exact ⟨1, by omega, rfl⟩
      case measure => simp [intOf]
    · go_wp2_with (go_at_call 120; refine (bRefuse _ _).mono ?_; rintro e w3 ⟨rfl, rfl⟩)
      exact ⟨rfl, rfl, rfl⟩


/-- A plain number. -/
def plainI (i : Int) : Bool := decide (-1000000000 ≤ i) && decide (i ≤ 1000000000)
theorem plainI_yes {i : Int} (h : plainI i = true) : -1000000000 ≤ i ∧ i ≤ 1000000000 := by simpa [plainI] using h
theorem plainI_no {i : Int} (h : plainI i = false) : i < -1000000000 ∨ (-1000000000 ≤ i ∧ 1000000000 < i) := by
  have : ¬ (-1000000000 ≤ i ∧ i ≤ 1000000000) := fun e => by simp [plainI, e] at h
  omega

theorem within1_no (lo hi i : Int) (b cap : Nat) (w : World) (c0 : w.cell? ⟨b, 0, none⟩ = some (.int .i64 i)) (h : i < lo ∨ (lo ≤ i ∧ hi < i)) :
    Calls Try.prog 93 #[.int .i64 lo, .int .i64 hi, .slice (some ⟨b, 0, none⟩) 1 cap] w fun e w' => e = bRef 7 ∧ w = w' := by
  rcases h with h | h
  · exact within1_no1l lo hi i b cap w c0 h
  · exact within1_no1h lo hi i b cap w c0 h.1 h.2
theorem within2_no (lo hi i n : Int) (b cap : Nat) (w : World) (c0 : w.cell? ⟨b, 0, none⟩ = some (.int .i64 i)) (c1 : w.cell? ⟨b, 1, none⟩ = some (.int .i64 n)) (h : (i < lo ∨ (lo ≤ i ∧ hi < i)) ∨ ((lo ≤ i ∧ i ≤ hi) ∧ (n < lo ∨ (lo ≤ n ∧ hi < n)))) :
    Calls Try.prog 93 #[.int .i64 lo, .int .i64 hi, .slice (some ⟨b, 0, none⟩) 2 cap] w fun e w' => e = bRef 7 ∧ w = w' := by
  rcases h with (h | h) | ⟨g, h | h⟩
  · exact within2_no1l lo hi i n b cap w c0 c1 h
  · exact within2_no1h lo hi i n b cap w c0 c1 h.1 h.2
  · exact within2_no2l lo hi i n b cap w c0 c1 g.1 g.2 h
  · exact within2_no2h lo hi i n b cap w c0 c1 g.1 g.2 h.1 h.2

set_option maxHeartbeats 400000 in
theorem counts1_ok (i : Int) (b cap : Nat) (w : World) (c0 : w.cell? ⟨b, 0, none⟩ = some (.int .i64 i)) (h : plainI i = true) :
    Calls Try.prog 58 #[.slice (some ⟨b, 0, none⟩) 1 cap] w fun e w' => e = .returned (.tuple #[]) ∧ w = w' := by
  have H := Lib.hid (plainI_yes h)
  clear h
  go_enter Try.func58, Try.ntmps58
  go_wp2_with (go_at_call 93; refine (within1_ok _ _ i b cap _ c0 H.out.1 H.out.2).mono ?_; rintro e w1 ⟨rfl, rfl⟩)
  go_end0
  exact ⟨rfl, rfl⟩
set_option maxHeartbeats 400000 in
theorem counts1_no (i : Int) (b cap : Nat) (w : World) (c0 : w.cell? ⟨b, 0, none⟩ = some (.int .i64 i)) (h : plainI i = false) :
    Calls Try.prog 58 #[.slice (some ⟨b, 0, none⟩) 1 cap] w fun e w' => e = bRef 7 ∧ w = w' := by
  have H := Lib.hid (plainI_no h)
  clear h
  go_enter Try.func58, Try.ntmps58
  go_wp2_with (go_at_call 93; refine (within1_no _ _ i b cap _ c0 H.out).mono ?_; rintro e w1 ⟨rfl, rfl⟩)
  exact ⟨rfl, rfl, rfl⟩
set_option maxHeartbeats 400000 in
theorem counts2_ok (i n : Int) (b cap : Nat) (w : World) (c0 : w.cell? ⟨b, 0, none⟩ = some (.int .i64 i)) (c1 : w.cell? ⟨b, 1, none⟩ = some (.int .i64 n)) (h : plainI i = true) (h' : plainI n = true) :
    Calls Try.prog 58 #[.slice (some ⟨b, 0, none⟩) 2 cap] w fun e w' => e = .returned (.tuple #[]) ∧ w = w' := by
  have H := Lib.hid (plainI_yes h)
  have H' := Lib.hid (plainI_yes h')
  clear h h'
  go_enter Try.func58, Try.ntmps58
  go_wp2_with (go_at_call 93; refine (within2_ok _ _ i n b cap _ c0 c1 H.out.1 H.out.2 H'.out.1 H'.out.2).mono ?_; rintro e w1 ⟨rfl, rfl⟩)
  go_end0
  exact ⟨rfl, rfl⟩
set_option maxHeartbeats 400000 in
theorem counts2_no (i n : Int) (b cap : Nat) (w : World) (c0 : w.cell? ⟨b, 0, none⟩ = some (.int .i64 i)) (c1 : w.cell? ⟨b, 1, none⟩ = some (.int .i64 n)) (h : (plainI i && plainI n) = false) :
    Calls Try.prog 58 #[.slice (some ⟨b, 0, none⟩) 2 cap] w fun e w' => e = bRef 7 ∧ w = w' := by
  have H : Hid ((i < -1000000000 ∨ (-1000000000 ≤ i ∧ 1000000000 < i)) ∨ ((-1000000000 ≤ i ∧ i ≤ 1000000000) ∧ (n < -1000000000 ∨ (-1000000000 ≤ n ∧ 1000000000 < n)))) := by
    show _ ∨ _
    cases h1 : plainI i with
    | false => exact .inl (plainI_no h1)
    | true => exact .inr ⟨plainI_yes h1, plainI_no (by simpa [h1] using h)⟩
  clear h
  go_enter Try.func58, Try.ntmps58
  go_wp2_with (go_at_call 93; refine (within2_no _ _ i n b cap _ c0 c1 H.out).mono ?_; rintro e w1 ⟨rfl, rfl⟩)
  exact ⟨rfl, rfl, rfl⟩

/- demandRoom -/
def roomB (l : Nat) (t : Int) : Bool := l == 0 || decide (t ≤ 250 / (l : Int))
set_option maxHeartbeats 1000000 in
theorem room_yes (l : Nat) (t : Int) (w : World) (hl : l ≤ 1000000) (h : roomB l t = true) :
    Calls Try.prog 98 #[.int .i64 l, .int .i64 t] w fun e w' => e = .returned (.tuple #[]) ∧ w = w' := by
  by_cases h0 : l = 0
  · subst h0
    go_enter Try.func98, Try.ntmps98
    go_wp2
    go_end0
    exact ⟨rfl, rfl⟩
  · have h1 : (1 : Int) ≤ l := by omega
    have h2 : t ≤ 250 / (l : Int) := by simpa [roomB, h0] using h
    have d1 : decide (0 < (l : Int)) = true := by simp only [decide_eq_true_eq]; omega
    have d1' : decide (0 < l) = true := by simp only [decide_eq_true_eq]; omega
    have d2 : decide (250 / (l : Int) < t) = false := by simp only [decide_eq_false_iff_not]; omega
    clear h h2 h0
    go_enter Try.func98, Try.ntmps98
    go_wp2
    go_end0
    exact ⟨rfl, rfl⟩
set_option maxHeartbeats 1000000 in
theorem room_no (l : Nat) (t : Int) (w : World) (hl : l ≤ 1000000) (h : roomB l t = false) :
    Calls Try.prog 98 #[.int .i64 l, .int .i64 t] w fun e w' => e = bRef 3 ∧ w = w' := by
  have h0 : l ≠ 0 := fun e => by simp [roomB, e] at h
  have h1 : (1 : Int) ≤ l := by omega
  have h2 : 250 / (l : Int) < t := by simpa [roomB, h0] using h
  have d1 : decide (0 < (l : Int)) = true := by simp only [decide_eq_true_eq]; omega
  have d1' : decide (0 < l) = true := by simp only [decide_eq_true_eq]; omega
  have d2 : decide (250 / (l : Int) < t) = true := by simp only [decide_eq_true_eq]; omega
  clear h h2 h0
  go_enter Try.func98, Try.ntmps98
  go_wp2_with (go_at_call 120; refine (bRefuse _ _).mono ?_; rintro e w3 ⟨rfl, rfl⟩)
  exact ⟨rfl, rfl, rfl⟩

/- demandTable -/
theorem spanOf_5' (w : World) :
    Calls Try.prog 94 #[.iface 101 (.agg #[])] w fun e w' => e = .returned (.tuple #[spV 5, .bool true]) ∧ Below w.heap.size w w' := spanOf_5 w
set_option maxHeartbeats 1000000 in
theorem table_yes (s : ByteArray) (w : World) (h : okTab s.data.toList = true) :
    Calls Try.prog 104 #[.string s] w fun e w' => e = .returned (.tuple #[]) ∧ Below w.heap.size w w' := by
  have hl : (s.size : Int) = 4 := by
    simp only [okTab, Bool.and_eq_true, decide_eq_true_eq, lsz] at h; omega
  have ha : s.data.toList.all (okC 5) = true := by simp only [okTab, Bool.and_eq_true] at h; exact h.2
  have e1 : ((s.size : Int) != 4) = false := by rw [hl]; rfl
  have HL : Hid (s.size ≤ 9223372036854775807) := by show _ ≤ _; omega
  have HA := Lib.hid ha
  clear h hl ha
  go_enter Try.func104, Try.ntmps104
  go_wp2_with (first
    | (go_at_call 94; refine (spanOf_5' _).mono ?_; rintro e w1 ⟨rfl, hb1⟩)
    | (go_at_call 140; refine (hasAll_k 5 s _ HL.out).mono ?_; rw [HA.out]; rintro e w3 ⟨rfl, hb3⟩; have B3 := bl_box hb1 hb3))
  go_end0
  exact ⟨rfl, B3⟩
set_option maxHeartbeats 1000000 in
theorem table_no (s : ByteArray) (w : World) (hs : s.size ≤ maxLen) (h : okTab s.data.toList = false) :
    Calls Try.prog 104 #[.string s] w fun e w' => e = bRef 7 ∧ Below w.heap.size w w' := by
  unfold maxLen at hs
  by_cases hl : (s.size : Int) = 4
  · have ha : s.data.toList.all (okC 5) = false := by
      simp only [okTab, lsz] at h
      rw [decide_eq_true (by omega)] at h
      simpa using h
    have e1 : ((s.size : Int) != 4) = false := by rw [hl]; rfl
    have HL : Hid (s.size ≤ 9223372036854775807) := by show _ ≤ _; omega
    have HA := Lib.hid ha
    clear h hl ha
    go_enter Try.func104, Try.ntmps104
    go_wp2_with (first
      | (go_at_call 94; refine (spanOf_5' _).mono ?_; rintro e w1 ⟨rfl, hb1⟩)
      | (go_at_call 140; refine (hasAll_k 5 s _ HL.out).mono ?_; rw [HA.out]; rintro e w3 ⟨rfl, hb3⟩; have B3 := bl_box hb1 hb3)
      | (go_at_call 120; refine (bRefuse _ _).mono ?_; rintro e w4 ⟨rfl, rfl⟩))
    exact ⟨rfl, rfl, B3⟩
  · have e1 : ((s.size : Int) != 4) = true := by simpa using hl
    have e2 : ((s.size : Int) == 4) = false := by simpa using hl
    clear h hl
    go_enter Try.func104, Try.ntmps104
    go_wp2_with (first
      | (go_at_call 94; refine (spanOf_5' _).mono ?_; rintro e w1 ⟨rfl, hb1⟩)
      | (go_at_call 120; refine (bRefuse _ _).mono ?_; rintro e w4 ⟨rfl, rfl⟩))
    exact ⟨rfl, rfl, hb1.alloc hb1.size _⟩
end Go.Proofs.Ytgoghblfficfpaa
