/- ironbarkref01.Right, of any value: it answers; what is right of a fixed kind has its bounds. -/
import Derived.Test.YtafhboppojeafaaGreatDoorDigFrom
import Derived.Test.YtafhboppojeafaaGreatDoorRefValid
import Derived.Deep.RegionHeld3
namespace Go.Proofs.YtafhboppojeafaaGreatDoor
open Go.RowKit

theorem from_s (n : Nat) (w : World) (hn : n < 9223372036854775808) : Calls Tryz.prog 25 #[.int .i64 (n : Int)] w fun e w' => ∃ p k, e = .returned (.slice p (digs n).length k) ∧ Below w.heap.size w w' :=
  (from_any n w hn).mono fun _ _ ⟨v, he, ho, hb⟩ => by
    rcases ho.2 with ⟨rfl, h0⟩ | ⟨g, cap, cur, rfl, _⟩
    · exact ⟨none, 0, by rw [he, h0], hb⟩
    · exact ⟨_, _, he, hb⟩
/-- A struct api.Value as a value. -/
abbrev valV (k n q : Int) (s : ByteArray) : Value := .agg #[.int .i64 k, .int .i64 n, .int .i64 q, .string s]

/-- Some truth value, true only where P holds. -/
def SomeB (P : Prop) (w : World) (e : Ending) (w' : World) : Prop := ∃ r : Bool, e = .returned (.bool r) ∧ (r = true → P) ∧ Below w.heap.size w w'

theorem someB {P : Prop} {w w' : World} (r : Bool) (h : r = true → P) (hb : Below w.heap.size w w') : SomeB P w (.returned (.bool r)) w' := ⟨r, rfl, h, hb⟩

def FixedR (m n q : Int) (s : ByteArray) : Prop := 0 ≤ q ∧ q ≤ 31 ∧ -m < n ∧ n < m ∧ s = ⟨#[]⟩

theorem empty_of (s : ByteArray) (h : s.toList = []) : s = ⟨#[]⟩ := by
  obtain ⟨⟨l⟩⟩ := s
  rw [ByteArray.toList_eq] at h
  simp at h
  rw [h]

theorem numericB (k : Int) (b : Bool) (w : World) (h : b = (decide (1 ≤ k) && decide (k ≤ 3))) :
    Calls Tryz.prog 6 #[.int .i64 k] w fun e w' => e = .returned (.bool b) ∧ w = w' := by subst h; exact numeric_any k w

set_option maxRecDepth 100000 in
set_option maxHeartbeats 800000 in
theorem right_1 (n q : Int) (s : ByteArray) (w : World) :
    Calls Tryz.prog 4 #[valV 1 n q s] w (SomeB (FixedR 2147483648 n q s) w) := by
  by_cases hs : s.toList = []
  · have hs1 : s.toList.isEmpty = true := by rw [hs]; rfl
    have HS := Lib.hid hs
    clear hs
    go_enter Tryz.func4, Tryz.ntmps4
    go_wp2_with (go_at_call 6; refine (numericB 1 true _ (by decide)).mono ?_; rintro e w' ⟨rfl, rfl⟩)
    all_goals
      go_ret
      refine someB _ (fun h => ⟨?_, ?_, ?_, ?_, empty_of s HS.out⟩) (by go_grown) <;> simp_all <;> omega
  · have hs1 : s.toList.isEmpty = false := by cases h : s.toList with | nil => exact absurd h hs | cons a b => rfl
    clear hs
    go_enter Tryz.func4, Tryz.ntmps4
    go_wp2_with (go_at_call 6; refine (numericB 1 true _ (by decide)).mono ?_; rintro e w' ⟨rfl, rfl⟩)
    go_ret
    exact someB _ (fun h => by cases h) (by go_grown)
set_option maxHeartbeats 800000 in
theorem bits_any (s : ByteArray) (w : World) (hs : s.size ≤ maxLen) : Calls Tryz.prog 14 #[.string s] w (SomeB True w) := by
  unfold maxLen at hs
  go_enter Tryz.func14, Tryz.ntmps14
  go_wp2
  go_loop [3] (fun i => ∃ k : Nat, k ≤ s.size ∧ i = .int .i64 (k : Int)) (fun i => s.size - (intOf i).toNat)
  case atStart => exact ⟨0, Nat.zero_le _, rfl⟩
  case round =>
    obtain ⟨k, hk, rfl⟩ := hrel
    by_cases hlt : k < s.size
    · go_wp2
      all_goals first
        | (go_ret; exact someB _ (fun _ => trivial) (by go_grown))
        | (go_round
           case rel => exact ⟨k + 1, by omega, by go_num⟩
           case measure => simp [intOf]; omega)
    · go_wp2
      go_ret
      exact someB _ (fun _ => trivial) (by go_grown)

set_option maxHeartbeats 800000 in
theorem size_any (n : Int) (w : World) (h1 : -9223372036854775807 < n) (h2 : n < 9223372036854775807) :
    Calls Tryz.prog 13 #[.int .i64 n] w fun e w' => e = .returned (.int .i64 ((digs n.natAbs).length : Int)) ∧ Below w.heap.size w w' := by
  have hl : (digs n.natAbs).length ≤ 19 := digs_length _ _ (by omega)
  by_cases h : n < 0
  · obtain ⟨m, rfl⟩ : ∃ m : Nat, n = -(m : Int) := ⟨n.natAbs, by omega⟩
    have e : (-(m : Int)).natAbs = m := by omega
    rw [e] at hl ⊢
    have hm : -(m : Int) < 0 := h
    go_enter Tryz.func13, Tryz.ntmps13
    go_wp2_with (go_at_call 25; refine (from_s m _ (by omega)).mono ?_; rintro e w1 ⟨p1, k1, rfl, hb1⟩)
    go_ret
    exact ⟨rfl, hb1⟩
  · obtain ⟨m, rfl⟩ : ∃ m : Nat, n = (m : Int) := ⟨n.natAbs, by omega⟩
    have e : ((m : Int)).natAbs = m := by omega
    rw [e] at hl ⊢
    go_enter Tryz.func13, Tryz.ntmps13
    go_wp2_with (go_at_call 25; refine (from_s m _ (by omega)).mono ?_; rintro e w1 ⟨p1, k1, rfl, hb1⟩)
    go_ret
    exact ⟨rfl, hb1⟩

set_option maxRecDepth 100000 in
set_option maxHeartbeats 800000 in
theorem right_2 (n q : Int) (s : ByteArray) (w : World) :
    Calls Tryz.prog 4 #[valV 2 n q s] w (SomeB (FixedR 1000000000000000 n q s) w) := by
  by_cases hs : s.toList = []
  · have hs1 : s.toList.isEmpty = true := by rw [hs]; rfl
    have HS := Lib.hid hs
    clear hs
    go_enter Tryz.func4, Tryz.ntmps4
    go_wp2_with (go_at_call 6; refine (numericB 2 true _ (by decide)).mono ?_; rintro e w' ⟨rfl, rfl⟩)
    all_goals
      go_ret
      refine someB _ (fun h => ⟨?_, ?_, ?_, ?_, empty_of s HS.out⟩) (by go_grown) <;> simp_all <;> omega
  · have hs1 : s.toList.isEmpty = false := by cases h : s.toList with | nil => exact absurd h hs | cons a b => rfl
    clear hs
    go_enter Tryz.func4, Tryz.ntmps4
    go_wp2_with (go_at_call 6; refine (numericB 2 true _ (by decide)).mono ?_; rintro e w' ⟨rfl, rfl⟩)
    go_ret
    exact someB _ (fun h => by cases h) (by go_grown)
end Go.Proofs.YtafhboppojeafaaGreatDoor
namespace Go.Proofs.YtafhboppojeafaaGreatDoor
open Go.RowKit

set_option maxRecDepth 100000 in
set_option maxHeartbeats 800000 in
theorem right_4 (n q : Int) (s : ByteArray) (w : World) (_hs : s.size ≤ maxLen) :
    Calls Tryz.prog 4 #[valV 4 n q s] w (SomeB True w) := by
  unfold maxLen at _hs
  go_enter Tryz.func4, Tryz.ntmps4
  go_wp2_with (go_at_call 6; refine (numericB 4 false _ (by decide)).mono ?_; rintro e w' ⟨rfl, rfl⟩)
  all_goals
    go_ret
    exact someB _ (fun _ => trivial) (by go_grown)

set_option maxRecDepth 100000 in
set_option maxHeartbeats 800000 in
theorem right_6 (n q : Int) (s : ByteArray) (w : World) (_hs : s.size ≤ maxLen) :
    Calls Tryz.prog 4 #[valV 6 n q s] w (SomeB True w) := by
  unfold maxLen at _hs
  go_enter Tryz.func4, Tryz.ntmps4
  go_wp2_with (go_at_call 6; refine (numericB 6 false _ (by decide)).mono ?_; rintro e w' ⟨rfl, rfl⟩)
  all_goals
    go_ret
    exact someB _ (fun _ => trivial) (by go_grown)

set_option maxRecDepth 100000 in
set_option maxHeartbeats 800000 in
theorem right_7 (n q : Int) (s : ByteArray) (w : World) (_hs : s.size ≤ maxLen) :
    Calls Tryz.prog 4 #[valV 7 n q s] w (SomeB True w) := by
  unfold maxLen at _hs
  by_cases hs0 : s.toList = []
  · have hs1 : s.toList.isEmpty = true := by rw [hs0]; rfl
    clear hs0
    go_enter Tryz.func4, Tryz.ntmps4
    go_wp2_with (go_at_call 6; refine (numericB 7 false _ (by decide)).mono ?_; rintro e w' ⟨rfl, rfl⟩)
    all_goals
      go_ret
      exact someB _ (fun _ => trivial) (by go_grown)
  · have hs1 : s.toList.isEmpty = false := by cases h : s.toList with | nil => exact absurd h hs0 | cons a b => rfl
    clear hs0
    go_enter Tryz.func4, Tryz.ntmps4
    go_wp2_with (go_at_call 6; refine (numericB 7 false _ (by decide)).mono ?_; rintro e w' ⟨rfl, rfl⟩)
    all_goals
      go_ret
      exact someB _ (fun _ => trivial) (by go_grown)

set_option maxRecDepth 100000 in
set_option maxHeartbeats 800000 in
theorem right_8 (n q : Int) (s : ByteArray) (w : World) (_hs : s.size ≤ maxLen) :
    Calls Tryz.prog 4 #[valV 8 n q s] w (SomeB True w) := by
  unfold maxLen at _hs
  by_cases hs0 : s.toList = []
  · have hs1 : s.toList.isEmpty = true := by rw [hs0]; rfl
    clear hs0
    go_enter Tryz.func4, Tryz.ntmps4
    go_wp2_with (go_at_call 6; refine (numericB 8 false _ (by decide)).mono ?_; rintro e w' ⟨rfl, rfl⟩)
    all_goals
      go_ret
      exact someB _ (fun _ => trivial) (by go_grown)
  · have hs1 : s.toList.isEmpty = false := by cases h : s.toList with | nil => exact absurd h hs0 | cons a b => rfl
    clear hs0
    go_enter Tryz.func4, Tryz.ntmps4
    go_wp2_with (go_at_call 6; refine (numericB 8 false _ (by decide)).mono ?_; rintro e w' ⟨rfl, rfl⟩)
    all_goals
      go_ret
      exact someB _ (fun _ => trivial) (by go_grown)

set_option maxRecDepth 100000 in
set_option maxHeartbeats 800000 in
theorem right_9 (n q : Int) (s : ByteArray) (w : World) (_hs : s.size ≤ maxLen) :
    Calls Tryz.prog 4 #[valV 9 n q s] w (SomeB True w) := by
  unfold maxLen at _hs
  by_cases hs0 : s.toList = []
  · have hs1 : s.toList.isEmpty = true := by rw [hs0]; rfl
    clear hs0
    go_enter Tryz.func4, Tryz.ntmps4
    go_wp2_with (go_at_call 6; refine (numericB 9 false _ (by decide)).mono ?_; rintro e w' ⟨rfl, rfl⟩)
    all_goals
      go_ret
      exact someB _ (fun _ => trivial) (by go_grown)
  · have hs1 : s.toList.isEmpty = false := by cases h : s.toList with | nil => exact absurd h hs0 | cons a b => rfl
    clear hs0
    go_enter Tryz.func4, Tryz.ntmps4
    go_wp2_with (go_at_call 6; refine (numericB 9 false _ (by decide)).mono ?_; rintro e w' ⟨rfl, rfl⟩)
    all_goals
      go_ret
      exact someB _ (fun _ => trivial) (by go_grown)

end Go.Proofs.YtafhboppojeafaaGreatDoor
namespace Go.Proofs.YtafhboppojeafaaGreatDoor
open Go.RowKit


/-- A float's number is in reach. -/
def FloatR (n : Int) : Prop := -1000000000000000 < n ∧ n < 1000000000000000

set_option maxRecDepth 100000 in
set_option maxHeartbeats 4000000 in
theorem right_3 (n q : Int) (s : ByteArray) (w : World) :
    Calls Tryz.prog 4 #[valV 3 n q s] w (SomeB (FloatR n) w) := by
  by_cases hs0 : s.toList = []
  · have hs1 : s.toList.isEmpty = true := by rw [hs0]; rfl
    clear hs0
    by_cases hn : n = 0
    · subst hn
      go_enter Tryz.func4, Tryz.ntmps4
      go_wp2_with (go_at_call 6; refine (numericB 3 true _ (by decide)).mono ?_; rintro e w' ⟨rfl, rfl⟩)
      go_ret
      exact someB _ (fun _ => ⟨by omega, by omega⟩) (by go_grown)
    · have hn0 : (n == 0) = false := by simpa using hn
      by_cases hr : -1000000000000000 < n ∧ n < 1000000000000000 ∧ -1000 ≤ q ∧ q ≤ 1000
      · obtain ⟨r1, r2, r3, r4⟩ := hr
        have HL := digs_length n.natAbs 15 (by omega)
        have L0 : (0 : Int) ≤ ((digs n.natAbs).length : Int) := by omega
        have L1 : ((digs n.natAbs).length : Int) ≤ 15 := by omega
        generalize hL : ((digs n.natAbs).length : Int) = L at L0 L1
        have HE := Lib.hid hL
        clear hL HL
        go_enter Tryz.func4, Tryz.ntmps4
        go_wp2_with (go_at_call 6; refine (numericB 3 true _ (by decide)).mono ?_; rintro e w' ⟨rfl, rfl⟩)
        all_goals first
          | (go_ret; exact someB _ (fun _ => ⟨by omega, by omega⟩) (by go_grown))
          | skip
        go_region_held3 (fun w' => w'.cell? ⟨w.heap.size, 1, none⟩ = some (.int .i64 n) ∧ w'.cell? ⟨w.heap.size, 2, none⟩ = some (.int .i64 q))
          (first | go_keep | (go_split_ands; refine ⟨?_, ?_⟩ <;> (rw [hb1.cell (by simp <;> omega)]; go_simp)))
          (first
            | (go_at_call 13; refine (size_any n _ (by omega) (by omega)).mono ?_; rintro e w1 ⟨rfl, hb1⟩; have hE := HE.out; rw [hE]; clear hE; have hz1 := hb1.size))
        have hW : Below w.heap.size w w1 := (((Below.refl _ w).alloc (Nat.le_refl _) _).drew).trans (hb1.mono (by simp))
        go_wp2
        all_goals
          go_ret
          exact someB _ (fun _ => ⟨by omega, by omega⟩) hW
      · go_enter Tryz.func4, Tryz.ntmps4
        go_wp2_with (go_at_call 6; refine (numericB 3 true _ (by decide)).mono ?_; rintro e w' ⟨rfl, rfl⟩)
        all_goals first
          | (go_ret; exact someB _ (fun h => by cases h) (by go_grown))
          | (exfalso; omega)
  · have hs1 : s.toList.isEmpty = false := by cases h : s.toList with | nil => exact absurd h hs0 | cons a b => rfl
    clear hs0
    go_enter Tryz.func4, Tryz.ntmps4
    go_wp2_with (go_at_call 6; refine (numericB 3 true _ (by decide)).mono ?_; rintro e w' ⟨rfl, rfl⟩)
    go_ret
    exact someB _ (fun h => by cases h) (by go_grown)
end Go.Proofs.YtafhboppojeafaaGreatDoor
namespace Go.Proofs.YtafhboppojeafaaGreatDoor
open Go.RowKit

set_option maxRecDepth 100000 in
set_option maxHeartbeats 4000000 in
theorem right_5 (n q : Int) (s : ByteArray) (w : World) (hs : s.size ≤ maxLen) :
    Calls Tryz.prog 4 #[valV 5 n q s] w (SomeB True w) := by
  have HS := Lib.hid hs
  unfold maxLen at hs
  by_cases h1 : n = 0 ∧ q = 0 ∧ (s.size : Int) ≤ 250
  · obtain ⟨rfl, rfl, h3⟩ := h1
    go_enter Tryz.func4, Tryz.ntmps4
    go_wp2_with (first | (go_at_call 6; refine (numericB 5 false _ (by decide)).mono ?_; rintro e w' ⟨rfl, rfl⟩) | (go_at_call 14; refine (bits_any s _ HS.out).mono ?_; rintro e w1 ⟨r, rfl, _, hb1⟩))
    go_ret
    exact someB _ (fun _ => trivial) (((Below.refl _ w).alloc (Nat.le_refl _) _).trans (hb1.mono (by simp)))
  · go_enter Tryz.func4, Tryz.ntmps4
    go_wp2_with (go_at_call 6; refine (numericB 5 false _ (by decide)).mono ?_; rintro e w' ⟨rfl, rfl⟩)
    all_goals first
      | (go_ret; exact someB _ (fun _ => trivial) (by go_grown))
      | (exfalso; omega)

set_option maxRecDepth 100000 in
set_option maxHeartbeats 4000000 in
theorem right_0 (k n q : Int) (s : ByteArray) (w : World) (hk : k < 1 ∨ 10 ≤ k) (_hs : s.size ≤ maxLen) :
    Calls Tryz.prog 4 #[valV k n q s] w (SomeB True w) := by
  unfold maxLen at _hs
  have e1 : (k == 1) = false := by rw [beq_eq_false_iff_ne]; omega
  have e2 : (k == 2) = false := by rw [beq_eq_false_iff_ne]; omega
  have e3 : (k == 3) = false := by rw [beq_eq_false_iff_ne]; omega
  have e4 : (k == 4) = false := by rw [beq_eq_false_iff_ne]; omega
  have e5 : (k == 5) = false := by rw [beq_eq_false_iff_ne]; omega
  have e6 : (k == 6) = false := by rw [beq_eq_false_iff_ne]; omega
  have e7 : (k == 7) = false := by rw [beq_eq_false_iff_ne]; omega
  have e8 : (k == 8) = false := by rw [beq_eq_false_iff_ne]; omega
  have e9 : (k == 9) = false := by rw [beq_eq_false_iff_ne]; omega
  have H := Lib.hid hk
  by_cases hs0 : s.toList = []
  · have hs1 : s.toList.isEmpty = true := by rw [hs0]; rfl
    clear hs0
    rcases hk with hk | hk
    all_goals
      go_enter Tryz.func4, Tryz.ntmps4
      go_wp2_with (go_at_call 6; refine (numeric_not _ _ H.out).mono ?_; rintro e w' ⟨rfl, rfl⟩)
      all_goals
        go_ret
        exact someB _ (fun _ => trivial) (by go_grown)
  · have hs1 : s.toList.isEmpty = false := by cases h : s.toList with | nil => exact absurd h hs0 | cons a b => rfl
    clear hs0
    rcases hk with hk | hk
    all_goals
      go_enter Tryz.func4, Tryz.ntmps4
      go_wp2_with (go_at_call 6; refine (numeric_not _ _ H.out).mono ?_; rintro e w' ⟨rfl, rfl⟩)
      all_goals
        go_ret
        exact someB _ (fun _ => trivial) (by go_grown)

/-- What a right value has. -/
def RightP (k n q : Int) (s : ByteArray) : Prop := (k = 1 → FixedR 2147483648 n q s) ∧ (k = 2 → FixedR 1000000000000000 n q s) ∧ (k = 3 → FloatR n)

theorem SomeB.weak {P Q : Prop} {w w' : World} {e : Ending} (h : SomeB P w e w') (hq : P → Q) : SomeB Q w e w' := by
  obtain ⟨r, he, hp, hb⟩ := h
  exact ⟨r, he, fun h => hq (hp h), hb⟩

theorem right_any (k n q : Int) (s : ByteArray) (w : World) (hs : s.size ≤ maxLen) :
    Calls Tryz.prog 4 #[valV k n q s] w (SomeB (RightP k n q s) w) := by
  by_cases h : k < 1 ∨ 10 ≤ k
  · exact (right_0 k n q s w h hs).mono fun _ _ h' => h'.weak fun _ => ⟨fun h => by omega, fun h => by omega, fun h => by omega⟩
  · obtain rfl | rfl | rfl | rfl | rfl | rfl | rfl | rfl | rfl : k = 1 ∨ k = 2 ∨ k = 3 ∨ k = 4 ∨ k = 5 ∨ k = 6 ∨ k = 7 ∨ k = 8 ∨ k = 9 := by omega
    · exact (right_1 n q s w).mono fun _ _ h' => h'.weak fun hp => ⟨fun _ => hp, fun h => by omega, fun h => by omega⟩
    · exact (right_2 n q s w).mono fun _ _ h' => h'.weak fun hp => ⟨fun h => by omega, fun _ => hp, fun h => by omega⟩
    · exact (right_3 n q s w).mono fun _ _ h' => h'.weak fun hp => ⟨fun h => by omega, fun h => by omega, fun _ => hp⟩
    · exact (right_4 n q s w hs).mono fun _ _ h' => h'.weak fun _ => ⟨fun h => by omega, fun h => by omega, fun h => by omega⟩
    · exact (right_5 n q s w hs).mono fun _ _ h' => h'.weak fun _ => ⟨fun h => by omega, fun h => by omega, fun h => by omega⟩
    · exact (right_6 n q s w hs).mono fun _ _ h' => h'.weak fun _ => ⟨fun h => by omega, fun h => by omega, fun h => by omega⟩
    · exact (right_7 n q s w hs).mono fun _ _ h' => h'.weak fun _ => ⟨fun h => by omega, fun h => by omega, fun h => by omega⟩
    · exact (right_8 n q s w hs).mono fun _ _ h' => h'.weak fun _ => ⟨fun h => by omega, fun h => by omega, fun h => by omega⟩
    · exact (right_9 n q s w hs).mono fun _ _ h' => h'.weak fun _ => ⟨fun h => by omega, fun h => by omega, fun h => by omega⟩
end Go.Proofs.YtafhboppojeafaaGreatDoor
