/- digit.Right: what a right number's fields are; some Bool else. -/
import Derived.Test.YtafhboppojeafaaGreatDoorWrdExs
namespace Go.Proofs.YtafhboppojeafaaGreatDoor
open Go.RowKit

/-- A Bool is answered, and where it is true, P holds. -/
def SomeD (P : Prop) (w : World) (e : Ending) (w' : World) : Prop := ∃ r : Bool, e = .returned (.bool r) ∧ (r = true → P) ∧ Below w.heap.size w w'
theorem SomeD.of {P : Prop} {w w' : World} (r : Bool) (h : r = true → P) (hb : Below w.heap.size w w') : SomeD P w (.returned (.bool r)) w' := ⟨r, rfl, h, hb⟩
theorem SomeD.weak {P Q : Prop} {w w' : World} {e : Ending} (h : SomeD P w e w') (hq : P → Q) : SomeD Q w e w' := by
  obtain ⟨r, he, hp, hb⟩ := h
  exact ⟨r, he, fun h => hq (hp h), hb⟩
theorem below_b (b : Bool) (n m : Int) (w : World) (h1 : -9223372036854775807 ≤ m) (h2 : m ≤ 9223372036854775807) (hb : b = true ↔ -m < n ∧ n < m) :
    Calls Tryz.prog 86 #[.int .i64 n, .int .i64 m] w fun e w' => e = .returned (.bool b) ∧ w = w' :=
  (below_any n m w h1 h2).mono fun _ _ ⟨he, hw⟩ => ⟨he.trans (ret_bool (by rw [Bool.eq_iff_iff, hb]; simp)), hw⟩

set_option maxHeartbeats 400000 in
theorem rFixed (m k n q : Int) (s : ByteArray) (w : World) (h1 : -9223372036854775807 ≤ m) (h2 : m ≤ 9223372036854775807) :
    Calls Tryz.prog 78 #[vaV k n q s, .int .i64 m] w (SomeD (-m < n ∧ n < m ∧ 0 ≤ q ∧ q ≤ 31) w) := by
  by_cases h : -m < n ∧ n < m
  · by_cases h' : 0 ≤ q ∧ q ≤ 31
    · have H := Lib.hid h; have H' := Lib.hid h'; clear h h'
      go_enter Tryz.func78, Tryz.ntmps78
      go_wp2_with (first
        | (go_at_call 86; refine (below_b true _ _ _ h1 h2 (by simpa using H.out)).mono ?_; rintro e w' ⟨rfl, rfl⟩)
        | (go_at_call 85; refine (within_b true _ _ _ _ (by simpa using H'.out)).mono ?_; rintro e w' ⟨rfl, rfl⟩))
      go_ret
      exact SomeD.of _ (fun _ => ⟨H.out.1, H.out.2, H'.out.1, H'.out.2⟩) (by go_grown)
    · have H := Lib.hid h; have H' := Lib.hid h'; clear h h'
      go_enter Tryz.func78, Tryz.ntmps78
      go_wp2_with (first
        | (go_at_call 86; refine (below_b true _ _ _ h1 h2 (by simpa using H.out)).mono ?_; rintro e w' ⟨rfl, rfl⟩)
        | (go_at_call 85; refine (within_b false _ _ _ _ (by simpa using H'.out)).mono ?_; rintro e w' ⟨rfl, rfl⟩))
      go_ret
      exact SomeD.of false (fun h => by cases h) (by go_grown)
  · have H := Lib.hid h; clear h
    go_enter Tryz.func78, Tryz.ntmps78
    go_wp2_with (go_at_call 86; refine (below_b false _ _ _ h1 h2 (by simpa using H.out)).mono ?_; rintro e w' ⟨rfl, rfl⟩)
    go_ret
    exact SomeD.of false (fun h => by cases h) (by go_grown)

set_option maxHeartbeats 400000 in
theorem rBin (k n q : Int) (s : ByteArray) (w : World) :
    Calls Tryz.prog 42 #[vaV k n q s] w (SomeD (-2147483648 < n ∧ n < 2147483648 ∧ 0 ≤ q ∧ q ≤ 31) w) := by
  go_enter Tryz.func42, Tryz.ntmps42
  go_wp2_with (go_at_call 78; refine (rFixed _ _ _ _ _ _ (by omega) (by omega)).mono ?_; rintro e w' ⟨r, rfl, hr, hb⟩)
  go_ret
  exact SomeD.of _ hr (below_then (by go_grown) hb (by simp))

set_option maxHeartbeats 400000 in
theorem rDec (k n q : Int) (s : ByteArray) (w : World) :
    Calls Tryz.prog 49 #[vaV k n q s] w (SomeD (-1000000000000000 < n ∧ n < 1000000000000000 ∧ 0 ≤ q ∧ q ≤ 31) w) := by
  go_enter Tryz.func49, Tryz.ntmps49
  go_wp2_with (go_at_call 78; refine (rFixed _ _ _ _ _ _ (by omega) (by omega)).mono ?_; rintro e w' ⟨r, rfl, hr, hb⟩)
  go_ret
  exact SomeD.of _ hr (below_then (by go_grown) hb (by simp))

set_option maxHeartbeats 400000 in
theorem rText (k n q : Int) (s : ByteArray) (w : World) :
    Calls Tryz.prog 62 #[vaV k n q s] w (SomeD True w) := by
  by_cases h : (s.size : Int) ≤ 250
  · by_cases h' : n = 0
    · subst h'
      go_enter Tryz.func62, Tryz.ntmps62
      go_wp2
      go_ret
      exact SomeD.of _ (fun _ => trivial) (by go_grown)
    · go_enter Tryz.func62, Tryz.ntmps62
      go_wp2
      go_ret
      exact SomeD.of _ (fun _ => trivial) (by go_grown)
  · go_enter Tryz.func62, Tryz.ntmps62
    go_wp2
    go_ret
    exact SomeD.of _ (fun _ => trivial) (by go_grown)
set_option maxHeartbeats 400000 in
theorem rPointer (k n q : Int) (s : ByteArray) (w : World) :
    Calls Tryz.prog 70 #[vaV k n q s] w (SomeD True w) := by
  rcases Bool.eq_false_or_eq_true (decide (0 ≤ n) && decide (n ≤ 1000000000)) with hx | hx
  all_goals
    have HX := Lib.hid hx
    clear hx
    by_cases h' : q = 0
    all_goals
      go_enter Tryz.func70, Tryz.ntmps70
      go_wp2_with (go_at_call 85; refine (within_any _ _ _ _).mono ?_; rw [HX.out]; rintro e w' ⟨rfl, rfl⟩)
      go_ret
      exact SomeD.of _ (fun _ => trivial) (by go_grown)
set_option maxHeartbeats 400000 in
theorem rPlace (k n q : Int) (s : ByteArray) (w : World) :
    Calls Tryz.prog 71 #[vaV k n q s] w (SomeD True w) := by
  rcases Bool.eq_false_or_eq_true (decide (0 ≤ n) && decide (n ≤ 1000000000)) with hx | hx
  all_goals
    have HX := Lib.hid hx
    clear hx
    rcases Bool.eq_false_or_eq_true (decide (0 ≤ q) && decide (q ≤ 1000000000)) with hy | hy
    all_goals
      have HY := Lib.hid hy
      clear hy
      go_enter Tryz.func71, Tryz.ntmps71
      go_wp2_with (go_at_call 85; refine (within_any _ _ _ _).mono ?_; (first | rw [HX.out] | rw [HY.out]); rintro e w' ⟨rfl, rfl⟩)
      go_ret
      exact SomeD.of _ (fun _ => trivial) (by go_grown)

set_option maxHeartbeats 400000 in
theorem right_1_d (n q : Int) (s : ByteArray) (w : World) :
    Calls Tryz.prog 39 #[vaV 1 n q s] w (SomeD (-2147483648 < n ∧ n < 2147483648 ∧ 0 ≤ q ∧ q ≤ 31) w) := by
  have hfd := fld_1
  have hn : ∀ (f : Nat) (w : World), (binOp .neq 26 (fnv f) .nilFunc).run Tryz.prog w = .ok (.bool true) w := fun _ _ => by kernel_rfl
  go_enter Tryz.func39, Tryz.ntmps39
  go_wp2_with (first
    | (go_at_call 30; refine (rules_1 _).mono ?_; rintro e w1 ⟨rfl, hb⟩; obtain ⟨hc, hf⟩ := bcell hb)
    | (go_at_call 42; refine (rBin _ _ _ _ _).mono ?_; rintro e w2 ⟨r, rfl, hr, hb2⟩))
  go_ret
  exact SomeD.of _ hr (below_then (below_then (by go_grown) hb (by simp)) hb2 (by have := hb.size; simp at this ⊢; omega))

set_option maxHeartbeats 400000 in
theorem right_2_d (n q : Int) (s : ByteArray) (w : World) :
    Calls Tryz.prog 39 #[vaV 2 n q s] w (SomeD (-1000000000000000 < n ∧ n < 1000000000000000 ∧ 0 ≤ q ∧ q ≤ 31) w) := by
  have hfd := fld_1
  have hn : ∀ (f : Nat) (w : World), (binOp .neq 26 (fnv f) .nilFunc).run Tryz.prog w = .ok (.bool true) w := fun _ _ => by kernel_rfl
  go_enter Tryz.func39, Tryz.ntmps39
  go_wp2_with (first
    | (go_at_call 30; refine (rules_2 _).mono ?_; rintro e w1 ⟨rfl, hb⟩; obtain ⟨hc, hf⟩ := bcell hb)
    | (go_at_call 49; refine (rDec _ _ _ _ _).mono ?_; rintro e w2 ⟨r, rfl, hr, hb2⟩))
  go_ret
  exact SomeD.of _ hr (below_then (below_then (by go_grown) hb (by simp)) hb2 (by have := hb.size; simp at this ⊢; omega))

set_option maxHeartbeats 400000 in
theorem right_4_d (n q : Int) (s : ByteArray) (w : World) :
    Calls Tryz.prog 39 #[vaV 4 n q s] w (SomeD True w) := by
  have hfd := fld_1
  have hn : ∀ (f : Nat) (w : World), (binOp .neq 26 (fnv f) .nilFunc).run Tryz.prog w = .ok (.bool true) w := fun _ _ => by kernel_rfl
  go_enter Tryz.func39, Tryz.ntmps39
  go_wp2_with (first
    | (go_at_call 30; refine (rules_4 _).mono ?_; rintro e w1 ⟨rfl, hb⟩; obtain ⟨hc, hf⟩ := bcell hb)
    | (go_at_call 62; refine (rText _ _ _ _ _).mono ?_; rintro e w2 ⟨r, rfl, hr, hb2⟩))
  go_ret
  exact SomeD.of _ hr (below_then (below_then (by go_grown) hb (by simp)) hb2 (by have := hb.size; simp at this ⊢; omega))

set_option maxHeartbeats 400000 in
theorem right_6_d (n q : Int) (s : ByteArray) (w : World) :
    Calls Tryz.prog 39 #[vaV 6 n q s] w (SomeD True w) := by
  have hfd := fld_1
  have hn : ∀ (f : Nat) (w : World), (binOp .neq 26 (fnv f) .nilFunc).run Tryz.prog w = .ok (.bool true) w := fun _ _ => by kernel_rfl
  go_enter Tryz.func39, Tryz.ntmps39
  go_wp2_with (first
    | (go_at_call 30; refine (rules_6 _).mono ?_; rintro e w1 ⟨rfl, hb⟩; obtain ⟨hc, hf⟩ := bcell hb)
    | (go_at_call 62; refine (rText _ _ _ _ _).mono ?_; rintro e w2 ⟨r, rfl, hr, hb2⟩))
  go_ret
  exact SomeD.of _ hr (below_then (below_then (by go_grown) hb (by simp)) hb2 (by have := hb.size; simp at this ⊢; omega))

set_option maxHeartbeats 400000 in
theorem right_7_d (n q : Int) (s : ByteArray) (w : World) :
    Calls Tryz.prog 39 #[vaV 7 n q s] w (SomeD True w) := by
  have hfd := fld_1
  have hn : ∀ (f : Nat) (w : World), (binOp .neq 26 (fnv f) .nilFunc).run Tryz.prog w = .ok (.bool true) w := fun _ _ => by kernel_rfl
  go_enter Tryz.func39, Tryz.ntmps39
  go_wp2_with (first
    | (go_at_call 30; refine (rules_7 _).mono ?_; rintro e w1 ⟨rfl, hb⟩; obtain ⟨hc, hf⟩ := bcell hb)
    | (go_at_call 70; refine (rPointer _ _ _ _ _).mono ?_; rintro e w2 ⟨r, rfl, hr, hb2⟩))
  go_ret
  exact SomeD.of _ hr (below_then (below_then (by go_grown) hb (by simp)) hb2 (by have := hb.size; simp at this ⊢; omega))

set_option maxHeartbeats 400000 in
theorem right_8_d (n q : Int) (s : ByteArray) (w : World) :
    Calls Tryz.prog 39 #[vaV 8 n q s] w (SomeD True w) := by
  have hfd := fld_1
  have hn : ∀ (f : Nat) (w : World), (binOp .neq 26 (fnv f) .nilFunc).run Tryz.prog w = .ok (.bool true) w := fun _ _ => by kernel_rfl
  go_enter Tryz.func39, Tryz.ntmps39
  go_wp2_with (first
    | (go_at_call 30; refine (rules_8 _).mono ?_; rintro e w1 ⟨rfl, hb⟩; obtain ⟨hc, hf⟩ := bcell hb)
    | (go_at_call 71; refine (rPlace _ _ _ _ _).mono ?_; rintro e w2 ⟨r, rfl, hr, hb2⟩))
  go_ret
  exact SomeD.of _ hr (below_then (below_then (by go_grown) hb (by simp)) hb2 (by have := hb.size; simp at this ⊢; omega))

set_option maxHeartbeats 400000 in
theorem right_9_d (n q : Int) (s : ByteArray) (w : World) :
    Calls Tryz.prog 39 #[vaV 9 n q s] w (SomeD True w) := by
  have hfd := fld_1
  have hn : ∀ (f : Nat) (w : World), (binOp .neq 26 (fnv f) .nilFunc).run Tryz.prog w = .ok (.bool true) w := fun _ _ => by kernel_rfl
  go_enter Tryz.func39, Tryz.ntmps39
  go_wp2_with (first
    | (go_at_call 30; refine (rules_9 _).mono ?_; rintro e w1 ⟨rfl, hb⟩; obtain ⟨hc, hf⟩ := bcell hb)
    | (go_at_call 71; refine (rPlace _ _ _ _ _).mono ?_; rintro e w2 ⟨r, rfl, hr, hb2⟩))
  go_ret
  exact SomeD.of _ hr (below_then (below_then (by go_grown) hb (by simp)) hb2 (by have := hb.size; simp at this ⊢; omega))

set_option maxHeartbeats 400000 in
theorem right_no_d (k n q : Int) (s : ByteArray) (w : World) (hk : k < 1 ∨ 10 ≤ k) :
    Calls Tryz.prog 39 #[vaV k n q s] w (SomeD False w) := by
  have hfd := fld_1
  have hm : ∀ (w : World), (binOp .neq 26 .nilFunc .nilFunc).run Tryz.prog w = .ok (.bool false) w := fun _ => by kernel_rfl
  have HK := Lib.hid hk
  clear hk
  go_enter Tryz.func39, Tryz.ntmps39
  go_wp2_with (go_at_call 30; refine (rules_no k _ HK.out).mono ?_; rintro e w1 ⟨rfl, hb⟩; obtain ⟨hc, hf⟩ := bcell hb)
  go_ret
  exact SomeD.of false (fun h => by cases h) (below_then (by go_grown) hb (by simp))
end Go.Proofs.YtafhboppojeafaaGreatDoor
