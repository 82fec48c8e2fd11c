/- digit.Right of bits; of any value. -/
import Derived.Test.YtjdgefgdekanjaaGreatDoorWrdFloat
import Derived.Test.YtjdgefgdekanjaaGreatDoorWrdNum
import Derived.Test.YtjdgefgdekanjaaGreatDoorShelfStr
namespace Go.Proofs.YtjdgefgdekanjaaGreatDoor
open Go.RowKit

set_option maxHeartbeats 400000 in
theorem rTextL (k n q : Int) (s : ByteArray) (w : World) :
    Calls Tryz.prog 56 #[vaV k n q s] w (SomeD (s.size ≤ 250) w) := by
  by_cases h : (s.size : Int) ≤ 250
  · have HS : Hid (s.size ≤ 250) := Lib.hid (by omega)
    by_cases h' : n = 0
    · subst h'
      go_enter Tryz.func56, Tryz.ntmps56
      go_wp2
      go_ret
      exact SomeD.of _ (fun _ => HS.out) (by go_grown)
    · go_enter Tryz.func56, Tryz.ntmps56
      go_wp2
      go_ret
      exact SomeD.of _ (fun _ => HS.out) (by go_grown)
  · go_enter Tryz.func56, Tryz.ntmps56
    go_wp2
    go_ret
    exact SomeD.of false (fun h => by cases h) (by go_grown)

set_option maxHeartbeats 1000000 in
theorem rBits (k n q : Int) (s : ByteArray) (w : World) :
    Calls Tryz.prog 59 #[vaV k n q s] w (SomeD True w) := by
  have hT : Hid (s.size ≤ 250 → ∀ W, Calls Tryz.prog 98 #[.string s, .string ⟨#[48, 49]⟩] W fun e w' => e = .returned (.string ⟨(Lib.trimS s.data.toList [48, 49]).toArray⟩) ∧ Below W.heap.size W w') := Lib.hid fun h W =>
    Tryz.strings_Trim s ⟨#[48, 49]⟩ W (by omega) (by decide) (ascii_of_all (by decide))
  have RA := Row.new w (vaC k n q s) 23
  go_enter Tryz.func59, Tryz.ntmps59
  go_wp2_with (first
    | (go_at_call 56; refine (rTextL _ _ _ _ _).mono ?_; rintro e w2 ⟨r, rfl, hr, hb2⟩; have R2 := RA.keep hb2; obtain ⟨x0, x1, x2, x3⟩ := R2.four; have HR := Lib.hid hr; have hB2 := Lib.hid (bl_box (Below.refl _ w) hb2); clear hr hb2; cases r)
    | (go_at_call 98; refine (hT.out (HR.out (by first | rfl | trivial)) _).mono ?_; rintro e w3 ⟨rfl, hb3⟩; have hB3 := Lib.hid (bl_then hB2.out hb3); clear hb3))
  · go_ret
    exact SomeD.of _ (fun _ => trivial) hB2.out
  · go_ret
    exact SomeD.of _ (fun _ => trivial) hB3.out

set_option maxHeartbeats 400000 in
theorem right_5_d (n q : Int) (s : ByteArray) (w : World) :
    Calls Tryz.prog 10 #[vaV 5 n q s] w (SomeD True w) := by
  have hfd := fld_1
  have hn : ∀ (f : Nat) (w : World), (binOp .neq 32 (fnv f) .nilFunc).run Tryz.prog w = .ok (.bool true) w := fun _ _ => by kernel_rfl
  go_enter Tryz.func10, Tryz.ntmps10
  go_wp2_with (first
    | (go_at_call 20; refine (rules_5 _).mono ?_; rintro e w1 ⟨rfl, hb⟩; obtain ⟨hc, hf⟩ := bcell hb)
    | (go_at_call 59; refine (rBits _ _ _ _ _).mono ?_; rintro e w2 ⟨r, rfl, hr, hb2⟩))
  go_ret
  exact SomeD.of _ hr (below_then (below_then (by go_grown) hb (by simp)) hb2 (by have := hb.size; simp at this ⊢; omega))

theorem vr1 {n q : Int} {s : ByteArray} (f : -2147483648 < n ∧ n < 2147483648 ∧ 0 ≤ q ∧ q ≤ 31) : (Va.mk 1 n q s).right :=
  ⟨fun _ => f, fun e => absurd e (show (1 : Int) ≠ 2 by decide), fun e => absurd e (show (1 : Int) ≠ 3 by decide)⟩
theorem vr2 {n q : Int} {s : ByteArray} (f : -1000000000000000 < n ∧ n < 1000000000000000 ∧ 0 ≤ q ∧ q ≤ 31) : (Va.mk 2 n q s).right :=
  ⟨fun e => absurd e (show (2 : Int) ≠ 1 by decide), fun _ => f, fun e => absurd e (show (2 : Int) ≠ 3 by decide)⟩
theorem vr3 {n q : Int} {s : ByteArray} (f : FloatP n q) : (Va.mk 3 n q s).right :=
  ⟨fun e => absurd e (show (3 : Int) ≠ 1 by decide), fun e => absurd e (show (3 : Int) ≠ 2 by decide), fun _ => f⟩
theorem vrN {k n q : Int} {s : ByteArray} (h1 : k ≠ 1) (h2 : k ≠ 2) (h3 : k ≠ 3) : (Va.mk k n q s).right :=
  ⟨fun e => absurd e h1, fun e => absurd e h2, fun e => absurd e h3⟩
/-- Right of any value: where it is true, the fields are a right number's. -/
theorem right_va (t : Va) (w : World) : Calls Tryz.prog 10 #[t.v] w (SomeD t.right w) := by
  obtain ⟨k, n, q, s⟩ := t
  by_cases hk : k < 1 ∨ 10 ≤ k
  · exact (right_no_d k n q s w hk).mono fun _ _ h => h.weak fun f => f.elim
  · rcases (by omega : k = 1 ∨ k = 2 ∨ k = 3 ∨ k = 4 ∨ k = 5 ∨ k = 6 ∨ k = 7 ∨ k = 8 ∨ k = 9) with rfl | rfl | rfl | rfl | rfl | rfl | rfl | rfl | rfl
    · exact (right_1_d n q s w).mono fun _ _ h => h.weak vr1
    · exact (right_2_d n q s w).mono fun _ _ h => h.weak vr2
    · exact (right_3_d n q s w).mono fun _ _ h => h.weak vr3
    · exact (right_4_d n q s w).mono fun _ _ h => h.weak fun _ => vrN (by decide) (by decide) (by decide)
    · exact (right_5_d n q s w).mono fun _ _ h => h.weak fun _ => vrN (by decide) (by decide) (by decide)
    · exact (right_6_d n q s w).mono fun _ _ h => h.weak fun _ => vrN (by decide) (by decide) (by decide)
    · exact (right_7_d n q s w).mono fun _ _ h => h.weak fun _ => vrN (by decide) (by decide) (by decide)
    · exact (right_8_d n q s w).mono fun _ _ h => h.weak fun _ => vrN (by decide) (by decide) (by decide)
    · exact (right_9_d n q s w).mono fun _ _ h => h.weak fun _ => vrN (by decide) (by decide) (by decide)
end Go.Proofs.YtjdgefgdekanjaaGreatDoor
