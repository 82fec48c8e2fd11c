/- digit.Right of floats. -/
import Derived.Test.YtjdgefgdekanjaaGreatDoorWrdIter
import Derived.Test.YtjdgefgdekanjaaGreatDoorWrdRight
namespace Go.Proofs.YtjdgefgdekanjaaGreatDoor
open Go.RowKit

abbrev FloatP (n q : Int) : Prop := -1000000000000000 < n ∧ n < 1000000000000000 ∧ -1000 ≤ q ∧ q ≤ 1000
set_option maxHeartbeats 1000000 in
theorem rFloat0 (k q : Int) (s : ByteArray) (w : World) :
    Calls Tryz.prog 49 #[vaV k 0 q s] w (SomeD (FloatP 0 q) w) := by
  by_cases hq : q = 0
  · subst hq
    go_enter Tryz.func49, Tryz.ntmps49
    go_wp2
    go_ret
    exact SomeD.of _ (fun _ => by decide) (by go_grown)
  · go_enter Tryz.func49, Tryz.ntmps49
    go_wp2
    go_ret
    exact SomeD.of false (fun h => by cases h) (by go_grown)
set_option maxHeartbeats 1000000 in
theorem rFloatN (k n q : Int) (s : ByteArray) (w : World) (hn : ¬ n = 0) (hb : ¬ (-1000000000000000 < n ∧ n < 1000000000000000)) :
    Calls Tryz.prog 49 #[vaV k n q s] w (SomeD (FloatP n q) w) := by
  have HB := Lib.hid hb
  clear hb
  go_enter Tryz.func49, Tryz.ntmps49
  go_wp2_with (go_at_call 82; refine (below_b false _ _ _ (by omega) (by omega) (by simpa using HB.out)).mono ?_; rintro e w' ⟨rfl, rfl⟩)
  go_ret
  exact SomeD.of false (fun h => by cases h) (by go_grown)
set_option maxHeartbeats 1000000 in
theorem rFloatM (k n q : Int) (s : ByteArray) (w : World) (hn : ¬ n = 0) (hb : -1000000000000000 < n ∧ n < 1000000000000000) :
    Calls Tryz.prog 49 #[vaV k n q s] w (SomeD (FloatP n q) w) := by
  have HB := Lib.hid hb
  obtain ⟨L, hL⟩ : ∃ L, (digs n.natAbs).length = L := ⟨_, rfl⟩
  have hL1 : L ≤ 15 := by rw [← hL]; exact digs_length _ _ (by omega)
  have HM : Hid (∀ W, Calls Tryz.prog 83 #[.int .i64 n] W (GivesW W n.natAbs)) := Lib.hid fun W => magnitude_d n W (by omega) (by omega)
  have HLn : Hid (∀ (v : Value) (W : World) (B : Nat), WArg B W v n.natAbs → Calls Tryz.prog 84 #[v] W fun e w' => e = .returned (.int .i64 (L : Int)) ∧ Below W.heap.size W w') := Lib.hid fun v W B h => by
    rw [← hL]; exact length_d h (Nat.le_trans (wrds_length n.natAbs 2 (by omega)) (by decide)) (by omega)
  clear hb hL
  have RA := Row.new w (vaC k n q s) 23
  have w1 : IntKind.i64.wrap ((L : Int) - 1) = (L : Int) - 1 := IntWalk.i64_in _ (by omega)
  have w2 : IntKind.i64.wrap (-75 - ((L : Int) - 1)) = -75 - ((L : Int) - 1) := IntWalk.i64_in _ (by omega)
  have w3 : IntKind.i64.wrap (75 - ((L : Int) - 1)) = 75 - ((L : Int) - 1) := IntWalk.i64_in _ (by omega)
  go_enter Tryz.func49, Tryz.ntmps49
  go_wp2_with (first
    | (go_at_call 82; refine (below_b true _ _ _ (by omega) (by omega) (by simpa using HB.out)).mono ?_; rintro e w' ⟨rfl, rfl⟩)
    | (go_at_call 83; refine (HM.out _).mono ?_; rintro e w2 ⟨v2, rfl, W2, hb2⟩; have R2 := RA.keep hb2)
    | (go_at_call 84; refine (HLn.out _ _ _ W2).mono ?_; rintro e w3 ⟨rfl, hb3⟩; have R3 := R2.keep hb3; obtain ⟨x0, x1, x2, x3⟩ := R3.four)
    | (go_at_call 81; refine (within_any _ _ _ _).mono ?_; rintro e w4 ⟨rfl, rfl⟩))
  · go_ret
    exact SomeD.of false (fun h => by cases h) (by go_grown)
  · go_ret
    exact SomeD.of false (fun h => by cases h) (by go_grown)
  · go_ret
    refine SomeD.of _ (fun h => ?_) (bl_then (bl_box (Below.refl _ w) hb2) hb3)
    simp at h
    exact ⟨HB.out.1, HB.out.2, by omega, by omega⟩
theorem rFloat (k n q : Int) (s : ByteArray) (w : World) :
    Calls Tryz.prog 49 #[vaV k n q s] w (SomeD (FloatP n q) w) := by
  by_cases hn : n = 0
  · subst hn; exact rFloat0 k q s w
  · by_cases hb : -1000000000000000 < n ∧ n < 1000000000000000
    · exact rFloatM k n q s w hn hb
    · exact rFloatN k n q s w hn hb

set_option maxHeartbeats 400000 in
theorem right_3_d (n q : Int) (s : ByteArray) (w : World) :
    Calls Tryz.prog 10 #[vaV 3 n q s] w (SomeD (FloatP n q) w) := by
  have hfd := fld_1
  have hn : ∀ (f : Nat) (w : World), (binOp .neq 32 (fnv f) .nilFunc).run Tryz.prog w = .ok (.bool true) w := fun _ _ => by kernel_rfl
  go_enter Tryz.func10, Tryz.ntmps10
  go_wp2_with (first
    | (go_at_call 20; refine (rules_3 _).mono ?_; rintro e w1 ⟨rfl, hb⟩; obtain ⟨hc, hf⟩ := bcell hb)
    | (go_at_call 49; refine (rFloat _ _ _ _ _).mono ?_; rintro e w2 ⟨r, rfl, hr, hb2⟩))
  go_ret
  exact SomeD.of _ hr (below_then (below_then (by go_grown) hb (by simp)) hb2 (by have := hb.size; simp at this ⊢; omega))
end Go.Proofs.YtjdgefgdekanjaaGreatDoor
