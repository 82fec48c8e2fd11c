/- digit.Right of floats. digit.Right of bits; of any value. -/
import Derived.Test.YtafhboppojeafaaGreatDoorWrdIter
import Derived.Test.YtafhboppojeafaaGreatDoorWrdRight
import Derived.Test.YtafhboppojeafaaGreatDoorWrdNum
import Derived.Test.YtafhboppojeafaaGreatDoorShelfStr
namespace Go.Proofs.YtafhboppojeafaaGreatDoor
open Go.RowKit

abbrev FloatP (n q : Int) : Prop := -1000000000000000 < n ∧ n < 1000000000000000 ∧ -1000 ≤ q ∧ q ≤ 1000
set_option maxHeartbeats 1000000 in
theorem rFloat0 (k q : Int) (s : ByteArray) (w : World) :
    Calls Tryz.prog 55 #[vaV k 0 q s] w (SomeD (FloatP 0 q) w) := by
  by_cases hq : q = 0
  · subst hq
    go_enter Tryz.func55, Tryz.ntmps55
    go_wp2
    go_ret
    exact SomeD.of _ (fun _ => by decide) (by go_grown)
  · go_enter Tryz.func55, Tryz.ntmps55
    go_wp2
    go_ret
    exact SomeD.of false (fun h => by cases h) (by go_grown)
set_option maxHeartbeats 1000000 in
theorem rFloatN (k n q : Int) (s : ByteArray) (w : World) (hn : ¬ n = 0) (hb : ¬ (-1000000000000000 < n ∧ n < 1000000000000000)) :
    Calls Tryz.prog 55 #[vaV k n q s] w (SomeD (FloatP n q) w) := by
  have HB := Lib.hid hb
  clear hb
  go_enter Tryz.func55, Tryz.ntmps55
  go_wp2_with (go_at_call 86; refine (below_b false _ _ _ (by omega) (by omega) (by simpa using HB.out)).mono ?_; rintro e w' ⟨rfl, rfl⟩)
  go_ret
  exact SomeD.of false (fun h => by cases h) (by go_grown)
set_option maxHeartbeats 1000000 in
theorem rFloatM (k n q : Int) (s : ByteArray) (w : World) (hn : ¬ n = 0) (hb : -1000000000000000 < n ∧ n < 1000000000000000) :
    Calls Tryz.prog 55 #[vaV k n q s] w (SomeD (FloatP n q) w) := by
  have HB := Lib.hid hb
  obtain ⟨L, hL⟩ : ∃ L, (digs n.natAbs).length = L := ⟨_, rfl⟩
  have hL1 : L ≤ 15 := by rw [← hL]; exact digs_length _ _ (by omega)
  have HM : Hid (∀ W, Calls Tryz.prog 87 #[.int .i64 n] W (GivesW W n.natAbs)) := Lib.hid fun W => magnitude_d n W (by omega) (by omega)
  have HLn : Hid (∀ (v : Value) (W : World) (B : Nat), WArg B W v n.natAbs → Calls Tryz.prog 88 #[v] W fun e w' => e = .returned (.int .i64 (L : Int)) ∧ Below W.heap.size W w') := Lib.hid fun v W B h => by
    rw [← hL]; exact length_d h (Nat.le_trans (wrds_length n.natAbs 2 (by omega)) (by decide)) (by omega)
  clear hb hL
  have RA := Row.new w (vaC k n q s) 23
  have w1 : IntKind.i64.wrap ((L : Int) - 1) = (L : Int) - 1 := IntWalk.i64_in _ (by omega)
  have w2 : IntKind.i64.wrap (-75 - ((L : Int) - 1)) = -75 - ((L : Int) - 1) := IntWalk.i64_in _ (by omega)
  have w3 : IntKind.i64.wrap (75 - ((L : Int) - 1)) = 75 - ((L : Int) - 1) := IntWalk.i64_in _ (by omega)
  go_enter Tryz.func55, Tryz.ntmps55
  go_wp2_with (first
    | (go_at_call 86; refine (below_b true _ _ _ (by omega) (by omega) (by simpa using HB.out)).mono ?_; rintro e w' ⟨rfl, rfl⟩)
    | (go_at_call 87; refine (HM.out _).mono ?_; rintro e w2 ⟨v2, rfl, W2, hb2⟩; have R2 := RA.keep hb2)
    | (go_at_call 88; refine (HLn.out _ _ _ W2).mono ?_; rintro e w3 ⟨rfl, hb3⟩; have R3 := R2.keep hb3; obtain ⟨x0, x1, x2, x3⟩ := R3.four)
    | (go_at_call 85; refine (within_any _ _ _ _).mono ?_; rintro e w4 ⟨rfl, rfl⟩))
  · go_ret
    exact SomeD.of false (fun h => by cases h) (by go_grown)
  · go_ret
    exact SomeD.of false (fun h => by cases h) (by go_grown)
  · go_ret
    refine SomeD.of _ (fun h => ?_) (bl_then (bl_box (Below.refl _ w) hb2) hb3)
    simp at h
    exact ⟨HB.out.1, HB.out.2, by omega, by omega⟩
theorem rFloat (k n q : Int) (s : ByteArray) (w : World) :
    Calls Tryz.prog 55 #[vaV k n q s] w (SomeD (FloatP n q) w) := by
  by_cases hn : n = 0
  · subst hn; exact rFloat0 k q s w
  · by_cases hb : -1000000000000000 < n ∧ n < 1000000000000000
    · exact rFloatM k n q s w hn hb
    · exact rFloatN k n q s w hn hb

set_option maxHeartbeats 400000 in
theorem right_3_d (n q : Int) (s : ByteArray) (w : World) :
    Calls Tryz.prog 39 #[vaV 3 n q s] w (SomeD (FloatP n q) w) := by
  have hfd := fld_1
  have hn : ∀ (f : Nat) (w : World), (binOp .neq 26 (fnv f) .nilFunc).run Tryz.prog w = .ok (.bool true) w := fun _ _ => by kernel_rfl
  go_enter Tryz.func39, Tryz.ntmps39
  go_wp2_with (first
    | (go_at_call 30; refine (rules_3 _).mono ?_; rintro e w1 ⟨rfl, hb⟩; obtain ⟨hc, hf⟩ := bcell hb)
    | (go_at_call 55; refine (rFloat _ _ _ _ _).mono ?_; rintro e w2 ⟨r, rfl, hr, hb2⟩))
  go_ret
  exact SomeD.of _ hr (below_then (below_then (by go_grown) hb (by simp)) hb2 (by have := hb.size; simp at this ⊢; omega))
end Go.Proofs.YtafhboppojeafaaGreatDoor
namespace Go.Proofs.YtafhboppojeafaaGreatDoor
open Go.RowKit

set_option maxHeartbeats 400000 in
theorem rTextL (k n q : Int) (s : ByteArray) (w : World) :
    Calls Tryz.prog 62 #[vaV k n q s] w (SomeD (s.size ≤ 250) w) := by
  by_cases h : (s.size : Int) ≤ 250
  · have HS : Hid (s.size ≤ 250) := Lib.hid (by omega)
    by_cases h' : n = 0
    · subst h'
      go_enter Tryz.func62, Tryz.ntmps62
      go_wp2
      go_ret
      exact SomeD.of _ (fun _ => HS.out) (by go_grown)
    · go_enter Tryz.func62, Tryz.ntmps62
      go_wp2
      go_ret
      exact SomeD.of _ (fun _ => HS.out) (by go_grown)
  · go_enter Tryz.func62, Tryz.ntmps62
    go_wp2
    go_ret
    exact SomeD.of false (fun h => by cases h) (by go_grown)

set_option maxHeartbeats 1000000 in
theorem rBits (k n q : Int) (s : ByteArray) (w : World) :
    Calls Tryz.prog 65 #[vaV k n q s] w (SomeD True w) := by
  have hT : Hid (s.size ≤ 250 → ∀ W, Calls Tryz.prog 101 #[.string s, .string ⟨#[48, 49]⟩] W fun e w' => e = .returned (.string ⟨(Lib.trimS s.data.toList [48, 49]).toArray⟩) ∧ Below W.heap.size W w') := Lib.hid fun h W =>
    Tryz.strings_Trim s ⟨#[48, 49]⟩ W (by omega) (by decide) (ascii_of_all (by decide))
  have RA := Row.new w (vaC k n q s) 23
  go_enter Tryz.func65, Tryz.ntmps65
  go_wp2_with (first
    | (go_at_call 62; refine (rTextL _ _ _ _ _).mono ?_; rintro e w2 ⟨r, rfl, hr, hb2⟩; have R2 := RA.keep hb2; obtain ⟨x0, x1, x2, x3⟩ := R2.four; have HR := Lib.hid hr; have hB2 := Lib.hid (bl_box (Below.refl _ w) hb2); clear hr hb2; cases r)
    | (go_at_call 101; refine (hT.out (HR.out (by first | rfl | trivial)) _).mono ?_; rintro e w3 ⟨rfl, hb3⟩; have hB3 := Lib.hid (bl_then hB2.out hb3); clear hb3))
  · go_ret
    exact SomeD.of _ (fun _ => trivial) hB2.out
  · go_ret
    exact SomeD.of _ (fun _ => trivial) hB3.out

set_option maxHeartbeats 400000 in
theorem right_5_d (n q : Int) (s : ByteArray) (w : World) :
    Calls Tryz.prog 39 #[vaV 5 n q s] w (SomeD True w) := by
  have hfd := fld_1
  have hn : ∀ (f : Nat) (w : World), (binOp .neq 26 (fnv f) .nilFunc).run Tryz.prog w = .ok (.bool true) w := fun _ _ => by kernel_rfl
  go_enter Tryz.func39, Tryz.ntmps39
  go_wp2_with (first
    | (go_at_call 30; refine (rules_5 _).mono ?_; rintro e w1 ⟨rfl, hb⟩; obtain ⟨hc, hf⟩ := bcell hb)
    | (go_at_call 65; refine (rBits _ _ _ _ _).mono ?_; rintro e w2 ⟨r, rfl, hr, hb2⟩))
  go_ret
  exact SomeD.of _ hr (below_then (below_then (by go_grown) hb (by simp)) hb2 (by have := hb.size; simp at this ⊢; omega))

theorem vr1 {n q : Int} {s : ByteArray} (f : -2147483648 < n ∧ n < 2147483648 ∧ 0 ≤ q ∧ q ≤ 31) : (Va.mk 1 n q s).right :=
  ⟨fun _ => f, fun e => absurd e (show (1 : Int) ≠ 2 by decide), fun e => absurd e (show (1 : Int) ≠ 3 by decide)⟩
theorem vr2 {n q : Int} {s : ByteArray} (f : -1000000000000000 < n ∧ n < 1000000000000000 ∧ 0 ≤ q ∧ q ≤ 31) : (Va.mk 2 n q s).right :=
  ⟨fun e => absurd e (show (2 : Int) ≠ 1 by decide), fun _ => f, fun e => absurd e (show (2 : Int) ≠ 3 by decide)⟩
theorem vr3 {n q : Int} {s : ByteArray} (f : FloatP n q) : (Va.mk 3 n q s).right :=
  ⟨fun e => absurd e (show (3 : Int) ≠ 1 by decide), fun e => absurd e (show (3 : Int) ≠ 2 by decide), fun _ => f⟩
theorem vrN {k n q : Int} {s : ByteArray} (h1 : k ≠ 1) (h2 : k ≠ 2) (h3 : k ≠ 3) : (Va.mk k n q s).right :=
  ⟨fun e => absurd e h1, fun e => absurd e h2, fun e => absurd e h3⟩
/-- Right of any value: where it is true, the fields are a right number's. -/
theorem right_va (t : Va) (w : World) : Calls Tryz.prog 39 #[t.v] w (SomeD t.right w) := by
  obtain ⟨k, n, q, s⟩ := t
  by_cases hk : k < 1 ∨ 10 ≤ k
  · exact (right_no_d k n q s w hk).mono fun _ _ h => h.weak fun f => f.elim
  · rcases (by omega : k = 1 ∨ k = 2 ∨ k = 3 ∨ k = 4 ∨ k = 5 ∨ k = 6 ∨ k = 7 ∨ k = 8 ∨ k = 9) with rfl | rfl | rfl | rfl | rfl | rfl | rfl | rfl | rfl
    · exact (right_1_d n q s w).mono fun _ _ h => h.weak vr1
    · exact (right_2_d n q s w).mono fun _ _ h => h.weak vr2
    · exact (right_3_d n q s w).mono fun _ _ h => h.weak vr3
    · exact (right_4_d n q s w).mono fun _ _ h => h.weak fun _ => vrN (by decide) (by decide) (by decide)
    · exact (right_5_d n q s w).mono fun _ _ h => h.weak fun _ => vrN (by decide) (by decide) (by decide)
    · exact (right_6_d n q s w).mono fun _ _ h => h.weak fun _ => vrN (by decide) (by decide) (by decide)
    · exact (right_7_d n q s w).mono fun _ _ h => h.weak fun _ => vrN (by decide) (by decide) (by decide)
    · exact (right_8_d n q s w).mono fun _ _ h => h.weak fun _ => vrN (by decide) (by decide) (by decide)
    · exact (right_9_d n q s w).mono fun _ _ h => h.weak fun _ => vrN (by decide) (by decide) (by decide)
end Go.Proofs.YtafhboppojeafaaGreatDoor
