/- digit: (long).scaled. -/
import Derived.Test.YtllpldndkojagaaGreatDoorWrdLong
import Derived.Test.YtllpldndkojagaaGreatDoorBitLow
namespace Go.Proofs.YtllpldndkojagaaGreatDoor
open Go.RowKit

theorem wrds_mul_len (a b : Nat) : (wrds (a * b)).length ≤ (wrds a).length + (wrds b).length := by
  apply wrds_len
  have ha := wval_lt (wrds a) (wrds_digs a)
  have hb := wval_lt (wrds b) (wrds_digs b)
  rw [wval_digs] at ha hb
  rw [Nat.pow_add]
  exact Nat.mul_lt_mul'' ha hb
theorem LArg.arg {B : Nat} {w : World} {sl : Value} {b : Bool} {z : Int} (h : LArg B w (.agg #[sl, .bool b]) z) : WArg B w sl z.natAbs := by
  obtain ⟨sl', e, hw⟩ := h
  cases e
  exact hw
theorem scale_sign {z : Int} {u : Nat} (h : z * u ≠ 0) : decide (z < 0) = decide (z * u < 0) := by
  have hu : 0 < (u : Int) := by
    rcases Nat.eq_zero_or_pos u with rfl | hu
    · exact absurd (by simp) h
    · omega
  by_cases hz : z < 0
  · rw [decide_eq_true hz, decide_eq_true (Int.mul_neg_of_neg_of_pos hz hu)]
  · rw [decide_eq_false hz, decide_eq_false (by have := Int.mul_nonneg (show 0 ≤ z by omega) (Int.le_of_lt hu); omega)]

set_option maxRecDepth 100000 in
set_option maxHeartbeats 2000000 in
theorem scaled_l {B C : Nat} {z : Int} {u : Nat} {va vu : Value} {w : World} (hA : LArg B w va z) (hU : WArg C w vu u) (la : (wrds z.natAbs).length ≤ 10000) (lu : (wrds u).length ≤ 10000) :
    Calls Tryz.prog 29 #[va, vu] w (GivesL w (z * u)) := by
  obtain ⟨pa, ka, rfl⟩ := hA.open
  obtain ⟨pu, ku, rfl⟩ := hU.slice
  have HA := Lib.hid hA.arg
  have HU := Lib.hid hU
  have LA : Hid ((wrds (z * u).natAbs).length ≤ 1000000) := Lib.hid (by rw [Int.natAbs_mul, Int.natAbs_natCast]; have := wrds_mul_len z.natAbs u; omega)
  have HS : Hid (z * u ≠ 0 → decide (z < 0) = decide (z * u < 0)) := by show _ → _; exact scale_sign
  have HM : Hid ((z * u).natAbs = z.natAbs * u) := Lib.hid (by rw [Int.natAbs_mul, Int.natAbs_natCast])
  obtain ⟨Z, hZ⟩ : ∃ Z : Int, z * u = Z := ⟨_, rfl⟩
  rw [hZ] at LA HS HM ⊢
  clear hA hU hZ
  generalize hd : decide (z < 0) = d at *
  have RA := (Row.new w (lgC (.slice pa (wrds z.natAbs).length ka) d) 43).alloc (.cells (lgC (.slice none 0 0) false) 43)
  have RZ := Row.new2 w (.cells (lgC (.slice pa (wrds z.natAbs).length ka) d) 43) (lgC (.slice none 0 0) false) 43
  go_enter Tryz.func29, Tryz.ntmps29
  go_wp2
  generalize hw : (w.alloc (.cells (lgC (.slice pa (wrds z.natAbs).length ka) d) 43)).alloc (.cells (lgC (.slice none 0 0) false) 43) = W at *
  have B0 : Hid (Below w.heap.size w W) := by show Below _ _ _; rw [← hw]; go_grown
  have hsz : w.heap.size + 1 + 1 = W.heap.size := by rw [← hw]; simp
  clear hw hd
  obtain ⟨x0, x1⟩ := RA.lg
  go_region_held3 (fun w' => w'.cell? ⟨w.heap.size, 0, none⟩ = some (.slice pa (wrds z.natAbs).length ka) ∧ w'.cell? ⟨w.heap.size, 1, none⟩ = some (.bool d))
    (first | go_keep | exact A3.lg | exact A2.lg)
    (first
      | (go_at_call 30; refine (product_d (B := B) (C := C) ((HA.out.keep B0.out (Nat.le_refl _)).drew) ((HU.out.keep B0.out (Nat.le_refl _)).drew) la lu).mono ?_; rintro e w2 ⟨v2, rfl, W2, hb2⟩; have A2 := RA.keep (bl_drew hb2); have Z2 := RZ.keep (bl_drew hb2))
      | (go_at_call 32; refine (signed_z (z := Z) (B := w.heap.size + 1 + 1) (by rw [HM.out, hsz]; exact W2.base (by simp)) LA.out HS.out).mono ?_; rintro e w3 ⟨u3, rfl, L3, hb3⟩; have A3 := A2.keep hb3; have Z3 := Z2.keep hb3; have L3' := Lib.hid L3; obtain ⟨p3, k3, rfl⟩ := L3.open; clear L3; obtain ⟨z0, z1⟩ := Z3.lg; have f0 := Z3.free 0; have f1 := Z3.free 1))
  go_wp2
  refine bodyPost_ret (v := .agg #[.slice p3 (wrds Z.natAbs).length k3, .bool (decide (Z < 0))]) (by simp [results, Tryz.results29, go_sem, z0, z1]) rfl ⟨_, rfl, ?_, ?_⟩
  · exact (((L3'.out.put _ _ (by simp)).put _ _ (by simp)).base (by omega))
  · (repeat refine Below.setCell ?_ (by simp <;> omega) _)
    exact bl_then B0.out (bl_then (bl_drew hb2) hb3)
end Go.Proofs.YtllpldndkojagaaGreatDoor
