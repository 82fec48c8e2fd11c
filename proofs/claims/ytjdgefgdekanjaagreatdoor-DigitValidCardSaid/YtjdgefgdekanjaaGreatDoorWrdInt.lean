/- long.int: a long number as a plain one. -/
import Derived.Test.YtjdgefgdekanjaaGreatDoorWrdShare
import Derived.Test.YtjdgefgdekanjaaGreatDoorWrdLong
namespace Go.Proofs.YtjdgefgdekanjaaGreatDoor
open Go.RowKit

theorem wrd_two {n : Nat} (h : n < 18446744073709551616) : wrd n 1 * 4294967296 + wrd n 0 = n := by
  have e0 := wval_drop (wrds n) 0
  have e1 := wval_drop (wrds n) 1
  have e2 : wval ((wrds n).drop 2) = 0 := wval_drop_end _ _ (wrds_length n 2 (by omega))
  rw [List.drop_zero, wval_digs] at e0
  show (((wrds n)[1]?).getD 0) * 4294967296 + (((wrds n)[0]?).getD 0) = n
  rw [show (1 + 1 : Nat) = 2 from rfl, e2] at e1
  rw [show (0 + 1 : Nat) = 1 from rfl] at e0
  omega

set_option maxRecDepth 100000 in
set_option maxHeartbeats 2000000 in
theorem int_l {B : Nat} {z : Int} {v : Value} {w : World} (hL : LArg B w v z) (h1 : -9223372036854775808 < z) (h2 : z < 9223372036854775808) :
    Calls Tryz.prog 92 #[v] w fun e w' => e = .returned (.int .i64 z) ∧ Below w.heap.size w w' := by
  obtain ⟨sl, rfl, hA⟩ := hL
  have hn := wrd_two (n := z.natAbs) (by omega)
  have x1 := wrd_lt z.natAbs 1
  have x0 := wrd_lt z.natAbs 0
  have HA := Lib.hid hA
  have HW : Hid (∀ (i : Nat) (W : World), i ≤ 1 → Below w.heap.size w W → Calls Tryz.prog 108 #[sl, .int .i64 (i : Int)] W fun e w' => e = .returned (.int .u64 (wrd z.natAbs i : Int)) ∧ w' = W) := by
    show ∀ (_ : Nat), _
    exact fun i W hi hW => (word_d (HA.out.keep hW (Nat.le_refl _)) i (Nat.le_trans (wrds_length z.natAbs 2 (by omega)) (by decide)) (by omega)).mono fun _ _ ⟨h1, h2⟩ => ⟨h1, h2.symm⟩
  obtain ⟨p, k, rfl⟩ := hA.slice
  obtain ⟨wh, hwh⟩ : ∃ x, wrd z.natAbs 1 = x := ⟨_, rfl⟩
  obtain ⟨wl, hwl⟩ : ∃ x, wrd z.natAbs 0 = x := ⟨_, rfl⟩
  have HW1 : Hid (∀ (W : World), Below w.heap.size w W → Calls Tryz.prog 108 #[.slice p (wrds z.natAbs).length k, .int .i64 1] W fun e w' => e = .returned (.int .u64 (wh : Int)) ∧ w' = W) := Lib.hid fun W hW => by
    rw [← hwh]; exact HW.out 1 W (by decide) hW
  have HW0 : Hid (∀ (W : World), Below w.heap.size w W → Calls Tryz.prog 108 #[.slice p (wrds z.natAbs).length k, .int .i64 0] W fun e w' => e = .returned (.int .u64 (wl : Int)) ∧ w' = W) := Lib.hid fun W hW => by
    rw [← hwl]; exact HW.out 0 W (by decide) hW
  rw [hwh, hwl] at hn
  rw [hwh] at x1
  rw [hwl] at x0
  have hor := or_words wh wl x1 x0
  obtain ⟨N, hN⟩ : ∃ N, wh * 4294967296 + wl = N := ⟨_, rfl⟩
  rw [hN] at hor hn
  have hNz : N = z.natAbs := by omega
  have hw1 : IntKind.u64.wrap ((wh : Int) * 4294967296) = (wh : Int) * 4294967296 := IntWalk.u64_in _ (by omega)
  have hw2 : IntKind.i64.wrap (N : Int) = N := IntWalk.i64_in _ (by omega)
  have HZ := Lib.hid hNz
  have RA := Row.new w (lgC (.slice p (wrds z.natAbs).length k) (decide (z < 0))) 63
  clear hA HA HW hwh hwl hn hN
  have HB : Hid (Below w.heap.size w (w.alloc (.cells (lgC (.slice p (wrds z.natAbs).length k) (decide (z < 0))) 63))) := Lib.hid ((Below.refl _ w).alloc (Nat.le_refl _) _)
  by_cases hz : z < 0
  · have hw3 : IntKind.i64.wrap (-(N : Int)) = -(N : Int) := IntWalk.i64_in _ (by omega)
    have HR : Hid (-(N : Int) = z) := Lib.hid (by omega)
    rw [decide_eq_true hz] at RA HB ⊢
    clear hz hNz
    go_enter Tryz.func92, Tryz.ntmps92
    go_wp2
    generalize hw : w.alloc (.cells (lgC (.slice p (wrds z.natAbs).length k) true) 63) = W at *
    clear hw
    obtain ⟨c0, c1⟩ := RA.lg
    go_quiet ((go_at_call 108; first | (with_reducible exact Calls.quiet_of_same (HW1.out _ (below_drewN HB.out _))) | (with_reducible exact Calls.quiet_of_same (HW0.out _ (below_drewN HB.out _)))))
    have hB := Lib.hid (below_drewN HB.out nq)
    have d0 : (W.drewN nq).cell? ⟨w.heap.size, 0, none⟩ = _ := c0
    have d1 : (W.drewN nq).cell? ⟨w.heap.size, 1, none⟩ = _ := c1
    go_wp2
    go_ret
    exact ⟨by rw [HR.out]; rfl, hB.out⟩
  · have HR : Hid ((N : Int) = z) := Lib.hid (by omega)
    rw [decide_eq_false hz] at RA HB ⊢
    clear hz hNz
    go_enter Tryz.func92, Tryz.ntmps92
    go_wp2
    generalize hw : w.alloc (.cells (lgC (.slice p (wrds z.natAbs).length k) false) 63) = W at *
    clear hw
    obtain ⟨c0, c1⟩ := RA.lg
    go_quiet ((go_at_call 108; first | (with_reducible exact Calls.quiet_of_same (HW1.out _ (below_drewN HB.out _))) | (with_reducible exact Calls.quiet_of_same (HW0.out _ (below_drewN HB.out _)))))
    have hB := Lib.hid (below_drewN HB.out nq)
    have d0 : (W.drewN nq).cell? ⟨w.heap.size, 0, none⟩ = _ := c0
    have d1 : (W.drewN nq).cell? ⟨w.heap.size, 1, none⟩ = _ := c1
    go_wp2
    go_ret
    exact ⟨by rw [HR.out]; rfl, hB.out⟩
end Go.Proofs.YtjdgefgdekanjaaGreatDoor
