/- digit.textFixed. -/
import Derived.Test.YtllpldndkojagaaGreatDoorWrdTextD
import Derived.Deep.RegionHeld3
namespace Go.Proofs.YtllpldndkojagaaGreatDoor
open Go.RowKit

theorem bytes_ext {x y : ByteArray} (h : x.data.toList = y.data.toList) : x = y := by
  cases x; cases y
  congr 1
  exact Array.ext' h
theorem bz_take (l : List UInt8) (n : Nat) : (bsz l).extract 0 n = bsz (l.take n) := bytes_ext (by rw [Lib.extract_data]; simp)
theorem bz_drop (l : List UInt8) (n : Nat) : (bsz l).extract n l.length = bsz (l.drop n) := bytes_ext (by rw [Lib.extract_data, List.take_of_length_le (by simp)])

set_option maxRecDepth 100000 in
set_option maxHeartbeats 4000000 in
theorem textFixed_pad {B : Nat} {z : Int} {q : Nat} {v : Value} {w : World} (hL : LArg B w v z) (la : (wrds z.natAbs).length ≤ 10000) (ld : (digs z.natAbs).length ≤ 100000) (lq : q ≤ 100000) (hq : (decT z.natAbs).length < q + 1) :
    Calls Tryz.prog 82 #[v, .int .i64 (q : Int)] w fun e w' => e = .returned (.string (bsz (fixT z q))) ∧ Below w.heap.size w w' := by
  obtain ⟨sl, rfl, hA⟩ := hL
  have HA := Lib.hid hA
  obtain ⟨p, k, rfl⟩ := hA.slice
  obtain ⟨D, hD⟩ : ∃ D, decT z.natAbs = D := ⟨_, rfl⟩
  have hDl : D.length ≤ 100000 := by rw [← hD, decT_length]; exact ld
  have HTX : Hid (∀ W, Below w.heap.size w W → Calls Tryz.prog 94 #[.slice p (wrds z.natAbs).length k] W fun e w' => e = .returned (.string (bsz D)) ∧ Below W.heap.size W w') := Lib.hid fun W hW => by
    rw [← hD]; exact text_d (HA.out.keep hW (Nat.le_refl _)) la (by omega)
  have HMK : Hid (∀ W, Calls Tryz.prog 95 #[.agg #[.slice p (wrds z.natAbs).length k, .bool (decide (z < 0))]] W fun e w' => e = .returned (.string (bsz (mkT z))) ∧ Below W.heap.size W w') := Lib.hid fun W => mark_d _ z W p _ k rfl
  rw [hD] at hq
  obtain ⟨dd, hdd⟩ : ∃ dd, padT (q + 1) D = dd := ⟨_, rfl⟩
  have hfix : fixT z q = mkT z ++ ptT (dd.take (dd.length - q)) (dd.drop (dd.length - q)) := by unfold fixT; rw [hD, hdd]
  have hmk : (mkT z).length ≤ 1 := by unfold mkT; split <;> simp
  have hddl : dd.length = max (q + 1) D.length := by rw [← hdd]; unfold padT; simp; omega
  obtain ⟨N, hN⟩ : ∃ N, dd.length = N := ⟨_, rfl⟩
  rw [hN] at hfix hddl
  obtain ⟨pt, hpt⟩ : ∃ pt, N - q = pt := ⟨_, rfl⟩
  rw [hpt] at hfix
  have HPT : Hid (∀ W, Calls Tryz.prog 96 #[.string (bsz (dd.take pt)), .string (bsz (dd.drop pt))] W fun e w' => e = .returned (.string (bsz (ptT (dd.take pt) (dd.drop pt)))) ∧ w' = W) := Lib.hid fun W => pointed_d _ _ W (by simp; omega) (by simp; omega)
  have hptl : (ptT (dd.take pt) (dd.drop pt)).length ≤ 1000000 := by unfold ptT; split <;> simp <;> omega
  have aM := fun W => addS (mkT z) (ptT (dd.take pt) (dd.drop pt)) (fixT z q) hfix.symm (by omega) (by omega) W
  have e1 : (bsz dd).extract 0 pt = bsz (dd.take pt) := bz_take dd pt
  have e2 : (bsz dd).extract pt N = bsz (dd.drop pt) := by rw [← hN]; exact bz_drop dd pt
  have sD : (bsz D).size = D.length := rfl
  have sdd : (bsz dd).size = N := hN
  obtain ⟨c, hc⟩ : ∃ c, q + 1 - D.length = c := ⟨_, rfl⟩
  have HRP : Hid (∀ W, Calls Tryz.prog 105 #[.string ⟨#[48]⟩, .int .i64 (c : Int)] W fun e w' => e = .returned (.string (bsz (List.replicate c 48))) ∧ Below W.heap.size W w') := Lib.hid fun W => by
    have := Tryz.strings_Repeat ⟨#[48]⟩ c W (by omega) (by show 1 * c ≤ _; omega)
    rw [show (⟨#[48]⟩ : ByteArray).data.toList = [48] from rfl, repeatL_zero] at this
    exact this
  have aD := fun W => addS (List.replicate c 48) D dd (by rw [← hdd, ← hc]; rfl) (by simp; omega) (by omega) W
  have w1 : IntKind.i64.wrap ((q : Int) + 1) = (q : Int) + 1 := IntWalk.i64_in _ (by omega)
  have w2 : IntKind.i64.wrap ((q : Int) + 1 - (D.length : Int)) = (c : Int) := by rw [show (q : Int) + 1 - (D.length : Int) = c by omega]; exact IntWalk.i64_in _ (by omega)
  have hcp : (0 : Int) < c := by omega
  have hcp2 : 0 < c := by omega
  have w3 : IntKind.i64.wrap ((N : Int) - (q : Int)) = (pt : Int) := by rw [show (N : Int) - (q : Int) = pt by omega]; exact IntWalk.i64_in _ (by omega)
  have i1 : (pt : Int) ≤ N := by omega
  have i2 : pt ≤ N := by omega
  obtain ⟨S1, hS1⟩ : ∃ S, bsz dd = S := ⟨_, rfl⟩
  obtain ⟨S2, hS2⟩ : ∃ S, bsz (List.take pt dd) = S := ⟨_, rfl⟩
  obtain ⟨S3, hS3⟩ : ∃ S, bsz (List.drop pt dd) = S := ⟨_, rfl⟩
  obtain ⟨S4, hS4⟩ : ∃ S, bsz (ptT (List.take pt dd) (List.drop pt dd)) = S := ⟨_, rfl⟩
  obtain ⟨S5, hS5⟩ : ∃ S, bsz (mkT z) = S := ⟨_, rfl⟩
  obtain ⟨S6, hS6⟩ : ∃ S, bsz (fixT z q) = S := ⟨_, rfl⟩
  rw [hS4, hS2, hS3] at HPT
  rw [hS4, hS5, hS6] at aM
  rw [hS1, hS2] at e1
  rw [hS1, hS3] at e2
  rw [hS5] at HMK
  rw [hS6]
  rw [hS1] at sdd
  obtain ⟨S7, hS7⟩ : ∃ S, bsz D = S := ⟨_, rfl⟩
  obtain ⟨S8, hS8⟩ : ∃ S, bsz (List.replicate c 48) = S := ⟨_, rfl⟩
  obtain ⟨ND, hND⟩ : ∃ n, D.length = n := ⟨_, rfl⟩
  rw [hS7] at sD HTX aD
  rw [hS8] at HRP aD
  rw [hS1] at aD
  rw [hND] at w2 sD
  clear hS7 hS8 hND
  clear hS1 hS2 hS3 hS4 hS5 hS6 hA HA hD hDl hq hdd hfix hmk hddl hN hpt hptl la ld lq
  have RA := Row.new w (lgC (.slice p (wrds z.natAbs).length k) (decide (z < 0))) 43
  obtain ⟨dz, hdz⟩ : ∃ d, decide (z < 0) = d := ⟨_, rfl⟩
  rw [hdz] at HMK RA ⊢
  clear hdz
  go_enter Tryz.func82, Tryz.ntmps82
  go_wp2_with fail
  generalize hw : w.alloc (.cells (lgC (.slice p (wrds z.natAbs).length k) dz) 43) = W at *
  have B0 : Hid (Below w.heap.size w W) := by show Below _ _ _; rw [← hw]; go_grown
  clear hw
  obtain ⟨x0, x1⟩ := RA.lg
  go_wp2_with (first
    | (go_at_call 94; (with_reducible refine (HTX.out _ B0.out).mono ?_); rintro e w2 ⟨rfl, hb2⟩; have R2 := RA.keep hb2; have B2 := Lib.hid (bl_then B0.out hb2); obtain ⟨y0, y1⟩ := R2.lg)
    | (go_at_call 105; (with_reducible refine (HRP.out _).mono ?_); rintro e w3 ⟨rfl, hb3⟩; have R3 := R2.keep hb3; have B3 := Lib.hid (bl_then B2.out hb3); obtain ⟨z0, z1⟩ := R3.lg))
  go_region_held3 (fun w' => w'.cell? ⟨w.heap.size, 0, none⟩ = some (.slice p (wrds z.natAbs).length k) ∧ w'.cell? ⟨w.heap.size, 1, none⟩ = some (.bool dz))
    (first | go_keep | exact R4.lg | ((try dsimp only); (repeat' apply And.intro) <;> go_keep))
    (first
      | (go_at_call 95; (with_reducible refine (HMK.out _).mono ?_); rintro e w4 ⟨rfl, hb4⟩; have R4 := R3.keep (bl_drew hb4); have B4 := Lib.hid (bl_then B3.out (bl_drew hb4)))
      | (go_at_call 96; (with_reducible refine (HPT.out _).mono ?_); rintro e w5 ⟨rfl, rfl⟩))
  go_wp2
  go_ret
  exact ⟨rfl, B4.out⟩

set_option maxRecDepth 100000 in
set_option maxHeartbeats 4000000 in
theorem textFixed_long {B : Nat} {z : Int} {q : Nat} {v : Value} {w : World} (hL : LArg B w v z) (la : (wrds z.natAbs).length ≤ 10000) (ld : (digs z.natAbs).length ≤ 100000) (lq : q ≤ 100000) (hq : q + 1 ≤ (decT z.natAbs).length) :
    Calls Tryz.prog 82 #[v, .int .i64 (q : Int)] w fun e w' => e = .returned (.string (bsz (fixT z q))) ∧ Below w.heap.size w w' := by
  obtain ⟨sl, rfl, hA⟩ := hL
  have HA := Lib.hid hA
  obtain ⟨p, k, rfl⟩ := hA.slice
  obtain ⟨D, hD⟩ : ∃ D, decT z.natAbs = D := ⟨_, rfl⟩
  have hDl : D.length ≤ 100000 := by rw [← hD, decT_length]; exact ld
  have HTX : Hid (∀ W, Below w.heap.size w W → Calls Tryz.prog 94 #[.slice p (wrds z.natAbs).length k] W fun e w' => e = .returned (.string (bsz D)) ∧ Below W.heap.size W w') := Lib.hid fun W hW => by
    rw [← hD]; exact text_d (HA.out.keep hW (Nat.le_refl _)) la (by omega)
  have HMK : Hid (∀ W, Calls Tryz.prog 95 #[.agg #[.slice p (wrds z.natAbs).length k, .bool (decide (z < 0))]] W fun e w' => e = .returned (.string (bsz (mkT z))) ∧ Below W.heap.size W w') := Lib.hid fun W => mark_d _ z W p _ k rfl
  rw [hD] at hq
  obtain ⟨dd, hdd⟩ : ∃ dd, padT (q + 1) D = dd := ⟨_, rfl⟩
  have hfix : fixT z q = mkT z ++ ptT (dd.take (dd.length - q)) (dd.drop (dd.length - q)) := by unfold fixT; rw [hD, hdd]
  have hmk : (mkT z).length ≤ 1 := by unfold mkT; split <;> simp
  have hddl : dd.length = max (q + 1) D.length := by rw [← hdd]; unfold padT; simp; omega
  obtain ⟨N, hN⟩ : ∃ N, dd.length = N := ⟨_, rfl⟩
  rw [hN] at hfix hddl
  obtain ⟨pt, hpt⟩ : ∃ pt, N - q = pt := ⟨_, rfl⟩
  rw [hpt] at hfix
  have HPT : Hid (∀ W, Calls Tryz.prog 96 #[.string (bsz (dd.take pt)), .string (bsz (dd.drop pt))] W fun e w' => e = .returned (.string (bsz (ptT (dd.take pt) (dd.drop pt)))) ∧ w' = W) := Lib.hid fun W => pointed_d _ _ W (by simp; omega) (by simp; omega)
  have hptl : (ptT (dd.take pt) (dd.drop pt)).length ≤ 1000000 := by unfold ptT; split <;> simp <;> omega
  have aM := fun W => addS (mkT z) (ptT (dd.take pt) (dd.drop pt)) (fixT z q) hfix.symm (by omega) (by omega) W
  have e1 : (bsz dd).extract 0 pt = bsz (dd.take pt) := bz_take dd pt
  have e2 : (bsz dd).extract pt N = bsz (dd.drop pt) := by rw [← hN]; exact bz_drop dd pt
  have sD : (bsz D).size = D.length := rfl
  have sdd : (bsz dd).size = N := hN
  have hdD : dd = D := by rw [← hdd]; unfold padT; rw [show q + 1 - D.length = 0 by omega]; rfl
  have w1 : IntKind.i64.wrap ((q : Int) + 1) = (q : Int) + 1 := IntWalk.i64_in _ (by omega)
  have w2 : IntKind.i64.wrap ((q : Int) + 1 - (D.length : Int)) = (q : Int) + 1 - (D.length : Int) := IntWalk.i64_in _ (by omega)
  have hcp : ¬ 0 < (q : Int) + 1 - (D.length : Int) := by omega
  have hcp2 : (q : Int) + 1 - (D.length : Int) ≤ 0 := by omega
  subst hdD
  have w3 : IntKind.i64.wrap ((N : Int) - (q : Int)) = (pt : Int) := by rw [show (N : Int) - (q : Int) = pt by omega]; exact IntWalk.i64_in _ (by omega)
  have i1 : (pt : Int) ≤ N := by omega
  have i2 : pt ≤ N := by omega
  obtain ⟨S1, hS1⟩ : ∃ S, bsz dd = S := ⟨_, rfl⟩
  obtain ⟨S2, hS2⟩ : ∃ S, bsz (List.take pt dd) = S := ⟨_, rfl⟩
  obtain ⟨S3, hS3⟩ : ∃ S, bsz (List.drop pt dd) = S := ⟨_, rfl⟩
  obtain ⟨S4, hS4⟩ : ∃ S, bsz (ptT (List.take pt dd) (List.drop pt dd)) = S := ⟨_, rfl⟩
  obtain ⟨S5, hS5⟩ : ∃ S, bsz (mkT z) = S := ⟨_, rfl⟩
  obtain ⟨S6, hS6⟩ : ∃ S, bsz (fixT z q) = S := ⟨_, rfl⟩
  rw [hS4, hS2, hS3] at HPT
  rw [hS4, hS5, hS6] at aM
  rw [hS1, hS2] at e1
  rw [hS1, hS3] at e2
  rw [hS5] at HMK
  rw [hS6]
  rw [hS1] at sdd HTX
  rw [hN] at w2 hcp hcp2
  clear sD
  clear hS1 hS2 hS3 hS4 hS5 hS6 hA HA hD hDl hq hfix hmk hddl hN hpt hptl la ld lq
  have RA := Row.new w (lgC (.slice p (wrds z.natAbs).length k) (decide (z < 0))) 43
  obtain ⟨dz, hdz⟩ : ∃ d, decide (z < 0) = d := ⟨_, rfl⟩
  rw [hdz] at HMK RA ⊢
  clear hdz
  go_enter Tryz.func82, Tryz.ntmps82
  go_wp2_with fail
  generalize hw : w.alloc (.cells (lgC (.slice p (wrds z.natAbs).length k) dz) 43) = W at *
  have B0 : Hid (Below w.heap.size w W) := by show Below _ _ _; rw [← hw]; go_grown
  clear hw
  obtain ⟨x0, x1⟩ := RA.lg
  go_wp2_with (first
    | (go_at_call 94; (with_reducible refine (HTX.out _ B0.out).mono ?_); rintro e w2 ⟨rfl, hb2⟩; have R2 := RA.keep hb2; have B2 := Lib.hid (bl_then B0.out hb2); obtain ⟨y0, y1⟩ := R2.lg))
  go_region_held3 (fun w' => w'.cell? ⟨w.heap.size, 0, none⟩ = some (.slice p (wrds z.natAbs).length k) ∧ w'.cell? ⟨w.heap.size, 1, none⟩ = some (.bool dz))
    (first | go_keep | exact R4.lg | ((try dsimp only); (repeat' apply And.intro) <;> go_keep))
    (first
      | (go_at_call 95; (with_reducible refine (HMK.out _).mono ?_); rintro e w4 ⟨rfl, hb4⟩; have R4 := R2.keep (bl_drew hb4); have B4 := Lib.hid (bl_then B2.out (bl_drew hb4)))
      | (go_at_call 96; (with_reducible refine (HPT.out _).mono ?_); rintro e w5 ⟨rfl, rfl⟩))
  go_wp2
  go_ret
  exact ⟨rfl, B4.out⟩

theorem textFixed_d {B : Nat} {z : Int} {q : Nat} {v : Value} {w : World} (hL : LArg B w v z) (la : (wrds z.natAbs).length ≤ 10000) (ld : (digs z.natAbs).length ≤ 100000) (lq : q ≤ 100000) :
    Calls Tryz.prog 82 #[v, .int .i64 (q : Int)] w fun e w' => e = .returned (.string (bsz (fixT z q))) ∧ Below w.heap.size w w' := by
  rcases Nat.lt_or_ge (decT z.natAbs).length (q + 1) with h | h
  · exact textFixed_pad hL la ld lq h
  · exact textFixed_long hL la ld lq h
end Go.Proofs.YtllpldndkojagaaGreatDoor
