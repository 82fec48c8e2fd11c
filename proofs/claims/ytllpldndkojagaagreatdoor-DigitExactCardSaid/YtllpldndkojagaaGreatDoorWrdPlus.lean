/- digit: (long).plus. -/
import Derived.Test.YtllpldndkojagaaGreatDoorWrdScale
import Derived.Test.YtllpldndkojagaaGreatDoorWrdSum
import Derived.Test.YtllpldndkojagaaGreatDoorWrdCmp
namespace Go.Proofs.YtllpldndkojagaaGreatDoor
open Go.RowKit

theorem wrds_add_len (a b : Nat) : (wrds (a + b)).length ≤ max (wrds a).length (wrds b).length + 1 := by
  apply wrds_len
  have ha := wval_lt (wrds a) (wrds_digs a)
  have hb := wval_lt (wrds b) (wrds_digs b)
  rw [wval_digs] at ha hb
  have h1 : 4294967296 ^ (wrds a).length ≤ 4294967296 ^ max (wrds a).length (wrds b).length := Nat.pow_le_pow_right (by decide) (Nat.le_max_left _ _)
  have h2 : 4294967296 ^ (wrds b).length ≤ 4294967296 ^ max (wrds a).length (wrds b).length := Nat.pow_le_pow_right (by decide) (Nat.le_max_right _ _)
  rw [Nat.pow_succ]
  omega
theorem wrds_le_len {a b : Nat} (h : a ≤ b) : (wrds a).length ≤ (wrds b).length := wlength_le_of_wval (wrds_digs b) (wrds_neat a) (by rw [wval_digs, wval_digs]; exact h)

set_option maxRecDepth 100000 in
set_option maxHeartbeats 4000000 in
theorem plus_l {B C : Nat} {a b : Int} {va vb : Value} {w : World} (hA : LArg B w va a) (hB : LArg C w vb b) (la : (wrds a.natAbs).length ≤ 10000) (lb : (wrds b.natAbs).length ≤ 10000) :
    Calls Tryz.prog 28 #[va, vb] w (GivesL w (a + b)) := by
  obtain ⟨pa, ka, rfl⟩ := hA.open
  obtain ⟨pb, kb, rfl⟩ := hB.open
  have HA := Lib.hid hA.arg
  have HB := Lib.hid hB.arg
  have LA : Hid ((wrds (a + b).natAbs).length ≤ 1000000) := Lib.hid (by
    have h1 := wrds_add_len a.natAbs b.natAbs
    have h2 := wrds_le_len (show (a + b).natAbs ≤ a.natAbs + b.natAbs from Int.natAbs_add_le a b)
    omega)
  obtain ⟨Z, hZ⟩ : ∃ Z : Int, a + b = Z := ⟨_, rfl⟩
  rw [hZ] at LA ⊢
  clear hA hB
  obtain ⟨da, hda⟩ : ∃ d, decide (a < 0) = d := ⟨_, rfl⟩
  obtain ⟨db, hdb⟩ : ∃ d, decide (b < 0) = d := ⟨_, rfl⟩
  rw [hda, hdb]
  have RA := ((Row.new w (lgC (.slice pa (wrds a.natAbs).length ka) da) 43).alloc (.cells (lgC (.slice pb (wrds b.natAbs).length kb) db) 43)).alloc (.cells (lgC (.slice none 0 0) false) 43)
  have RC := (Row.new2 w (.cells (lgC (.slice pa (wrds a.natAbs).length ka) da) 43) (lgC (.slice pb (wrds b.natAbs).length kb) db) 43).alloc (.cells (lgC (.slice none 0 0) false) 43)
  have RZ := Row.new3 w (.cells (lgC (.slice pa (wrds a.natAbs).length ka) da) 43) (.cells (lgC (.slice pb (wrds b.natAbs).length kb) db) 43) (lgC (.slice none 0 0) false) 43
  by_cases hs : da = db
  · have HS : Hid (Z ≠ 0 → da = decide (Z < 0)) := by
      show _ → _
      intro _
      rw [← hda] at hs ⊢; rw [← hdb] at hs
      by_cases ha : a < 0
      · have hb : b < 0 := by rw [decide_eq_true ha] at hs; exact of_decide_eq_true hs.symm
        rw [decide_eq_true ha, decide_eq_true (by omega)]
      · have hb : ¬ b < 0 := by rw [decide_eq_false ha] at hs; exact of_decide_eq_false hs.symm
        rw [decide_eq_false ha, decide_eq_false (by omega)]
    have HM : Hid (Z.natAbs = a.natAbs + b.natAbs) := by
      show _ = _
      rw [← hda, ← hdb] at hs
      by_cases ha : a < 0
      · have hb : b < 0 := by rw [decide_eq_true ha] at hs; exact of_decide_eq_true hs.symm
        omega
      · have hb : ¬ b < 0 := by rw [decide_eq_false ha] at hs; exact of_decide_eq_false hs.symm
        omega
    have hq : (da == db) = true := by rw [hs]; simp
    clear hZ hda hdb hs
    go_enter Tryz.func28, Tryz.ntmps28
    go_wp2
    generalize hw : ((w.alloc (.cells (lgC (.slice pa (wrds a.natAbs).length ka) da) 43)).alloc (.cells (lgC (.slice pb (wrds b.natAbs).length kb) db) 43)).alloc (.cells (lgC (.slice none 0 0) false) 43) = W at *
    have B0 : Hid (Below w.heap.size w W) := by show Below _ _ _; rw [← hw]; go_grown
    have hsz : w.heap.size + 1 + 1 + 1 ≤ W.heap.size := by rw [← hw]; simp
    clear hw
    have n1 : ¬ w.heap.size + 1 + 1 = w.heap.size := by omega
    have n2 : ¬ w.heap.size = w.heap.size + 1 + 1 := by omega
    have n3 : ¬ w.heap.size + 1 + 1 = w.heap.size + 1 := by omega
    have n4 : ¬ w.heap.size + 1 = w.heap.size + 1 + 1 := by omega
    obtain ⟨x0, x1⟩ := RA.lg
    obtain ⟨y0, y1⟩ := RC.lg
    go_region_held3 (fun w' => (w'.cell? ⟨w.heap.size, 0, none⟩ = some (.slice pa (wrds a.natAbs).length ka) ∧ w'.cell? ⟨w.heap.size, 1, none⟩ = some (.bool da)) ∧ (w'.cell? ⟨w.heap.size + 1, 0, none⟩ = some (.slice pb (wrds b.natAbs).length kb) ∧ w'.cell? ⟨w.heap.size + 1, 1, none⟩ = some (.bool db)))
      (first | go_keep | exact ⟨A3.lg, C3.lg⟩ | exact ⟨A2.lg, C2.lg⟩ | ((try dsimp only); (repeat' apply And.intro) <;> go_keep))
      (first
        | (go_at_call 73; refine (sum_d (B := B) (C := C) ((HA.out.keep B0.out (Nat.le_refl _)).drew) ((HB.out.keep B0.out (Nat.le_refl _)).drew) la lb).mono ?_; rintro e w2 ⟨v2, rfl, W2, hb2⟩; have A2 := RA.keep (bl_drew hb2); have C2 := RC.keep (bl_drew hb2); have Z2 := RZ.keep (bl_drew hb2))
        | (go_at_call 32; refine (signed_z (z := Z) (B := w.heap.size + 1 + 1 + 1) (by rw [HM.out]; exact W2.base (by simpa using hsz)) LA.out HS.out).mono ?_; rintro e w3 ⟨u3, rfl, L3, hb3⟩; have A3 := A2.keep hb3; have C3 := C2.keep hb3; have Z3 := Z2.keep hb3; have L3' := Lib.hid L3; obtain ⟨p3, k3, rfl⟩ := L3.open; clear L3; obtain ⟨z0, z1⟩ := Z3.lg; have f0 := Z3.free 0; have f1 := Z3.free 1))
    go_wp2
    refine bodyPost_ret (v := .agg #[.slice p3 (wrds Z.natAbs).length k3, .bool (decide (Z < 0))]) (by simp [results, Tryz.results28, go_sem, z0, z1]) rfl ⟨_, rfl, ?_, ?_⟩
    · exact (((L3'.out.put _ _ (by simp)).put _ _ (by simp)).base (by omega))
    · (repeat refine Below.setCell ?_ (by simp <;> omega) _)
      exact bl_then B0.out (bl_then (bl_drew hb2) hb3)
  · have hq : (da == db) = false := by rw [beq_eq_false_iff_ne]; exact hs
    have hopp : (a < 0 ∧ ¬ b < 0) ∨ (¬ a < 0 ∧ b < 0) := by
      rw [← hda, ← hdb] at hs
      by_cases ha : a < 0 <;> by_cases hb : b < 0
      · rw [decide_eq_true ha, decide_eq_true hb] at hs; exact absurd rfl hs
      · exact .inl ⟨ha, hb⟩
      · exact .inr ⟨ha, hb⟩
      · rw [decide_eq_false ha, decide_eq_false hb] at hs; exact absurd rfl hs
    by_cases hlt : a.natAbs < b.natAbs
    · have HC : Hid (cmpZ a.natAbs b.natAbs = -1) := Lib.hid (cmpZ_lt (by omega))
      have HM : Hid (Z.natAbs = b.natAbs - a.natAbs) := Lib.hid (by omega)
      have HS : Hid (Z ≠ 0 → db = decide (Z < 0)) := by
        show _ → _
        intro _
        rw [← hdb]
        by_cases hb : b < 0
        · rw [decide_eq_true hb, decide_eq_true (by omega)]
        · rw [decide_eq_false hb, decide_eq_false (by omega)]
      have hle := Lib.hid (Nat.le_of_lt hlt)
      clear hZ hda hdb hs hopp hlt
      go_enter Tryz.func28, Tryz.ntmps28
      go_wp2_with fail
      generalize hw : ((w.alloc (.cells (lgC (.slice pa (wrds a.natAbs).length ka) da) 43)).alloc (.cells (lgC (.slice pb (wrds b.natAbs).length kb) db) 43)).alloc (.cells (lgC (.slice none 0 0) false) 43) = W at *
      have B0 : Hid (Below w.heap.size w W) := by show Below _ _ _; rw [← hw]; go_grown
      have hsz : w.heap.size + 1 + 1 + 1 ≤ W.heap.size := by rw [← hw]; simp
      clear hw
      have n1 : ¬ w.heap.size + 1 + 1 = w.heap.size := by omega
      have n2 : ¬ w.heap.size = w.heap.size + 1 + 1 := by omega
      have n3 : ¬ w.heap.size + 1 + 1 = w.heap.size + 1 := by omega
      have n4 : ¬ w.heap.size + 1 = w.heap.size + 1 + 1 := by omega
      obtain ⟨x0, x1⟩ := RA.lg
      obtain ⟨y0, y1⟩ := RC.lg
      go_wp2_with (go_at_call 27; refine (compare_d (B := B) (C := C) (HA.out.keep B0.out (Nat.le_refl _)) (HB.out.keep B0.out (Nat.le_refl _)) (Nat.le_trans la (by decide)) (Nat.le_trans lb (by decide))).mono ?_; rw [HC.out]; rintro e w1 ⟨rfl, hb1⟩; have RA := RA.keep hb1; have RC := RC.keep hb1; have RZ := RZ.keep hb1; have B0 := Lib.hid (bl_then B0.out hb1); have hsz := Nat.le_trans hsz hb1.size; obtain ⟨x0, x1⟩ := RA.lg; obtain ⟨y0, y1⟩ := RC.lg; clear hb1)
      go_region_held3 (fun w' => (w'.cell? ⟨w.heap.size, 0, none⟩ = some (.slice pa (wrds a.natAbs).length ka) ∧ w'.cell? ⟨w.heap.size, 1, none⟩ = some (.bool da)) ∧ (w'.cell? ⟨w.heap.size + 1, 0, none⟩ = some (.slice pb (wrds b.natAbs).length kb) ∧ w'.cell? ⟨w.heap.size + 1, 1, none⟩ = some (.bool db)))
        (first | go_keep | exact ⟨A3.lg, C3.lg⟩ | exact ⟨A2.lg, C2.lg⟩ | ((try dsimp only); (repeat' apply And.intro) <;> go_keep))
        (first
          | (go_at_call 74; refine (difference_d (B := C) (C := B) ((HB.out.keep B0.out (Nat.le_refl _)).drew) ((HA.out.keep B0.out (Nat.le_refl _)).drew) hle.out lb).mono ?_; rintro e w2 ⟨v2, rfl, W2, hb2⟩; have A2 := RA.keep (bl_drew hb2); have C2 := RC.keep (bl_drew hb2); have Z2 := RZ.keep (bl_drew hb2))
          | (go_at_call 32; refine (signed_z (z := Z) (B := w.heap.size + 1 + 1 + 1) (by rw [HM.out]; exact W2.base (by simpa using hsz)) LA.out HS.out).mono ?_; rintro e w3 ⟨u3, rfl, L3, hb3⟩; have A3 := A2.keep hb3; have C3 := C2.keep hb3; have Z3 := Z2.keep hb3; have L3' := Lib.hid L3; obtain ⟨p3, k3, rfl⟩ := L3.open; clear L3; obtain ⟨z0, z1⟩ := Z3.lg; have f0 := Z3.free 0; have f1 := Z3.free 1))
      go_wp2
      refine bodyPost_ret (v := .agg #[.slice p3 (wrds Z.natAbs).length k3, .bool (decide (Z < 0))]) (by simp [results, Tryz.results28, go_sem, z0, z1]) rfl ⟨_, rfl, ?_, ?_⟩
      · exact (((L3'.out.put _ _ (by simp)).put _ _ (by simp)).base (by omega))
      · (repeat refine Below.setCell ?_ (by simp <;> omega) _)
        exact bl_then B0.out (bl_then (bl_drew hb2) hb3)
    · have HM : Hid (Z.natAbs = a.natAbs - b.natAbs) := Lib.hid (by omega)
      have HS : Hid (Z ≠ 0 → da = decide (Z < 0)) := by
        show _ → _
        intro _
        rw [← hda]
        by_cases ha : a < 0
        · rw [decide_eq_true ha, decide_eq_true (by omega)]
        · rw [decide_eq_false ha, decide_eq_false (by omega)]
      have hle : Hid (b.natAbs ≤ a.natAbs) := Lib.hid (by omega)
      obtain ⟨cz, HC, hcz⟩ : ∃ cz : Int, Hid (cmpZ a.natAbs b.natAbs = cz) ∧ 0 ≤ cz := by
        refine ⟨_, rfl, ?_⟩
        unfold cmpZ
        rw [if_neg (by omega)]
        split <;> decide
      clear hZ hda hdb hs hopp hlt
      go_enter Tryz.func28, Tryz.ntmps28
      go_wp2_with fail
      generalize hw : ((w.alloc (.cells (lgC (.slice pa (wrds a.natAbs).length ka) da) 43)).alloc (.cells (lgC (.slice pb (wrds b.natAbs).length kb) db) 43)).alloc (.cells (lgC (.slice none 0 0) false) 43) = W at *
      have B0 : Hid (Below w.heap.size w W) := by show Below _ _ _; rw [← hw]; go_grown
      have hsz : w.heap.size + 1 + 1 + 1 ≤ W.heap.size := by rw [← hw]; simp
      clear hw
      have n1 : ¬ w.heap.size + 1 + 1 = w.heap.size := by omega
      have n2 : ¬ w.heap.size = w.heap.size + 1 + 1 := by omega
      have n3 : ¬ w.heap.size + 1 + 1 = w.heap.size + 1 := by omega
      have n4 : ¬ w.heap.size + 1 = w.heap.size + 1 + 1 := by omega
      obtain ⟨x0, x1⟩ := RA.lg
      obtain ⟨y0, y1⟩ := RC.lg
      go_wp2_with (go_at_call 27; refine (compare_d (B := B) (C := C) (HA.out.keep B0.out (Nat.le_refl _)) (HB.out.keep B0.out (Nat.le_refl _)) (Nat.le_trans la (by decide)) (Nat.le_trans lb (by decide))).mono ?_; rw [HC.out]; rintro e w1 ⟨rfl, hb1⟩; have RA := RA.keep hb1; have RC := RC.keep hb1; have RZ := RZ.keep hb1; have B0 := Lib.hid (bl_then B0.out hb1); have hsz := Nat.le_trans hsz hb1.size; obtain ⟨x0, x1⟩ := RA.lg; obtain ⟨y0, y1⟩ := RC.lg; clear hb1)
      go_region_held3 (fun w' => (w'.cell? ⟨w.heap.size, 0, none⟩ = some (.slice pa (wrds a.natAbs).length ka) ∧ w'.cell? ⟨w.heap.size, 1, none⟩ = some (.bool da)) ∧ (w'.cell? ⟨w.heap.size + 1, 0, none⟩ = some (.slice pb (wrds b.natAbs).length kb) ∧ w'.cell? ⟨w.heap.size + 1, 1, none⟩ = some (.bool db)))
        (first | go_keep | exact ⟨A3.lg, C3.lg⟩ | exact ⟨A2.lg, C2.lg⟩ | ((try dsimp only); (repeat' apply And.intro) <;> go_keep))
        (first
          | (go_at_call 74; refine (difference_d (B := B) (C := C) ((HA.out.keep B0.out (Nat.le_refl _)).drew) ((HB.out.keep B0.out (Nat.le_refl _)).drew) hle.out la).mono ?_; rintro e w2 ⟨v2, rfl, W2, hb2⟩; have A2 := RA.keep (bl_drew hb2); have C2 := RC.keep (bl_drew hb2); have Z2 := RZ.keep (bl_drew hb2))
          | (go_at_call 32; refine (signed_z (z := Z) (B := w.heap.size + 1 + 1 + 1) (by rw [HM.out]; exact W2.base (by simpa using hsz)) LA.out HS.out).mono ?_; rintro e w3 ⟨u3, rfl, L3, hb3⟩; have A3 := A2.keep hb3; have C3 := C2.keep hb3; have Z3 := Z2.keep hb3; have L3' := Lib.hid L3; obtain ⟨p3, k3, rfl⟩ := L3.open; clear L3; obtain ⟨z0, z1⟩ := Z3.lg; have f0 := Z3.free 0; have f1 := Z3.free 1))
      go_wp2
      refine bodyPost_ret (v := .agg #[.slice p3 (wrds Z.natAbs).length k3, .bool (decide (Z < 0))]) (by simp [results, Tryz.results28, go_sem, z0, z1]) rfl ⟨_, rfl, ?_, ?_⟩
      · exact (((L3'.out.put _ _ (by simp)).put _ _ (by simp)).base (by omega))
      · (repeat refine Below.setCell ?_ (by simp <;> omega) _)
        exact bl_then B0.out (bl_then (bl_drew hb2) hb3)
end Go.Proofs.YtllpldndkojagaaGreatDoor
