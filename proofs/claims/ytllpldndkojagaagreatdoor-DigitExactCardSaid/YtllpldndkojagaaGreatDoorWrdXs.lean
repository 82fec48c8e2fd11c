/- digit: exact numbers: plus, minus. digit: exact numbers: minus; exactBin, exactDec. digit: exact numbers: shift; exactFloat. -/
import Derived.Test.YtllpldndkojagaaGreatDoorWrdX1
namespace Go.Proofs.YtllpldndkojagaaGreatDoor
open Go.RowKit

theorem plusx_mk {P : Nat → Prop} {B : Nat} {w : World} {sl s2 : Value} {b : Bool} {z : Int} {u : Nat} (h : LArg B w (.agg #[sl, .bool b]) z) (hP : ∀ c, B ≤ c → P c) (hu : WArgP P w s2 u) : XArgP P w (exV sl b s2) z u := by
  obtain ⟨sl', e, h1⟩ := h
  cases e
  exact ⟨sl, s2, rfl, h1.inP (fun c hc _ => hP c hc), hu⟩
/-- The sum of two fractions as digit makes it. -/
def plN (a : Int) (u : Nat) (b : Int) (t : Nat) : Int := if u = t then a + b else a * t + b * u
def plU (u t : Nat) : Nat := if u = t then u else u * t

set_option maxRecDepth 100000 in
set_option maxHeartbeats 8000000 in
theorem plus_x {P : Nat → Prop} {a b : Int} {u t : Nat} {va vb : Value} {w : World} (hX : XArgP P w va a u) (hY : XArgP P w vb b t) (hP : ∀ c, w.heap.size ≤ c → P c) (la : (wrds a.natAbs).length ≤ 4000) (lb : (wrds b.natAbs).length ≤ 4000) (lu : (wrds u).length ≤ 4000) (lt : (wrds t).length ≤ 4000) :
    Calls Tryz.prog 14 #[va, vb] w fun e w' => ∃ y, e = .returned y ∧ XArgP P w' y (plN a u b t) (plU u t) ∧ Below w.heap.size w w' := by
  obtain ⟨pa, ka, qa, ma, rfl⟩ := hX.x.open
  obtain ⟨pb, kb, qb, mb, rfl⟩ := hY.x.open
  have HX := Lib.hid hX.x
  have HY := Lib.hid hY.x
  have HXP := Lib.hid hX.args.2
  have HPP := Lib.hid hP
  clear hX hY hP
  obtain ⟨da, hda⟩ : ∃ d, decide (a < 0) = d := ⟨_, rfl⟩
  obtain ⟨db, hdb⟩ : ∃ d, decide (b < 0) = d := ⟨_, rfl⟩
  rw [hda] at HX ⊢
  rw [hdb] at HY ⊢
  clear hda hdb
  have RA := ((Row.new w (exC (.slice pa (wrds a.natAbs).length ka) da (.slice qa (wrds u).length ma)) 45).alloc (.cells (exC (.slice pb (wrds b.natAbs).length kb) db (.slice qb (wrds t).length mb)) 45)).alloc (.cells (exC (.slice none 0 0) false (.slice none 0 0)) 45)
  have RC := (Row.new2 w (.cells (exC (.slice pa (wrds a.natAbs).length ka) da (.slice qa (wrds u).length ma)) 45) (exC (.slice pb (wrds b.natAbs).length kb) db (.slice qb (wrds t).length mb)) 45).alloc (.cells (exC (.slice none 0 0) false (.slice none 0 0)) 45)
  have RZ := Row.new3 w (.cells (exC (.slice pa (wrds a.natAbs).length ka) da (.slice qa (wrds u).length ma)) 45) (.cells (exC (.slice pb (wrds b.natAbs).length kb) db (.slice qb (wrds t).length mb)) 45) (exC (.slice none 0 0) false (.slice none 0 0)) 45
  by_cases hu : u = t
  · have HC : Hid (cmpZ u t = 0) := Lib.hid (cmpZ_eq (by omega))
    have HN : Hid (plN a u b t = a + b) := Lib.hid (if_pos hu)
    have HU : Hid (plU u t = u) := Lib.hid (if_pos hu)
    rw [HN.out, HU.out]
    obtain ⟨Z, hZ⟩ : ∃ Z : Int, a + b = Z := ⟨_, rfl⟩
    have HPL : Hid (∀ (B C : Nat) (va vb : Value) (W : World), LArg B W va a → LArg C W vb b → Calls Tryz.prog 28 #[va, vb] W (GivesL W Z)) := Lib.hid fun B C va vb W h1 h2 => by
      rw [← hZ]; exact plus_l h1 h2 (by omega) (by omega)
    rw [hZ]
    clear hu hZ HN HU
    go_enter Tryz.func14, Tryz.ntmps14
    go_wp2_with fail
    generalize hw : ((w.alloc (.cells (exC (.slice pa (wrds a.natAbs).length ka) da (.slice qa (wrds u).length ma)) 45)).alloc (.cells (exC (.slice pb (wrds b.natAbs).length kb) db (.slice qb (wrds t).length mb)) 45)).alloc (.cells (exC (.slice none 0 0) false (.slice none 0 0)) 45) = W at *
    have B0 : Hid (Below w.heap.size w W) := by show Below _ _ _; rw [← hw]; go_grown
    have hsz : w.heap.size + 1 + 1 + 1 ≤ W.heap.size := by rw [← hw]; simp
    clear hw
    have n1 : ¬ w.heap.size + 1 + 1 = w.heap.size := by omega
    have n2 : ¬ w.heap.size = w.heap.size + 1 + 1 := by omega
    have n3 : ¬ w.heap.size + 1 + 1 = w.heap.size + 1 := by omega
    have n4 : ¬ w.heap.size + 1 = w.heap.size + 1 + 1 := by omega
    obtain ⟨x0, x1, x2⟩ := RA.ex
    obtain ⟨y0, y1, y2⟩ := RC.ex
    go_wp2_with (go_at_call 27; refine (compare_d (B := 0) (C := 0) (HX.out.args.2.1.keep B0.out (Nat.le_refl _)) (HY.out.args.2.1.keep B0.out (Nat.le_refl _)) (Nat.le_trans lu (by decide)) (Nat.le_trans lt (by decide))).mono ?_; rw [HC.out]; rintro e w1 ⟨rfl, hb1⟩; have RA := RA.keep hb1; have RC := RC.keep hb1; have RZ := RZ.keep hb1; have B0 := Lib.hid (bl_then B0.out hb1); have hsz := Nat.le_trans hsz hb1.size; obtain ⟨x0, x1, x2⟩ := RA.ex; obtain ⟨y0, y1, y2⟩ := RC.ex; clear hb1)
    go_region_held3 (fun w' => (w'.cell? ⟨w.heap.size, 0, none⟩ = some (.slice pa (wrds a.natAbs).length ka) ∧ w'.cell? ⟨w.heap.size, 1, none⟩ = some (.bool da) ∧ w'.cell? ⟨w.heap.size, 2, none⟩ = some (.slice qa (wrds u).length ma)) ∧ (w'.cell? ⟨w.heap.size + 1, 0, none⟩ = some (.slice pb (wrds b.natAbs).length kb) ∧ w'.cell? ⟨w.heap.size + 1, 1, none⟩ = some (.bool db) ∧ w'.cell? ⟨w.heap.size + 1, 2, none⟩ = some (.slice qb (wrds t).length mb)))
      (first | go_keep | exact ⟨A2.ex, C2.ex⟩ | ((try dsimp only); (repeat' apply And.intro) <;> go_keep))
      (first
        | (go_at_call 28; (with_reducible refine (HPL.out 0 0 _ _ _ (HX.out.long.keep (B0.out.drew) (Nat.le_refl _)) (HY.out.long.keep (B0.out.drew) (Nat.le_refl _))).mono ?_); rintro e w2 ⟨v2, rfl, L2, hb2⟩; have A2 := RA.keep (bl_drew hb2); have C2 := RC.keep (bl_drew hb2); have Z2 := RZ.keep (bl_drew hb2); have hs2 := hb2.size; have L2' := Lib.hid (L2.base (show w.heap.size + 1 + 1 + 1 ≤ _ by simpa using hsz)); obtain ⟨p2, k2, rfl⟩ := L2.open; clear L2; obtain ⟨z0, z1, z2⟩ := Z2.ex; have f0 := Z2.free 0; have f1 := Z2.free 1; have f2 := Z2.free 2))
    go_wp2
    refine bodyPost_ret (v := exV (.slice p2 (wrds Z.natAbs).length k2) (decide (Z < 0)) (.slice qa (wrds u).length ma)) (by simp [results, Tryz.results14, go_sem, z0, z1, z2]) rfl ⟨_, rfl, ?_, ?_⟩
    · refine plusx_mk (((L2'.out.put _ _ (by simp)).put _ _ (by simp)).put _ _ (by simp)) (fun c hc => HPP.out c (by omega)) (HXP.out.keep (C := w.heap.size) ?_ (Nat.le_refl _))
      (repeat refine Below.setCell ?_ (by simp <;> omega) _)
      exact bl_then B0.out (bl_drew hb2)
    · (repeat refine Below.setCell ?_ (by simp <;> omega) _)
      exact bl_then B0.out (bl_drew hb2)
  · have HC : ∃ cz : Int, Hid (cmpZ u t = cz) ∧ (cz == 0) = false := by
      refine ⟨_, rfl, ?_⟩
      rw [beq_eq_false_iff_ne]
      rcases Nat.lt_or_gt_of_ne hu with h | h
      · rw [cmpZ_lt (by omega)]; decide
      · rw [cmpZ_gt (by omega)]; decide
    obtain ⟨cz, HC, hcz⟩ := HC
    have HN : Hid (plN a u b t = a * t + b * u) := Lib.hid (if_neg hu)
    have HU : Hid (plU u t = u * t) := Lib.hid (if_neg hu)
    rw [HN.out, HU.out]
    obtain ⟨Z, hZ⟩ : ∃ Z : Int, a * t + b * u = Z := ⟨_, rfl⟩
    have HPL : Hid (∀ (B C : Nat) (va vb : Value) (W : World), LArg B W va (a * t) → LArg C W vb (b * u) → Calls Tryz.prog 28 #[va, vb] W (GivesL W Z)) := Lib.hid fun B C va vb W h1 h2 => by
      have k1 := wrds_mul_len a.natAbs t
      have k2 := wrds_mul_len b.natAbs u
      rw [← hZ]; exact plus_l h1 h2 (by rw [Int.natAbs_mul, Int.natAbs_natCast]; omega) (by rw [Int.natAbs_mul, Int.natAbs_natCast]; omega)
    rw [hZ]
    clear hu hZ HN HU
    go_enter Tryz.func14, Tryz.ntmps14
    go_wp2_with fail
    generalize hw : ((w.alloc (.cells (exC (.slice pa (wrds a.natAbs).length ka) da (.slice qa (wrds u).length ma)) 45)).alloc (.cells (exC (.slice pb (wrds b.natAbs).length kb) db (.slice qb (wrds t).length mb)) 45)).alloc (.cells (exC (.slice none 0 0) false (.slice none 0 0)) 45) = W at *
    have B0 : Hid (Below w.heap.size w W) := by show Below _ _ _; rw [← hw]; go_grown
    have hsz : w.heap.size + 1 + 1 + 1 ≤ W.heap.size := by rw [← hw]; simp
    clear hw
    have n1 : ¬ w.heap.size + 1 + 1 = w.heap.size := by omega
    have n2 : ¬ w.heap.size = w.heap.size + 1 + 1 := by omega
    have n3 : ¬ w.heap.size + 1 + 1 = w.heap.size + 1 := by omega
    have n4 : ¬ w.heap.size + 1 = w.heap.size + 1 + 1 := by omega
    obtain ⟨x0, x1, x2⟩ := RA.ex
    obtain ⟨y0, y1, y2⟩ := RC.ex
    go_wp2_with (go_at_call 27; refine (compare_d (B := 0) (C := 0) (HX.out.args.2.1.keep B0.out (Nat.le_refl _)) (HY.out.args.2.1.keep B0.out (Nat.le_refl _)) (Nat.le_trans lu (by decide)) (Nat.le_trans lt (by decide))).mono ?_; rw [HC.out]; rintro e w1 ⟨rfl, hb1⟩; have RA := RA.keep hb1; have RC := RC.keep hb1; have RZ := RZ.keep hb1; have B0 := Lib.hid (bl_then B0.out hb1); have hsz := Nat.le_trans hsz hb1.size; obtain ⟨x0, x1, x2⟩ := RA.ex; obtain ⟨y0, y1, y2⟩ := RC.ex; clear hb1)
    go_region_held3 (fun w' => (w'.cell? ⟨w.heap.size, 0, none⟩ = some (.slice pa (wrds a.natAbs).length ka) ∧ w'.cell? ⟨w.heap.size, 1, none⟩ = some (.bool da) ∧ w'.cell? ⟨w.heap.size, 2, none⟩ = some (.slice qa (wrds u).length ma)) ∧ (w'.cell? ⟨w.heap.size + 1, 0, none⟩ = some (.slice pb (wrds b.natAbs).length kb) ∧ w'.cell? ⟨w.heap.size + 1, 1, none⟩ = some (.bool db) ∧ w'.cell? ⟨w.heap.size + 1, 2, none⟩ = some (.slice qb (wrds t).length mb)))
      (first | go_keep | exact ⟨A5.ex, C5.ex⟩ | exact ⟨A4.ex, C4.ex⟩ | exact ⟨A3.ex, C3.ex⟩ | exact ⟨A2.ex, C2.ex⟩ | ((try dsimp only); (repeat' apply And.intro) <;> go_keep))
      (first
        | (go_at_call 29; (with_reducible refine (scaled_l (B := 0) (C := 0) (HX.out.long.keep (B0.out.drew) (Nat.le_refl _)) (HY.out.args.2.1.keep (B0.out.drew) (Nat.le_refl _)) (by omega) (by omega)).mono ?_); rintro e w2 ⟨v2, rfl, L2, hb2⟩; have A2 := RA.keep (bl_drew hb2); have C2 := RC.keep (bl_drew hb2); have Z2 := RZ.keep (bl_drew hb2); have BW2 := Lib.hid (bl_then B0.out (bl_drew hb2)))
        | (go_at_call 29; (with_reducible refine (scaled_l (B := 0) (C := 0) (HY.out.long.keep (BW2.out) (Nat.le_refl _)) (HX.out.args.2.1.keep (BW2.out) (Nat.le_refl _)) (by omega) (by omega)).mono ?_); rintro e w3 ⟨v3, rfl, L3, hb3⟩; have A3 := A2.keep hb3; have C3 := C2.keep hb3; have Z3 := Z2.keep hb3; have BW3 := Lib.hid (bl_then BW2.out hb3); have hs3 : w.heap.size + 1 + 1 + 1 ≤ w3.heap.size := Nat.le_trans (Nat.le_trans hsz (bl_drew hb2).size) hb3.size)
        | (go_at_call 28; (with_reducible refine (HPL.out _ _ _ _ _ (L2.keep hb3 (Nat.le_refl _)) L3).mono ?_); rintro e w4 ⟨v4, rfl, L4, hb4⟩; have A4 := A3.keep hb4; have C4 := C3.keep hb4; have Z4 := Z3.keep hb4; have BW4 := Lib.hid (bl_then BW3.out hb4); have L4' := Lib.hid L4; obtain ⟨p4, k4, rfl⟩ := L4.open; clear L4)
        | (go_at_call 30; (with_reducible refine (product_d (B := 0) (C := 0) (HX.out.args.2.1.keep (BW4.out) (Nat.le_refl _)) (HY.out.args.2.1.keep (BW4.out) (Nat.le_refl _)) (by omega) (by omega)).mono ?_); rintro e w5 ⟨v5, rfl, W5, hb5⟩; have A5 := A4.keep hb5; have C5 := C4.keep hb5; have Z5 := Z4.keep hb5; have W5' := Lib.hid W5; obtain ⟨p5, k5, rfl⟩ := W5.slice; clear W5; obtain ⟨z0, z1, z2⟩ := Z5.ex; have f0 := Z5.free 0; have f1 := Z5.free 1; have f2 := Z5.free 2))
    go_wp2
    refine bodyPost_ret (v := exV (.slice p4 (wrds Z.natAbs).length k4) (decide (Z < 0)) (.slice p5 (wrds (u * t)).length k5)) (by simp [results, Tryz.results14, go_sem, z0, z1, z2]) rfl ⟨_, rfl, ?_, ?_⟩
    · have h4 := (L4'.out.keep hb5 (Nat.le_refl _)).base (show w.heap.size + 1 + 1 + 1 ≤ w3.heap.size by have := BW3.out.size; have := hs3; omega)
      have h5 := W5'.out.base (show w.heap.size + 1 + 1 + 1 ≤ w4.heap.size by have := hb4.size; have := hs3; omega)
      exact plusx_mk (((h4.put _ _ (by simp)).put _ _ (by simp)).put _ _ (by simp)) (fun c hc => HPP.out c (by omega)) ((((h5.setCell _ (by simp)).setCell _ (by simp)).setCell _ (by simp)).inP fun c hc _ => HPP.out c (by omega))
    · (repeat refine Below.setCell ?_ (by simp <;> omega) _)
      exact bl_then B0.out (bl_then (bl_then (bl_then (bl_drew hb2) hb3) hb4) hb5)
end Go.Proofs.YtllpldndkojagaaGreatDoor
namespace Go.Proofs.YtllpldndkojagaaGreatDoor
open Go.RowKit

theorem hpow_bin (n : Nat) : (16 : Nat) ^ n = 2 ^ (4 * n) := by rw [Nat.pow_mul]
theorem wpow_bin (n : Nat) : (4294967296 : Nat) ^ n = 2 ^ (32 * n) := by rw [Nat.pow_mul]
theorem bpow_lt (a b : Nat) (h : a < b) : 2 ^ a < 2 ^ b := Nat.pow_lt_pow_right (by decide) h
theorem bpow_le (a b : Nat) (h : a ≤ b) : 2 ^ a ≤ 2 ^ b := Nat.pow_le_pow_right (by decide) h
theorem hpow_le (a b : Nat) (h : a ≤ b) : 16 ^ a ≤ 16 ^ b := Nat.pow_le_pow_right (by decide) h
theorem room_lt (b q K M : Nat) (hb : b ≤ 16) (hq : q ≤ K) (hK : 4 * K < 32 * M) : b ^ q < 4294967296 ^ M := by
  have h1 : b ^ q ≤ 16 ^ q := Nat.pow_le_pow_left hb q
  have h2 := hpow_le q K hq
  rw [hpow_bin K] at h2
  rw [wpow_bin M]
  exact Nat.lt_of_le_of_lt (Nat.le_trans h1 h2) (bpow_lt _ _ hK)
theorem pow_room {b q : Nat} (hb : b ≤ 16) (hq : q ≤ 20000) : b ^ q < 4294967296 ^ 10000 := room_lt b q 20000 10000 hb hq (by decide)

set_option maxRecDepth 100000 in
set_option maxHeartbeats 8000000 in
theorem minus_x {P : Nat → Prop} {a b : Int} {u t : Nat} {va vb : Value} {w : World} (hX : XArgP P w va a u) (hY : XArgP P w vb b t) (hP : ∀ c, w.heap.size ≤ c → P c) (la : (wrds a.natAbs).length ≤ 4000) (lb : (wrds b.natAbs).length ≤ 4000) (lu : (wrds u).length ≤ 4000) (lt : (wrds t).length ≤ 4000) :
    Calls Tryz.prog 15 #[va, vb] w fun e w' => ∃ y, e = .returned y ∧ XArgP P w' y (plN a u (-b) t) (plU u t) ∧ Below w.heap.size w w' := by
  obtain ⟨pa, ka, qa, ma, rfl⟩ := hX.x.open
  obtain ⟨pb, kb, qb, mb, rfl⟩ := hY.x.open
  obtain ⟨Q, hQ⟩ : ∃ Q : Nat → Prop, Q = fun c => P c ∧ c ≠ w.heap.size + 1 + 1 := ⟨_, rfl⟩
  have HX : Hid (XArgP Q w _ a u) := Lib.hid (hX.weak (Q := Q) fun c hc h => by rw [hQ]; exact ⟨h, by omega⟩)
  have HY : Hid (XArgP Q w _ b t) := Lib.hid (hY.weak (Q := Q) fun c hc h => by rw [hQ]; exact ⟨h, by omega⟩)
  have HQ : Hid (∀ c, w.heap.size + 1 + 1 + 1 ≤ c → Q c) := Lib.hid fun c hc => by rw [hQ]; exact ⟨hP c (by omega), by omega⟩
  have HQP : Hid (∀ c, Q c → P c) := Lib.hid fun c hc => by rw [hQ] at hc; exact hc.1
  have HQN : Hid (∀ c, Q c → c ≠ w.heap.size + 1 + 1) := Lib.hid fun c hc => by rw [hQ] at hc; exact hc.2
  obtain ⟨N, hN⟩ : ∃ N, plN a u (-b) t = N := ⟨_, rfl⟩
  obtain ⟨U, hU⟩ : ∃ U, plU u t = U := ⟨_, rfl⟩
  have HNG : Hid (∀ (v : Value) (W : World), XArgP Q W v b t → Calls Tryz.prog 31 #[v] W fun e w' => ∃ y, e = .returned y ∧ XArgP Q w' y (-b) t ∧ Below W.heap.size W w') := Lib.hid fun v W h => negated_x h (by omega)
  have HPL : Hid (∀ (v1 v2 : Value) (W : World), XArgP Q W v1 a u → XArgP Q W v2 (-b) t → (∀ c, W.heap.size ≤ c → Q c) → Calls Tryz.prog 14 #[v1, v2] W fun e w' => ∃ y, e = .returned y ∧ XArgP Q w' y N U ∧ Below W.heap.size W w') := Lib.hid fun v1 v2 W h1 h2 h3 => by
    rw [← hN, ← hU]; exact plus_x h1 h2 h3 la (by rw [Int.natAbs_neg]; exact lb) lu lt
  rw [hN, hU]
  clear hX hY hP hQ hN hU
  obtain ⟨da, hda⟩ : ∃ d, decide (a < 0) = d := ⟨_, rfl⟩
  obtain ⟨db, hdb⟩ : ∃ d, decide (b < 0) = d := ⟨_, rfl⟩
  rw [hda] at HX ⊢
  rw [hdb] at HY ⊢
  clear hda hdb
  have RA := ((Row.new w (exC (.slice pa (wrds a.natAbs).length ka) da (.slice qa (wrds u).length ma)) 45).alloc (.cells (exC (.slice pb (wrds b.natAbs).length kb) db (.slice qb (wrds t).length mb)) 45)).alloc (.cells (exC (.slice none 0 0) false (.slice none 0 0)) 45)
  have RC := (Row.new2 w (.cells (exC (.slice pa (wrds a.natAbs).length ka) da (.slice qa (wrds u).length ma)) 45) (exC (.slice pb (wrds b.natAbs).length kb) db (.slice qb (wrds t).length mb)) 45).alloc (.cells (exC (.slice none 0 0) false (.slice none 0 0)) 45)
  have RZ := Row.new3 w (.cells (exC (.slice pa (wrds a.natAbs).length ka) da (.slice qa (wrds u).length ma)) 45) (.cells (exC (.slice pb (wrds b.natAbs).length kb) db (.slice qb (wrds t).length mb)) 45) (exC (.slice none 0 0) false (.slice none 0 0)) 45
  go_enter Tryz.func15, Tryz.ntmps15
  go_wp2
  generalize hw : ((w.alloc (.cells (exC (.slice pa (wrds a.natAbs).length ka) da (.slice qa (wrds u).length ma)) 45)).alloc (.cells (exC (.slice pb (wrds b.natAbs).length kb) db (.slice qb (wrds t).length mb)) 45)).alloc (.cells (exC (.slice none 0 0) false (.slice none 0 0)) 45) = W at *
  have B0 : Hid (Below w.heap.size w W) := by show Below _ _ _; rw [← hw]; go_grown
  have hsz : w.heap.size + 1 + 1 + 1 ≤ W.heap.size := by rw [← hw]; simp
  clear hw
  have n1 : ¬ w.heap.size + 1 + 1 = w.heap.size := by omega
  have n2 : ¬ w.heap.size = w.heap.size + 1 + 1 := by omega
  have n3 : ¬ w.heap.size + 1 + 1 = w.heap.size + 1 := by omega
  have n4 : ¬ w.heap.size + 1 = w.heap.size + 1 + 1 := by omega
  obtain ⟨x0, x1, x2⟩ := RA.ex
  obtain ⟨y0, y1, y2⟩ := RC.ex
  go_region_held3 (fun w' => (w'.cell? ⟨w.heap.size, 0, none⟩ = some (.slice pa (wrds a.natAbs).length ka) ∧ w'.cell? ⟨w.heap.size, 1, none⟩ = some (.bool da) ∧ w'.cell? ⟨w.heap.size, 2, none⟩ = some (.slice qa (wrds u).length ma)) ∧ (w'.cell? ⟨w.heap.size + 1, 0, none⟩ = some (.slice pb (wrds b.natAbs).length kb) ∧ w'.cell? ⟨w.heap.size + 1, 1, none⟩ = some (.bool db) ∧ w'.cell? ⟨w.heap.size + 1, 2, none⟩ = some (.slice qb (wrds t).length mb)))
    (first | go_keep | exact ⟨A3.ex, C3.ex⟩ | exact ⟨A2.ex, C2.ex⟩ | ((try dsimp only); (repeat' apply And.intro) <;> go_keep))
    (first
      | (go_at_call 31; (with_reducible refine (HNG.out _ _ (HY.out.keep B0.out.drew (Nat.le_refl _))).mono ?_); rintro e w2 ⟨v2, rfl, X2, hb2⟩; have A2 := RA.keep (bl_drew hb2); have C2 := RC.keep (bl_drew hb2); have Z2 := RZ.keep (bl_drew hb2); have BW2 := Lib.hid (bl_then B0.out (bl_drew hb2)); have hs2 := Nat.le_trans hsz (bl_drew hb2).size)
      | (go_at_call 14; (with_reducible refine (HPL.out _ _ _ (HX.out.keep BW2.out (Nat.le_refl _)) X2 (fun c hc => HQ.out c (by omega))).mono ?_); rintro e w3 ⟨v3, rfl, X3, hb3⟩; have A3 := A2.keep hb3; have C3 := C2.keep hb3; have Z3 := Z2.keep hb3; have X3' := Lib.hid X3; obtain ⟨p3, k3, q3, m3, rfl⟩ := X3.x.open; clear X3; obtain ⟨z0, z1, z2⟩ := Z3.ex; have f0 := Z3.free 0; have f1 := Z3.free 1; have f2 := Z3.free 2))
  go_wp2
  refine bodyPost_ret (v := exV (.slice p3 (wrds N.natAbs).length k3) (decide (N < 0)) (.slice q3 (wrds U).length m3)) (by simp [results, Tryz.results15, go_sem, z0, z1, z2]) rfl ⟨_, rfl, ?_, ?_⟩
  · exact (((X3'.out.put _ _ HQN.out).put _ _ HQN.out).put _ _ HQN.out).weak fun c _ hc => HQP.out c hc
  · (repeat refine Below.setCell ?_ (by simp <;> omega) _)
    exact bl_then B0.out (bl_then (bl_drew hb2) hb3)

set_option maxRecDepth 100000 in
set_option maxHeartbeats 4000000 in
theorem exactBin_x {P : Nat → Prop} (k n : Int) (q : Nat) (s : ByteArray) (w : World) (hP : ∀ c, w.heap.size ≤ c → P c) (h1 : -9223372036854775807 ≤ n) (h2 : n ≤ 9223372036854775807) (hq : q ≤ 10000) :
    Calls Tryz.prog 40 #[.agg #[.int .i64 k, .int .i64 n, .int .i64 q, .string s]] w fun e w' => ∃ y, e = .returned y ∧ XArgP P w' y n (2 ^ q) ∧ Below w.heap.size w w' := by
  have HLO : Hid (∀ W, Calls Tryz.prog 79 #[.int .i64 n] W (GivesL W n)) := Lib.hid fun W => longOf_l n W h1 h2
  have HPO : Hid (∀ W, Calls Tryz.prog 80 #[.int .i64 2, .int .i64 (q : Int)] W (GivesW W (2 ^ q))) := Lib.hid fun W => power_d 2 q W (by decide) (by decide) (by omega) (pow_room (by decide) (by omega))
  have HPP := Lib.hid hP
  obtain ⟨U, hU⟩ : ∃ U, 2 ^ q = U := ⟨_, rfl⟩
  rw [hU] at HPO ⊢
  clear hP h1 h2 hq hU
  have RA := (Row.new w #[.int .i64 k, .int .i64 n, .int .i64 q, .string s] 23).alloc (.cells (exC (.slice none 0 0) false (.slice none 0 0)) 45)
  have RZ := Row.new2 w (.cells #[.int .i64 k, .int .i64 n, .int .i64 q, .string s] 23) (exC (.slice none 0 0) false (.slice none 0 0)) 45
  go_enter Tryz.func40, Tryz.ntmps40
  go_wp2
  generalize hw : (w.alloc (.cells #[.int .i64 k, .int .i64 n, .int .i64 q, .string s] 23)).alloc (.cells (exC (.slice none 0 0) false (.slice none 0 0)) 45) = W at *
  have B0 : Hid (Below w.heap.size w W) := by show Below _ _ _; rw [← hw]; go_grown
  have hsz : w.heap.size + 1 + 1 ≤ W.heap.size := by rw [← hw]; simp
  clear hw
  obtain ⟨x0, x1, x2, x3⟩ := RA.four
  go_region_held3 (fun w' => w'.cell? ⟨w.heap.size, 1, none⟩ = some (.int .i64 n) ∧ w'.cell? ⟨w.heap.size, 2, none⟩ = some (.int .i64 q))
    (first | go_keep | exact ⟨A3.four.2.1, A3.four.2.2.1⟩ | exact ⟨A2.four.2.1, A2.four.2.2.1⟩ | ((try dsimp only); (repeat' apply And.intro) <;> go_keep))
    (first
      | (go_at_call 79; (with_reducible refine (HLO.out _).mono ?_); rintro e w2 ⟨v2, rfl, L2, hb2⟩; have A2 := RA.keep (bl_drew hb2); have Z2 := RZ.keep (bl_drew hb2); have hs2 := Nat.le_trans hsz (bl_drew hb2).size; have L2' := Lib.hid (L2.base (show w.heap.size + 1 + 1 ≤ _ by simpa using hsz)); obtain ⟨p2, k2, rfl⟩ := L2.open; clear L2)
      | (go_at_call 80; (with_reducible refine (HPO.out _).mono ?_); rintro e w3 ⟨v3, rfl, W3, hb3⟩; have A3 := A2.keep hb3; have Z3 := Z2.keep hb3; have W3' := Lib.hid (W3.base hs2); obtain ⟨p3, k3, rfl⟩ := W3.slice; clear W3; obtain ⟨z0, z1, z2⟩ := Z3.ex; have f0 := Z3.free 0; have f1 := Z3.free 1; have f2 := Z3.free 2))
  go_wp2
  refine bodyPost_ret (v := exV (.slice p2 (wrds n.natAbs).length k2) (decide (n < 0)) (.slice p3 (wrds U).length k3)) (by simp [results, Tryz.results40, go_sem, z0, z1, z2]) rfl ⟨_, rfl, ?_, ?_⟩
  · exact plusx_mk (B := w.heap.size + 1 + 1) ((((L2'.out.keep hb3 (Nat.le_refl _)).put _ _ (by simp)).put _ _ (by simp)).put _ _ (by simp)) (fun c hc => HPP.out c (by omega)) ((((W3'.out.setCell _ (by simp)).setCell _ (by simp)).setCell _ (by simp)).inP fun c hc _ => HPP.out c (by omega))
  · (repeat refine Below.setCell ?_ (by simp <;> omega) _)
    exact bl_then B0.out (bl_then (bl_drew hb2) hb3)

set_option maxRecDepth 100000 in
set_option maxHeartbeats 4000000 in
theorem exactDec_x {P : Nat → Prop} (k n : Int) (q : Nat) (s : ByteArray) (w : World) (hP : ∀ c, w.heap.size ≤ c → P c) (h1 : -9223372036854775807 ≤ n) (h2 : n ≤ 9223372036854775807) (hq : q ≤ 10000) :
    Calls Tryz.prog 46 #[.agg #[.int .i64 k, .int .i64 n, .int .i64 q, .string s]] w fun e w' => ∃ y, e = .returned y ∧ XArgP P w' y n (10 ^ q) ∧ Below w.heap.size w w' := by
  have HLO : Hid (∀ W, Calls Tryz.prog 79 #[.int .i64 n] W (GivesL W n)) := Lib.hid fun W => longOf_l n W h1 h2
  have HPO : Hid (∀ W, Calls Tryz.prog 80 #[.int .i64 10, .int .i64 (q : Int)] W (GivesW W (10 ^ q))) := Lib.hid fun W => power_d 10 q W (by decide) (by decide) (by omega) (pow_room (by decide) (by omega))
  have HPP := Lib.hid hP
  obtain ⟨U, hU⟩ : ∃ U, 10 ^ q = U := ⟨_, rfl⟩
  rw [hU] at HPO ⊢
  clear hP h1 h2 hq hU
  have RA := (Row.new w #[.int .i64 k, .int .i64 n, .int .i64 q, .string s] 23).alloc (.cells (exC (.slice none 0 0) false (.slice none 0 0)) 45)
  have RZ := Row.new2 w (.cells #[.int .i64 k, .int .i64 n, .int .i64 q, .string s] 23) (exC (.slice none 0 0) false (.slice none 0 0)) 45
  go_enter Tryz.func46, Tryz.ntmps46
  go_wp2
  generalize hw : (w.alloc (.cells #[.int .i64 k, .int .i64 n, .int .i64 q, .string s] 23)).alloc (.cells (exC (.slice none 0 0) false (.slice none 0 0)) 45) = W at *
  have B0 : Hid (Below w.heap.size w W) := by show Below _ _ _; rw [← hw]; go_grown
  have hsz : w.heap.size + 1 + 1 ≤ W.heap.size := by rw [← hw]; simp
  clear hw
  obtain ⟨x0, x1, x2, x3⟩ := RA.four
  go_region_held3 (fun w' => w'.cell? ⟨w.heap.size, 1, none⟩ = some (.int .i64 n) ∧ w'.cell? ⟨w.heap.size, 2, none⟩ = some (.int .i64 q))
    (first | go_keep | exact ⟨A3.four.2.1, A3.four.2.2.1⟩ | exact ⟨A2.four.2.1, A2.four.2.2.1⟩ | ((try dsimp only); (repeat' apply And.intro) <;> go_keep))
    (first
      | (go_at_call 79; (with_reducible refine (HLO.out _).mono ?_); rintro e w2 ⟨v2, rfl, L2, hb2⟩; have A2 := RA.keep (bl_drew hb2); have Z2 := RZ.keep (bl_drew hb2); have hs2 := Nat.le_trans hsz (bl_drew hb2).size; have L2' := Lib.hid (L2.base (show w.heap.size + 1 + 1 ≤ _ by simpa using hsz)); obtain ⟨p2, k2, rfl⟩ := L2.open; clear L2)
      | (go_at_call 80; (with_reducible refine (HPO.out _).mono ?_); rintro e w3 ⟨v3, rfl, W3, hb3⟩; have A3 := A2.keep hb3; have Z3 := Z2.keep hb3; have W3' := Lib.hid (W3.base hs2); obtain ⟨p3, k3, rfl⟩ := W3.slice; clear W3; obtain ⟨z0, z1, z2⟩ := Z3.ex; have f0 := Z3.free 0; have f1 := Z3.free 1; have f2 := Z3.free 2))
  go_wp2
  refine bodyPost_ret (v := exV (.slice p2 (wrds n.natAbs).length k2) (decide (n < 0)) (.slice p3 (wrds U).length k3)) (by simp [results, Tryz.results46, go_sem, z0, z1, z2]) rfl ⟨_, rfl, ?_, ?_⟩
  · exact plusx_mk (B := w.heap.size + 1 + 1) ((((L2'.out.keep hb3 (Nat.le_refl _)).put _ _ (by simp)).put _ _ (by simp)).put _ _ (by simp)) (fun c hc => HPP.out c (by omega)) ((((W3'.out.setCell _ (by simp)).setCell _ (by simp)).setCell _ (by simp)).inP fun c hc _ => HPP.out c (by omega))
  · (repeat refine Below.setCell ?_ (by simp <;> omega) _)
    exact bl_then B0.out (bl_then (bl_drew hb2) hb3)
end Go.Proofs.YtllpldndkojagaaGreatDoor
namespace Go.Proofs.YtllpldndkojagaaGreatDoor
open Go.RowKit

def shN (a n : Int) : Int := if n < 0 then a else a * (10 ^ n.toNat : Nat)
def shU (u : Nat) (n : Int) : Nat := if n < 0 then u * 10 ^ (-n).toNat else u
theorem ten_lt (q N : Nat) (h : 16 ^ q ≤ 2 ^ N) (hN : 1 ≤ N) : 10 ^ q < 2 ^ N := by
  rcases Nat.eq_zero_or_pos q with rfl | hq
  · exact Nat.lt_of_lt_of_le (show 10 ^ 0 < 2 ^ 1 by decide) (bpow_le 1 N hN)
  · exact Nat.lt_of_lt_of_le (Nat.pow_lt_pow_left (by decide) (by omega)) h
theorem ten_room (q K M : Nat) (h : q ≤ K) (hK : 4 * K ≤ 32 * M) (h1 : 1 ≤ 4 * K) : 10 ^ q < 4294967296 ^ M := by
  have h2 := hpow_le q K h
  rw [hpow_bin K] at h2
  rw [wpow_bin M]
  exact Nat.lt_of_lt_of_le (ten_lt q (4 * K) h2 h1) (bpow_le _ _ hK)
theorem wrds_ten {q : Nat} (h : q ≤ 20000) : (wrds (10 ^ q)).length ≤ 2500 := by
  apply wrds_len
  exact ten_room q 20000 2500 h (by decide) (by decide)

set_option maxRecDepth 100000 in
set_option maxHeartbeats 4000000 in
theorem shift_x {P : Nat → Prop} {a : Int} {u : Nat} {va : Value} {w : World} (n : Int) (hX : XArgP P w va a u) (hP : ∀ c, w.heap.size ≤ c → P c) (la : (wrds a.natAbs).length ≤ 4000) (lu : (wrds u).length ≤ 4000) (h1 : -20000 ≤ n) (h2 : n ≤ 20000) :
    Calls Tryz.prog 88 #[va, .int .i64 n] w fun e w' => ∃ y, e = .returned y ∧ XArgP P w' y (shN a n) (shU u n) ∧ Below w.heap.size w w' := by
  obtain ⟨pa, ka, qa, ma, rfl⟩ := hX.x.open
  have HX := Lib.hid hX.x
  have HXP := Lib.hid hX
  have HPP := Lib.hid hP
  clear hX hP
  obtain ⟨da, hda⟩ : ∃ d, decide (a < 0) = d := ⟨_, rfl⟩
  rw [hda] at HX HXP ⊢
  have HDA := Lib.hid hda
  clear hda
  have RA := (Row.new w (exC (.slice pa (wrds a.natAbs).length ka) da (.slice qa (wrds u).length ma)) 45).alloc (.cells (exC (.slice none 0 0) false (.slice none 0 0)) 45)
  have RZ := Row.new2 w (.cells (exC (.slice pa (wrds a.natAbs).length ka) da (.slice qa (wrds u).length ma)) 45) (exC (.slice none 0 0) false (.slice none 0 0)) 45
  by_cases hn : n < 0
  · obtain ⟨m, hm⟩ := Int.eq_ofNat_of_zero_le (show 0 ≤ -n by omega)
    obtain rfl : n = -(m : Int) := by omega
    have e1 : shN a (-(m : Int)) = a := if_pos hn
    have e2 : shU u (-(m : Int)) = u * 10 ^ m := by rw [shU, if_pos hn, hm]; rfl
    rw [e1, e2]
    have HPO : Hid (∀ W, Calls Tryz.prog 80 #[.int .i64 10, .int .i64 (m : Int)] W (GivesW W (10 ^ m))) := Lib.hid fun W => power_d 10 m W (by decide) (by decide) (by omega) (pow_room (by decide) (by omega))
    have HTL : Hid ((wrds (10 ^ m)).length ≤ 10000) := Lib.hid (Nat.le_trans (wrds_ten (by omega)) (by decide))
    have hw1 : IntKind.i64.wrap (- -(m : Int)) = m := by rw [Int.neg_neg]; exact IntWalk.i64_in _ (by omega)
    have hw2 : IntKind.i64.wrap (m : Int) = m := IntWalk.i64_in _ (by omega)
    have hmm : 0 < (m : Int) := by omega
    generalize 10 ^ m = T at *
    clear hm e1 e2
    obtain ⟨U, hU⟩ : ∃ U, u * T = U := ⟨_, rfl⟩
    have HU := Lib.hid hU
    rw [hU]
    clear hU
    go_enter Tryz.func88, Tryz.ntmps88
    go_wp2
    generalize hw : (w.alloc (.cells (exC (.slice pa (wrds a.natAbs).length ka) da (.slice qa (wrds u).length ma)) 45)).alloc (.cells (exC (.slice none 0 0) false (.slice none 0 0)) 45) = W at *
    have B0 : Hid (Below w.heap.size w W) := by show Below _ _ _; rw [← hw]; go_grown
    have hsz : w.heap.size + 1 + 1 ≤ W.heap.size := by rw [← hw]; simp
    clear hw
    obtain ⟨x0, x1, x2⟩ := RA.ex
    go_region_held3 (fun w' => w'.cell? ⟨w.heap.size, 0, none⟩ = some (.slice pa (wrds a.natAbs).length ka) ∧ w'.cell? ⟨w.heap.size, 1, none⟩ = some (.bool da) ∧ w'.cell? ⟨w.heap.size, 2, none⟩ = some (.slice qa (wrds u).length ma))
      (first | go_keep | exact A3.ex | exact A2.ex | ((try dsimp only); (repeat' apply And.intro) <;> go_keep))
      (first
        | (go_at_call 80; (with_reducible refine (HPO.out _).mono ?_); rintro e w2 ⟨v2, rfl, W2, hb2⟩; have A2 := RA.keep (bl_drew hb2); have Z2 := RZ.keep (bl_drew hb2); have BW2 := Lib.hid (bl_then B0.out (bl_drew hb2)); have hs2 := Nat.le_trans hsz (bl_drew hb2).size)
        | (go_at_call 30; (with_reducible refine (product_d (HX.out.args.2.1.keep BW2.out (Nat.le_refl _)) W2 (by omega) HTL.out).mono ?_); rintro e w3 ⟨v3, rfl, W3, hb3⟩; have A3 := A2.keep hb3; have Z3 := Z2.keep hb3; rw [HU.out] at W3; have W3' := Lib.hid (W3.base hs2); obtain ⟨p3, k3, rfl⟩ := W3.slice; clear W3; obtain ⟨z0, z1, z2⟩ := Z3.ex; have f0 := Z3.free 0; have f1 := Z3.free 1; have f2 := Z3.free 2))
    go_wp2
    refine bodyPost_ret (v := exV (.slice pa (wrds a.natAbs).length ka) da (.slice p3 (wrds U).length k3)) (by simp [results, Tryz.results88, go_sem, z0, z1, z2]) rfl ⟨_, rfl, ?_, ?_⟩
    · refine ⟨_, _, by rw [HDA.out], HXP.out.args.1.keep (C := w.heap.size) ?_ (Nat.le_refl _), (((W3'.out.setCell _ (by simp)).setCell _ (by simp)).setCell _ (by simp)).inP fun c hc _ => HPP.out c (by omega)⟩
      (repeat refine Below.setCell ?_ (by simp <;> omega) _)
      exact bl_then B0.out (bl_then (bl_drew hb2) hb3)
    · (repeat refine Below.setCell ?_ (by simp <;> omega) _)
      exact bl_then B0.out (bl_then (bl_drew hb2) hb3)
  · obtain ⟨m, rfl⟩ := Int.eq_ofNat_of_zero_le (show 0 ≤ n by omega)
    have e1 : shN a (m : Int) = a * (10 ^ m : Nat) := by rw [shN, if_neg hn]; rfl
    have e2 : shU u (m : Int) = u := if_neg hn
    rw [e1, e2]
    have HPO : Hid (∀ W, Calls Tryz.prog 80 #[.int .i64 10, .int .i64 (m : Int)] W (GivesW W (10 ^ m))) := Lib.hid fun W => power_d 10 m W (by decide) (by decide) (by omega) (pow_room (by decide) (by omega))
    have HTL : Hid ((wrds (10 ^ m)).length ≤ 10000) := Lib.hid (Nat.le_trans (wrds_ten (by omega)) (by decide))
    have hmm : 0 ≤ (m : Int) := by omega
    generalize 10 ^ m = T at *
    clear e1 e2
    obtain ⟨Z, hZ⟩ : ∃ Z : Int, a * (T : Int) = Z := ⟨_, rfl⟩
    have HZ := Lib.hid hZ
    rw [hZ]
    clear hZ
    go_enter Tryz.func88, Tryz.ntmps88
    go_wp2
    generalize hw : (w.alloc (.cells (exC (.slice pa (wrds a.natAbs).length ka) da (.slice qa (wrds u).length ma)) 45)).alloc (.cells (exC (.slice none 0 0) false (.slice none 0 0)) 45) = W at *
    have B0 : Hid (Below w.heap.size w W) := by show Below _ _ _; rw [← hw]; go_grown
    have hsz : w.heap.size + 1 + 1 ≤ W.heap.size := by rw [← hw]; simp
    clear hw
    obtain ⟨x0, x1, x2⟩ := RA.ex
    go_region_held3 (fun w' => w'.cell? ⟨w.heap.size, 0, none⟩ = some (.slice pa (wrds a.natAbs).length ka) ∧ w'.cell? ⟨w.heap.size, 1, none⟩ = some (.bool da) ∧ w'.cell? ⟨w.heap.size, 2, none⟩ = some (.slice qa (wrds u).length ma))
      (first | go_keep | exact A3.ex | exact A2.ex | ((try dsimp only); (repeat' apply And.intro) <;> go_keep))
      (first
        | (go_at_call 80; (with_reducible refine (HPO.out _).mono ?_); rintro e w2 ⟨v2, rfl, W2, hb2⟩; have A2 := RA.keep (bl_drew hb2); have Z2 := RZ.keep (bl_drew hb2); have BW2 := Lib.hid (bl_then B0.out (bl_drew hb2)); have hs2 := Nat.le_trans hsz (bl_drew hb2).size)
        | (go_at_call 29; (with_reducible refine (scaled_l (HX.out.long.keep BW2.out (Nat.le_refl _)) W2 (by omega) HTL.out).mono ?_); rintro e w3 ⟨v3, rfl, L3, hb3⟩; have A3 := A2.keep hb3; have Z3 := Z2.keep hb3; rw [HZ.out] at L3; have L3' := Lib.hid (L3.base hs2); obtain ⟨p3, k3, rfl⟩ := L3.open; clear L3; obtain ⟨z0, z1, z2⟩ := Z3.ex; have f0 := Z3.free 0; have f1 := Z3.free 1; have f2 := Z3.free 2))
    go_wp2
    refine bodyPost_ret (v := exV (.slice p3 (wrds Z.natAbs).length k3) (decide (Z < 0)) (.slice qa (wrds u).length ma)) (by simp [results, Tryz.results88, go_sem, z0, z1, z2]) rfl ⟨_, rfl, ?_, ?_⟩
    · refine plusx_mk (B := w.heap.size + 1 + 1) (((L3'.out.put _ _ (by simp)).put _ _ (by simp)).put _ _ (by simp)) (fun c hc => HPP.out c (by omega)) (HXP.out.args.2.keep (C := w.heap.size) ?_ (Nat.le_refl _))
      (repeat refine Below.setCell ?_ (by simp <;> omega) _)
      exact bl_then B0.out (bl_then (bl_drew hb2) hb3)
    · (repeat refine Below.setCell ?_ (by simp <;> omega) _)
      exact bl_then B0.out (bl_then (bl_drew hb2) hb3)


set_option maxRecDepth 100000 in
set_option maxHeartbeats 4000000 in
theorem exactFloat_x {P : Nat → Prop} (k n q : Int) (s : ByteArray) (w : World) (hP : ∀ c, w.heap.size ≤ c → P c) (h1 : -9223372036854775807 ≤ n) (h2 : n ≤ 9223372036854775807) (hq1 : -20000 ≤ q) (hq2 : q ≤ 20000) :
    Calls Tryz.prog 53 #[.agg #[.int .i64 k, .int .i64 n, .int .i64 q, .string s]] w fun e w' => ∃ y, e = .returned y ∧ XArgP P w' y (shN n q) (shU 1 q) ∧ Below w.heap.size w w' := by
  have HLO : Hid (∀ W, Calls Tryz.prog 79 #[.int .i64 n] W (GivesL W n)) := Lib.hid fun W => longOf_l n W h1 h2
  have HNA : Hid (∀ W, Calls Tryz.prog 87 #[.int .i64 1] W (GivesW W 1)) := Lib.hid fun W => natural_d 1 W (by decide)
  have l1 : (wrds n.natAbs).length ≤ 4000 := Nat.le_trans (wrds_length n.natAbs 2 (by omega)) (by decide)
  have l2 : (wrds 1).length ≤ 4000 := Nat.le_trans (wrds_length 1 1 (by decide)) (by decide)
  obtain ⟨Q, hQ⟩ : ∃ Q : Nat → Prop, Q = fun c => P c ∧ c ≠ w.heap.size + 1 := ⟨_, rfl⟩
  have HQ : Hid (∀ c, w.heap.size + 1 + 1 ≤ c → Q c) := Lib.hid fun c hc => by rw [hQ]; exact ⟨hP c (by omega), by omega⟩
  have HQP : Hid (∀ c, Q c → P c) := Lib.hid fun c hc => by rw [hQ] at hc; exact hc.1
  have HQN : Hid (∀ c, Q c → c ≠ w.heap.size + 1) := Lib.hid fun c hc => by rw [hQ] at hc; exact hc.2
  obtain ⟨N, hN⟩ : ∃ N, shN n q = N := ⟨_, rfl⟩
  obtain ⟨U, hU⟩ : ∃ U, shU 1 q = U := ⟨_, rfl⟩
  have HSH : Hid (∀ (v : Value) (W : World), XArgP Q W v n 1 → (∀ c, W.heap.size ≤ c → Q c) → Calls Tryz.prog 88 #[v, .int .i64 q] W fun e w' => ∃ y, e = .returned y ∧ XArgP Q w' y N U ∧ Below W.heap.size W w') := Lib.hid fun v W h3 h4 => by
    rw [← hN, ← hU]; exact shift_x q h3 h4 l1 l2 hq1 hq2
  rw [hN, hU]
  clear hP h1 h2 hq1 hq2 hQ hN hU l1 l2
  have RA := (Row.new w #[.int .i64 k, .int .i64 n, .int .i64 q, .string s] 23).alloc (.cells (exC (.slice none 0 0) false (.slice none 0 0)) 45)
  have RZ := Row.new2 w (.cells #[.int .i64 k, .int .i64 n, .int .i64 q, .string s] 23) (exC (.slice none 0 0) false (.slice none 0 0)) 45
  go_enter Tryz.func53, Tryz.ntmps53
  go_wp2
  generalize hw : (w.alloc (.cells #[.int .i64 k, .int .i64 n, .int .i64 q, .string s] 23)).alloc (.cells (exC (.slice none 0 0) false (.slice none 0 0)) 45) = W at *
  have B0 : Hid (Below w.heap.size w W) := by show Below _ _ _; rw [← hw]; go_grown
  have hsz : w.heap.size + 1 + 1 ≤ W.heap.size := by rw [← hw]; simp
  clear hw
  obtain ⟨x0, x1, x2, x3⟩ := RA.four
  go_region_held3 (fun w' => w'.cell? ⟨w.heap.size, 1, none⟩ = some (.int .i64 n) ∧ w'.cell? ⟨w.heap.size, 2, none⟩ = some (.int .i64 q))
    (first | go_keep | exact ⟨A4.four.2.1, A4.four.2.2.1⟩ | exact ⟨A3.four.2.1, A3.four.2.2.1⟩ | exact ⟨A2.four.2.1, A2.four.2.2.1⟩ | ((try dsimp only); (repeat' apply And.intro) <;> go_keep))
    (first
      | (go_at_call 79; (with_reducible refine (HLO.out _).mono ?_); rintro e w2 ⟨v2, rfl, L2, hb2⟩; have A2 := RA.keep (bl_drew hb2); have Z2 := RZ.keep (bl_drew hb2); have hs2 := Nat.le_trans hsz (bl_drew hb2).size; have L2' := Lib.hid (L2.base (show w.heap.size + 1 + 1 ≤ _ by simpa using hsz)); obtain ⟨p2, k2, rfl⟩ := L2.open; clear L2)
      | (go_at_call 87; (with_reducible refine (HNA.out _).mono ?_); rintro e w3 ⟨v3, rfl, W3, hb3⟩; have A3 := A2.keep hb3; have Z3 := Z2.keep hb3; have W3' := Lib.hid (W3.base hs2); have hs3 := Nat.le_trans hs2 hb3.size; obtain ⟨p3, k3, rfl⟩ := W3.slice; clear W3; have X3 := Lib.hid (plusx_mk (P := Q) (L2'.out.keep hb3 (Nat.le_refl _)) HQ.out (W3'.out.inP fun c hc _ => HQ.out c hc)))
      | (go_at_call 88; (with_reducible refine (HSH.out _ _ X3.out (fun c hc => HQ.out c (Nat.le_trans hs3 hc))).mono ?_); rintro e w4 ⟨v4, rfl, X4, hb4⟩; have A4 := A3.keep hb4; have Z4 := Z3.keep hb4; have X4' := Lib.hid X4; obtain ⟨p4, k4, q4, m4, rfl⟩ := X4.x.open; clear X4; obtain ⟨z0, z1, z2⟩ := Z4.ex; have f0 := Z4.free 0; have f1 := Z4.free 1; have f2 := Z4.free 2))
  go_wp2
  refine bodyPost_ret (v := exV (.slice p4 (wrds N.natAbs).length k4) (decide (N < 0)) (.slice q4 (wrds U).length m4)) (by simp [results, Tryz.results53, go_sem, z0, z1, z2]) rfl ⟨_, rfl, ?_, ?_⟩
  · exact (((X4'.out.put _ _ HQN.out).put _ _ HQN.out).put _ _ HQN.out).weak fun c _ hc => HQP.out c hc
  · (repeat refine Below.setCell ?_ (by simp <;> omega) _)
    exact bl_then B0.out (bl_then (bl_then (bl_drew hb2) hb3) hb4)

end Go.Proofs.YtllpldndkojagaaGreatDoor
