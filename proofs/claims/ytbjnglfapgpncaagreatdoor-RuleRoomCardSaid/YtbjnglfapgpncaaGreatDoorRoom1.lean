/- The law RuleRoom, of two fixed types of base 2. -/
import Derived.Test.YtbjnglfapgpncaaGreatDoorRoom0
namespace Go.Proofs.YtbjnglfapgpncaaGreatDoor
open Go.RowKit

theorem two_1 : 2 ≤ 2 := by decide

set_option maxRecDepth 100000 in
set_option maxHeartbeats 60000000 in
theorem room_1 (na nb : Int) (PA QA PB QB P3 Q3 P4 Q4 : Nat) (w : World) (hA : NumB 1 (PA : Int) (QA : Int)) (hB : NumB 1 (PB : Int) (QB : Int))
    (hna : na.natAbs < 2 ^ PA) (hnb : nb.natAbs < 2 ^ PB) (hn1 : -1000000000000000 < na ∧ na < 1000000000000000) (hn2 : -1000000000000000 < nb ∧ nb < 1000000000000000)
    (ht : Tells2 31 PA QA PB QB P3 Q3 P4 Q4) :
    Calls Tryz.prog 3 #[valV 1 na (QA : Int) ⟨#[]⟩, valV 1 nb (QB : Int) ⟨#[]⟩, tyV 1 (PA : Int) (QA : Int) 0 false ⟨#[]⟩, tyV 1 (PB : Int) (QB : Int) 0 false ⟨#[]⟩] w
      fun e w' => e = .returned (.bool true) ∧ Below w.heap.size w w' := by
  have := hA.p1; have := hA.p2; have := hA.q0; have := hA.q1
  have := hB.p1; have := hB.p2; have := hB.q0; have := hB.q1
  have HT := Lib.hid ht
  have HNA := Lib.hid hA
  have HNB := Lib.hid hB
  have HA' := Lib.hid hna
  have HB' := Lib.hid hnb
  have b3 : (1 : Int) ≤ P3 ∧ (P3 : Int) ≤ 31 := by have := ht.p3; omega
  have c3 : (0 : Int) ≤ Q3 ∧ (Q3 : Int) ≤ 31 := by have := ht.q3; omega
  have b4 : (1 : Int) ≤ P4 ∧ (P4 : Int) ≤ 31 := by have := ht.p4; omega
  have c4 : (0 : Int) ≤ Q4 ∧ (Q4 : Int) ≤ 31 := by have := ht.q4; omega
  clear ht hA hB hna hnb
  obtain ⟨n1, n2⟩ := hn1
  obtain ⟨n3, n4⟩ := hn2
  obtain ⟨b3, b3'⟩ := b3
  obtain ⟨c3, c3'⟩ := c3
  obtain ⟨b4, b4'⟩ := b4
  obtain ⟨c4, c4'⟩ := c4
  have LA := Lib.hid (Nat.le_trans (digs_length na.natAbs 15 (by omega)) (by decide) : (digs na.natAbs).length ≤ 1000)
  have LB := Lib.hid (Nat.le_trans (digs_length nb.natAbs 15 (by omega)) (by decide) : (digs nb.natAbs).length ≤ 1000)
  have lqa := digs_len_pow2 QA
  have lqb := digs_len_pow2 QB
  have LQA := Lib.hid (show (digs (2 ^ QA)).length ≤ 1000 by omega)
  have LQB := Lib.hid (show (digs (2 ^ QB)).length ≤ 1000 by omega)
  have LN : ∀ x y : Bool, (digs (bothNum x y (na.natAbs * 2 ^ QB) (nb.natAbs * 2 ^ QA))).length ≤ 1000 := by
    intro x y
    have l1 := digs_len_mono (bothNum_le x y (na.natAbs * 2 ^ QB) (nb.natAbs * 2 ^ QA))
    have l2 := digs_len_add (na.natAbs * 2 ^ QB) (nb.natAbs * 2 ^ QA)
    have l3 := digs_len_mul na.natAbs (2 ^ QB)
    have l4 := digs_len_mul nb.natAbs (2 ^ QA)
    have l5 := digs_length na.natAbs 15 (by omega)
    have l6 := digs_length nb.natAbs 15 (by omega)
    omega
  have LD := Lib.hid (show (digs (2 ^ QA * 2 ^ QB)).length ≤ 1000 by have l1 := digs_len_mul (2 ^ QA) (2 ^ QB); omega)
  have LN1 := Lib.hid (LN (decide (na < 0)) (decide (nb < 0)))
  obtain ⟨NB, nbe, nbp⟩ : ∃ NB, (!decide (nb < 0) && decide (0 < nb.natAbs)) = NB ∧ (NB = true → 0 < nb.natAbs) := ⟨_, rfl, fun h => by simp at h; omega⟩
  have NBE := Lib.hid nbe
  have NBP := Lib.hid nbp
  have LN2 := Lib.hid (LN (decide (na < 0)) NB)
  clear lqa lqb LN nbe nbp
  have q1 := s2
  have q2 := s2'
  have q3 := l2
  have q4 := l3
  go_enter Tryz.func3, Tryz.ntmps3
  go_wp2_with fail
  go_at_call 4
  refine (has_any _ _ _ _ _ _ _ _ _ _ _ (by decide) (by decide)).mono ?_
  rintro e w1 ⟨r1, rfl, _, hb1⟩
  have hX : Boxes w _ 1 na nb PA QA PB QB := ⟨hx_old (hx_old (hx_old (hx_last w _ _ rfl))), hx_old (hx_old (hx_last (w.alloc (valO 1 na (QA : Int))) (valO 1 nb (QB : Int)) (w.heap.size + 1) (by simp))), hx_old (hx_last ((w.alloc (valO 1 na (QA : Int))).alloc (valO 1 nb (QB : Int))) (tyO 1 (PA : Int) (QA : Int)) (w.heap.size + 1 + 1) (by simp)), hx_last (((w.alloc (valO 1 na (QA : Int))).alloc (valO 1 nb (QB : Int))).alloc (tyO 1 (PA : Int) (QA : Int))) (tyO 1 (PB : Int) (QB : Int)) (w.heap.size + 1 + 1 + 1) (by simp), by simp, (((((Below.refl _ w).alloc (Nat.le_refl _) _).alloc (by simp <;> omega) _).alloc (by simp <;> omega) _).alloc (by simp <;> omega) _)⟩
  have hX1 := hX.keep hb1
  clear hX hb1
  obtain ⟨a0, a1, a2, a3, af⟩ := vcells' hX1.a
  obtain ⟨e0, e1, e2, e3, ef⟩ := vcells' hX1.b
  obtain ⟨s0, s1, s2, s3, s4, s5, sf⟩ := tcells hX1.ta
  obtain ⟨u0, u1, u2, u3, u4, u5, uf⟩ := tcells hX1.tb
  have H1 := Lib.hid hX1
  have z1 := hX1.lt
  clear hX1
  cases r1
  · go_wp2_with fail
    go_at_call 5
    refine (awake_2 _).mono ?_
    rintro e wz ⟨rfl, hbz⟩
    go_wp2_with fail
    go_ret
    exact ⟨rfl, (H1.out).below.trans (hbz.mono (H1.out).below.size)⟩
  go_wp2_with fail
  go_at_call 4
  refine (has_any _ _ _ _ _ _ _ _ _ _ _ (by decide) (by decide)).mono ?_
  rintro e w2 ⟨r2, rfl, _, hb2⟩
  have hX2 := H1.out.keep hb2
  clear hb2
  clear a0 a1 a2 a3 af e0 e1 e2 e3 ef s0 s1 s2 s3 s4 s5 sf u0 u1 u2 u3 u4 u5 uf
  clear z1
  obtain ⟨a0, a1, a2, a3, af⟩ := vcells' hX2.a
  obtain ⟨e0, e1, e2, e3, ef⟩ := vcells' hX2.b
  obtain ⟨s0, s1, s2, s3, s4, s5, sf⟩ := tcells hX2.ta
  obtain ⟨u0, u1, u2, u3, u4, u5, uf⟩ := tcells hX2.tb
  have H2 := Lib.hid hX2
  have z2 := hX2.lt
  clear hX2 H1
  cases r2
  · go_wp2_with fail
    go_at_call 5
    refine (awake_2 _).mono ?_
    rintro e wz ⟨rfl, hbz⟩
    go_wp2_with fail
    go_ret
    exact ⟨rfl, (H2.out).below.trans (hbz.mono (H2.out).below.size)⟩
  go_wp2_with fail
  go_at_call 6
  refine (res_plus_1 HT.out _ HNA.out HNB.out).mono ?_
  rintro e w3 ⟨rfl, hb3⟩
  have hX3 := H2.out.keep hb3
  clear hb3
  clear a0 a1 a2 a3 af e0 e1 e2 e3 ef s0 s1 s2 s3 s4 s5 sf u0 u1 u2 u3 u4 u5 uf
  clear z2
  obtain ⟨a0, a1, a2, a3, af⟩ := vcells' hX3.a
  obtain ⟨e0, e1, e2, e3, ef⟩ := vcells' hX3.b
  obtain ⟨s0, s1, s2, s3, s4, s5, sf⟩ := tcells hX3.ta
  obtain ⟨u0, u1, u2, u3, u4, u5, uf⟩ := tcells hX3.tb
  have H3 := Lib.hid hX3
  have z3 := hX3.lt
  have g1 : w.heap.size + 1 + 1 < w3.heap.size := by omega
  have g2 : w.heap.size + 1 < w3.heap.size := by omega
  have g3 : w.heap.size < w3.heap.size := by omega
  clear hX3 H2
  generalize hmx : max (1 : Int) (max ((PA : Int) - QA) ((PB : Int) - QB) + Q3 + 1) = MX
  have HMX := Lib.hid hmx
  clear hmx
  go_upto_if 76 with fail
  have HT3 : (w3.alloc (tyO 1 (P3 : Int) (Q3 : Int))).heap[w3.heap.size]? = some (tyO 1 (P3 : Int) (Q3 : Int)) := hx_last w3 _ _ rfl
  have H0 := Lib.hid (H3.out.keep ((Below.refl _ w3).alloc (Nat.le_refl _) (tyO 1 (P3 : Int) (Q3 : Int))))
  clear a0 a1 a2 a3 af e0 e1 e2 e3 ef s0 s1 s2 s3 s4 s5 sf u0 u1 u2 u3 u4 u5 uf
  generalize (w3.alloc (tyO 1 (P3 : Int) (Q3 : Int))) = W0 at *
  have T0 := Lib.hid HT3
  have G0 := hx_lt HT3
  clear HT3 H3
  go_cut [10] (fun s10 wx => s10 = .pointer (some ⟨w3.heap.size, 0, none⟩) ∧ Boxes w wx 1 na nb PA QA PB QB ∧ wx.heap[w3.heap.size]? = some (tyO 1 (P3 : Int) (Q3 : Int)))
  case first =>
    by_cases hc : (P3 : Int) = MX
    · have hc1 : ((P3 : Int) == max (1 : Int) (max ((PA : Int) - QA) ((PB : Int) - QB) + Q3 + 1)) = true := by rw [HMX.out]; simpa using hc
      have FIT := fun x y => room_fit two_1 HA'.out HB'.out (by omega) (by omega) HT.out (hc.trans HMX.out.symm) (bothNum_le x y (na.natAbs * 2 ^ QB) (nb.natAbs * 2 ^ QA))
      have FIT1 := Lib.hid (FIT (decide (na < 0)) (decide (nb < 0)))
      have FIT2 := Lib.hid (FIT (decide (na < 0)) NB)
      clear hc FIT
      obtain ⟨a0, a1, a2, a3, af⟩ := vcells' H0.out.a
      obtain ⟨e0, e1, e2, e3, ef⟩ := vcells' H0.out.b
      obtain ⟨s0, s1, s2, s3, s4, s5, sf⟩ := tcells H0.out.ta
      obtain ⟨u0, u1, u2, u3, u4, u5, uf⟩ := tcells H0.out.tb
      obtain ⟨t0, t1, t2, t3, t4, t5, tf⟩ := tcells T0.out
      go_wp2_with fail
      have : ¬ W0.heap.size = w.heap.size := by omega
      have : w.heap.size < W0.heap.size := by omega
      have : ¬ W0.heap.size = w.heap.size + 1 := by omega
      have : w.heap.size + 1 < W0.heap.size := by omega
      have : ¬ W0.heap.size = w3.heap.size := by omega
      have : w3.heap.size < W0.heap.size := by omega
      go_cut [13] (fun s13 wx => s13 = .int .i64 0 ∧ Below W0.heap.size W0 wx)
      case first =>
        go_region_held3 (fun w' => (w'.cell? ⟨w.heap.size, 0, none⟩ = some (.int .i64 1) ∧ w'.cell? ⟨w.heap.size, 1, none⟩ = some (.int .i64 na) ∧ w'.cell? ⟨w.heap.size, 2, none⟩ = some (.int .i64 (QA : Int)) ∧ w'.cell? ⟨w.heap.size, 3, none⟩ = some (.string ⟨#[]⟩)) ∧ (w'.cell? ⟨w.heap.size + 1, 0, none⟩ = some (.int .i64 1) ∧ w'.cell? ⟨w.heap.size + 1, 1, none⟩ = some (.int .i64 nb) ∧ w'.cell? ⟨w.heap.size + 1, 2, none⟩ = some (.int .i64 (QB : Int)) ∧ w'.cell? ⟨w.heap.size + 1, 3, none⟩ = some (.string ⟨#[]⟩)) ∧ (w'.cell? ⟨w3.heap.size, 0, none⟩ = some (.int .i64 1) ∧ w'.cell? ⟨w3.heap.size, 1, none⟩ = some (.int .i64 (P3 : Int)) ∧ w'.cell? ⟨w3.heap.size, 2, none⟩ = some (.int .i64 (Q3 : Int)) ∧ w'.cell? ⟨w3.heap.size, 3, none⟩ = some (.int .i64 0) ∧ w'.cell? ⟨w3.heap.size, 4, none⟩ = some (.bool false) ∧ w'.cell? ⟨w3.heap.size, 5, none⟩ = some (.string ⟨#[]⟩)))
          (first | go_keep | (go_split_ands; refine ⟨⟨?_, ?_, ?_, ?_⟩, ⟨?_, ?_, ?_, ?_⟩, ?_, ?_, ?_, ?_, ?_, ?_⟩ <;> first | assumption | (rw [b7.cell (by simp <;> omega)]; assumption) | (rw [b6.cell (by simp <;> omega)]; assumption) | (rw [b5.cell (by simp <;> omega)]; assumption) | (rw [b4.cell (by simp <;> omega)]; assumption)))
          (first
            | (go_at_call_of 9 (Value.agg #[Value.int IntKind.i64 1, Value.int IntKind.i64 na, Value.int IntKind.i64 (QA : Int), Value.string ⟨#[]⟩]); refine (of_1 na QA _ _ (by omega) (by omega) (by omega)).mono ?_; rintro e w4 ⟨v4, rfl, X4, hb4⟩; have Xc := X4; obtain ⟨vn4, vd4, rfl, xx1, xx2⟩ := Xc; obtain ⟨pn4, kn4, rfl⟩ := xx1.slice; obtain ⟨pd4, kd4, rfl⟩ := xx2.slice; clear xx1 xx2; have X4 := Lib.hid X4; have b4 : Below W0.heap.size W0 w4 := Below.trans (by go_grown) (hb4.mono (by simp)); have Z := Lib.hid (hx_keep (hx_last W0 _ _ rfl) (undrew hb4)); have zz4 := b4.size; have : ¬ w4.heap.size = w.heap.size := (by omega); have : ¬ w4.heap.size = w.heap.size + 1 := (by omega); have : ¬ w4.heap.size = w3.heap.size := (by omega))
            | (go_at_call_of 9 (Value.agg #[Value.int IntKind.i64 1, Value.int IntKind.i64 na, Value.int IntKind.i64 (QA : Int), Value.string ⟨#[]⟩]); refine (of_1 na QA _ _ (by omega) (by omega) (by omega)).mono ?_; rintro e w4 ⟨v4, rfl, X4, hb4⟩; have Xc := X4; obtain ⟨vn4, vd4, rfl, xx1, xx2⟩ := Xc; obtain ⟨pn4, kn4, rfl⟩ := xx1.slice; obtain ⟨pd4, kd4, rfl⟩ := xx2.slice; clear xx1 xx2; have X4 := Lib.hid X4; have b4 : Below W0.heap.size W0 w4 := Below.trans (by go_grown) (hb4.mono (by simp)); have zz4 := b4.size; have : ¬ w4.heap.size = w.heap.size := (by omega); have : ¬ w4.heap.size = w.heap.size + 1 := (by omega); have : ¬ w4.heap.size = w3.heap.size := (by omega))
            | (go_at_call_of 9 (Value.agg #[Value.int IntKind.i64 1, Value.int IntKind.i64 nb, Value.int IntKind.i64 (QB : Int), Value.string ⟨#[]⟩]); refine (of_1 nb QB _ _ (by omega) (by omega) (by omega)).mono ?_; rintro e w5 ⟨v5, rfl, X5, hb5⟩; have Xc := X5; obtain ⟨vn5, vd5, rfl, xx1, xx2⟩ := Xc; obtain ⟨pn5, kn5, rfl⟩ := xx1.slice; obtain ⟨pd5, kd5, rfl⟩ := xx2.slice; clear xx1 xx2; have X5 := Lib.hid X5; have b5 : Below W0.heap.size W0 w5 := Below.trans (by first | exact b4 | exact b4.alloc b4.size _) (hb5.mono (by first | exact b4.size | (simp; have := b4.size; omega))); have h45 : Below w4.heap.size w4 w5 := Below.trans (by first | exact Below.refl _ _ | exact (Below.refl _ _).alloc (Nat.le_refl _) _) (hb5.mono (by simp)); have Z := Lib.hid (hx_keep Z.out hb5); have zz5 := b5.size; have : ¬ w5.heap.size = w.heap.size := (by omega); have : ¬ w5.heap.size = w.heap.size + 1 := (by omega); have : ¬ w5.heap.size = w3.heap.size := (by omega))
            | (go_at_call_of 9 (Value.agg #[Value.int IntKind.i64 1, Value.int IntKind.i64 nb, Value.int IntKind.i64 (QB : Int), Value.string ⟨#[]⟩]); refine (of_1 nb QB _ _ (by omega) (by omega) (by omega)).mono ?_; rintro e w5 ⟨v5, rfl, X5, hb5⟩; have Xc := X5; obtain ⟨vn5, vd5, rfl, xx1, xx2⟩ := Xc; obtain ⟨pn5, kn5, rfl⟩ := xx1.slice; obtain ⟨pd5, kd5, rfl⟩ := xx2.slice; clear xx1 xx2; have X5 := Lib.hid X5; have b5 : Below W0.heap.size W0 w5 := Below.trans (by first | exact b4 | exact b4.alloc b4.size _) (hb5.mono (by first | exact b4.size | (simp; have := b4.size; omega))); have h45 : Below w4.heap.size w4 w5 := Below.trans (by first | exact Below.refl _ _ | exact (Below.refl _ _).alloc (Nat.le_refl _) _) (hb5.mono (by simp)); have Z := Lib.hid (hx_keep (hx_last w4 _ _ rfl) hb5); have zz5 := b5.size; have : ¬ w5.heap.size = w.heap.size := (by omega); have : ¬ w5.heap.size = w.heap.size + 1 := (by omega); have : ¬ w5.heap.size = w3.heap.size := (by omega))
            | (go_at_call_of 9 (Value.agg #[Value.int IntKind.i64 1, Value.int IntKind.i64 nb, Value.int IntKind.i64 (QB : Int), Value.string ⟨#[]⟩]); refine (of_1 nb QB _ _ (by omega) (by omega) (by omega)).mono ?_; rintro e w5 ⟨v5, rfl, X5, hb5⟩; have Xc := X5; obtain ⟨vn5, vd5, rfl, xx1, xx2⟩ := Xc; obtain ⟨pn5, kn5, rfl⟩ := xx1.slice; obtain ⟨pd5, kd5, rfl⟩ := xx2.slice; clear xx1 xx2; have X5 := Lib.hid X5; have b5 : Below W0.heap.size W0 w5 := Below.trans (by first | exact b4 | exact b4.alloc b4.size _) (hb5.mono (by first | exact b4.size | (simp; have := b4.size; omega))); have h45 : Below w4.heap.size w4 w5 := Below.trans (by first | exact Below.refl _ _ | exact (Below.refl _ _).alloc (Nat.le_refl _) _) (hb5.mono (by simp)); have zz5 := b5.size; have : ¬ w5.heap.size = w.heap.size := (by omega); have : ¬ w5.heap.size = w.heap.size + 1 := (by omega); have : ¬ w5.heap.size = w3.heap.size := (by omega))
            | (go_at_call 8; refine (both_d (X4.out.keep (C := w4.heap.size) (by first | exact h45 | exact h45.alloc h45.size _) (Nat.le_refl _)) (X5.out.keep (C := w5.heap.size) (by first | exact Below.refl _ _ | exact (Below.refl _ _).alloc (Nat.le_refl _) _) (Nat.le_refl _)) LA.out LQA.out LB.out LQB.out (Nat.pow_pos (by decide)) (Nat.pow_pos (by decide)) (fun h => by simp at h; omega) (fun h => by simp at h; omega)).mono ?_; rintro e w6 ⟨v6, rfl, X6, hb6⟩; have Xc := X6; obtain ⟨vn6, vd6, rfl, xx1, xx2⟩ := Xc; obtain ⟨pn6, kn6, rfl⟩ := xx1.slice; obtain ⟨pd6, kd6, rfl⟩ := xx2.slice; clear xx1 xx2; have X6 := Lib.hid X6; have b6 : Below W0.heap.size W0 w6 := Below.trans (by first | exact b5 | exact b5.alloc b5.size _) (hb6.mono (by first | exact b5.size | (simp; have := b5.size; omega))); have h56 : Below w5.heap.size w5 w6 := Below.trans (by first | exact Below.refl _ _ | exact (Below.refl _ _).alloc (Nat.le_refl _) _) (hb6.mono (by simp)); have Z := Lib.hid (hx_keep Z.out hb6); have zz6 := b6.size; have : ¬ w6.heap.size = w.heap.size := (by omega); have : ¬ w6.heap.size = w.heap.size + 1 := (by omega); have : ¬ w6.heap.size = w3.heap.size := (by omega))
            | (go_at_call 8; refine (both_d (X4.out.keep (C := w4.heap.size) (by first | exact h45 | exact h45.alloc h45.size _) (Nat.le_refl _)) (X5.out.keep (C := w5.heap.size) (by first | exact Below.refl _ _ | exact (Below.refl _ _).alloc (Nat.le_refl _) _) (Nat.le_refl _)) LA.out LQA.out LB.out LQB.out (Nat.pow_pos (by decide)) (Nat.pow_pos (by decide)) (fun h => by simp at h; omega) (fun h => by simp at h; omega)).mono ?_; rintro e w6 ⟨v6, rfl, X6, hb6⟩; have Xc := X6; obtain ⟨vn6, vd6, rfl, xx1, xx2⟩ := Xc; obtain ⟨pn6, kn6, rfl⟩ := xx1.slice; obtain ⟨pd6, kd6, rfl⟩ := xx2.slice; clear xx1 xx2; have X6 := Lib.hid X6; have b6 : Below W0.heap.size W0 w6 := Below.trans (by first | exact b5 | exact b5.alloc b5.size _) (hb6.mono (by first | exact b5.size | (simp; have := b5.size; omega))); have h56 : Below w5.heap.size w5 w6 := Below.trans (by first | exact Below.refl _ _ | exact (Below.refl _ _).alloc (Nat.le_refl _) _) (hb6.mono (by simp)); have Z := Lib.hid (hx_keep (hx_last w5 _ _ rfl) hb6); have zz6 := b6.size; have : ¬ w6.heap.size = w.heap.size := (by omega); have : ¬ w6.heap.size = w.heap.size + 1 := (by omega); have : ¬ w6.heap.size = w3.heap.size := (by omega))
            | (go_at_call 8; refine (both_d (X4.out.keep (C := w4.heap.size) (by first | exact h45 | exact h45.alloc h45.size _) (Nat.le_refl _)) (X5.out.keep (C := w5.heap.size) (by first | exact Below.refl _ _ | exact (Below.refl _ _).alloc (Nat.le_refl _) _) (Nat.le_refl _)) LA.out LQA.out LB.out LQB.out (Nat.pow_pos (by decide)) (Nat.pow_pos (by decide)) (fun h => by simp at h; omega) (fun h => by simp at h; omega)).mono ?_; rintro e w6 ⟨v6, rfl, X6, hb6⟩; have Xc := X6; obtain ⟨vn6, vd6, rfl, xx1, xx2⟩ := Xc; obtain ⟨pn6, kn6, rfl⟩ := xx1.slice; obtain ⟨pd6, kd6, rfl⟩ := xx2.slice; clear xx1 xx2; have X6 := Lib.hid X6; have b6 : Below W0.heap.size W0 w6 := Below.trans (by first | exact b5 | exact b5.alloc b5.size _) (hb6.mono (by first | exact b5.size | (simp; have := b5.size; omega))); have h56 : Below w5.heap.size w5 w6 := Below.trans (by first | exact Below.refl _ _ | exact (Below.refl _ _).alloc (Nat.le_refl _) _) (hb6.mono (by simp)); have zz6 := b6.size; have : ¬ w6.heap.size = w.heap.size := (by omega); have : ¬ w6.heap.size = w.heap.size + 1 := (by omega); have : ¬ w6.heap.size = w3.heap.size := (by omega))
            | (go_at_call 7; refine (fitE_1 (P := P3) (Q := Q3) (X6.out.keep (C := w6.heap.size) (by first | exact Below.refl _ _ | exact (Below.refl _ _).alloc (Nat.le_refl _) _) (Nat.le_refl _)) (Nat.mul_pos (Nat.pow_pos (by decide)) (Nat.pow_pos (by decide))) LN1.out LD.out (by omega) (by omega) _ rfl FIT1.out).mono ?_; rintro e w7 ⟨N7, rfl, hb7⟩; have b7 : Below W0.heap.size W0 w7 := Below.trans (by first | exact b6 | exact b6.alloc b6.size _) (hb7.mono (by first | exact b6.size | (simp; have := b6.size; omega))); have h67 : Below w6.heap.size w6 w7 := Below.trans (by first | exact Below.refl _ _ | exact (Below.refl _ _).alloc (Nat.le_refl _) _) (hb7.mono (by simp)); have Z := Lib.hid (hx_keep Z.out hb7); have cc := vcells' Z.out; obtain ⟨z0, z1, z2, z3, zf⟩ := cc; have zz7 := b7.size; have : ¬ w7.heap.size = w.heap.size := (by omega); have : w.heap.size < w7.heap.size := (by omega); have : ¬ w7.heap.size = w.heap.size + 1 := (by omega); have : w.heap.size + 1 < w7.heap.size := (by omega); have : ¬ w7.heap.size = w3.heap.size := (by omega); have : w3.heap.size < w7.heap.size := (by omega); have hL := H0.out.keep b7; have AL := vcells' hL.a; have BL := vcells' hL.b; have TL := tcells (hx_keep T0.out b7); obtain ⟨i0, i1, i2, i3, i4⟩ := AL; obtain ⟨j0, j1, j2, j3, j4⟩ := BL; obtain ⟨l0, l1, l2, l3, l4, l5, l6⟩ := TL; clear hL)
            | (go_at_call 7; refine (fitE_1 (P := P3) (Q := Q3) (X6.out.keep (C := w6.heap.size) (by first | exact Below.refl _ _ | exact (Below.refl _ _).alloc (Nat.le_refl _) _) (Nat.le_refl _)) (Nat.mul_pos (Nat.pow_pos (by decide)) (Nat.pow_pos (by decide))) LN1.out LD.out (by omega) (by omega) _ rfl FIT1.out).mono ?_; rintro e w7 ⟨N7, rfl, hb7⟩; have b7 : Below W0.heap.size W0 w7 := Below.trans (by first | exact b6 | exact b6.alloc b6.size _) (hb7.mono (by first | exact b6.size | (simp; have := b6.size; omega))); have h67 : Below w6.heap.size w6 w7 := Below.trans (by first | exact Below.refl _ _ | exact (Below.refl _ _).alloc (Nat.le_refl _) _) (hb7.mono (by simp)); have Z := Lib.hid (hx_keep (hx_last w6 _ _ rfl) hb7); have cc := vcells' Z.out; obtain ⟨z0, z1, z2, z3, zf⟩ := cc; have zz7 := b7.size; have : ¬ w7.heap.size = w.heap.size := (by omega); have : w.heap.size < w7.heap.size := (by omega); have : ¬ w7.heap.size = w.heap.size + 1 := (by omega); have : w.heap.size + 1 < w7.heap.size := (by omega); have : ¬ w7.heap.size = w3.heap.size := (by omega); have : w3.heap.size < w7.heap.size := (by omega); have hL := H0.out.keep b7; have AL := vcells' hL.a; have BL := vcells' hL.b; have TL := tcells (hx_keep T0.out b7); obtain ⟨i0, i1, i2, i3, i4⟩ := AL; obtain ⟨j0, j1, j2, j3, j4⟩ := BL; obtain ⟨l0, l1, l2, l3, l4, l5, l6⟩ := TL; clear hL)
            | (go_at_call 7; refine (fitE_1 (P := P3) (Q := Q3) (X6.out.keep (C := w6.heap.size) (by first | exact Below.refl _ _ | exact (Below.refl _ _).alloc (Nat.le_refl _) _) (Nat.le_refl _)) (Nat.mul_pos (Nat.pow_pos (by decide)) (Nat.pow_pos (by decide))) LN1.out LD.out (by omega) (by omega) _ rfl FIT1.out).mono ?_; rintro e w7 ⟨N7, rfl, hb7⟩; have b7 : Below W0.heap.size W0 w7 := Below.trans (by first | exact b6 | exact b6.alloc b6.size _) (hb7.mono (by first | exact b6.size | (simp; have := b6.size; omega))); have h67 : Below w6.heap.size w6 w7 := Below.trans (by first | exact Below.refl _ _ | exact (Below.refl _ _).alloc (Nat.le_refl _) _) (hb7.mono (by simp)); have zz7 := b7.size; have : ¬ w7.heap.size = w.heap.size := (by omega); have : w.heap.size < w7.heap.size := (by omega); have : ¬ w7.heap.size = w.heap.size + 1 := (by omega); have : w.heap.size + 1 < w7.heap.size := (by omega); have : ¬ w7.heap.size = w3.heap.size := (by omega); have : w3.heap.size < w7.heap.size := (by omega); have hL := H0.out.keep b7; have AL := vcells' hL.a; have BL := vcells' hL.b; have TL := tcells (hx_keep T0.out b7); obtain ⟨i0, i1, i2, i3, i4⟩ := AL; obtain ⟨j0, j1, j2, j3, j4⟩ := BL; obtain ⟨l0, l1, l2, l3, l4, l5, l6⟩ := TL; clear hL))
        all_goals
          go_wp2_with fail
          go_meet
          refine ⟨rfl, ?_⟩
          first
            | exact b7.alloc b7.size _
            | exact (((b7.setCell (by first | omega | (simp <;> omega)) _).setCell (by first | omega | (simp <;> omega)) _).setCell (by first | omega | (simp <;> omega)) _).setCell (by first | omega | (simp <;> omega)) _
      case rest =>
        obtain ⟨W1, rfl⟩ : ∃ W1 : World, W1 = wc := ⟨_, rfl⟩
        obtain ⟨rfl, hB1⟩ := hcut
        clear a0 a1 a2 a3 af e0 e1 e2 e3 ef s0 s1 s2 s3 s4 s5 sf u0 u1 u2 u3 u4 u5 uf
        clear t0 t1 t2 t3 t4 t5 tf
        have H1 := Lib.hid (H0.out.keep hB1)
        have T1 := Lib.hid (hx_keep T0.out hB1)
        have G1 := hx_lt T1.out
        have G1' := H1.out.lt
        clear hB1 H0 T0 G0
        obtain ⟨a0, a1, a2, a3, af⟩ := vcells' H1.out.a
        obtain ⟨e0, e1, e2, e3, ef⟩ := vcells' H1.out.b
        obtain ⟨s0, s1, s2, s3, s4, s5, sf⟩ := tcells H1.out.ta
        obtain ⟨u0, u1, u2, u3, u4, u5, uf⟩ := tcells H1.out.tb
        obtain ⟨t0, t1, t2, t3, t4, t5, tf⟩ := tcells T1.out
        go_wp2_with fail
        have : ¬ W1.heap.size = w.heap.size := by omega
        have : w.heap.size < W1.heap.size := by omega
        have : ¬ W1.heap.size = w.heap.size + 1 := by omega
        have : w.heap.size + 1 < W1.heap.size := by omega
        have : ¬ W1.heap.size = w3.heap.size := by omega
        have : w3.heap.size < W1.heap.size := by omega
        go_cut [15] (fun s15 wx => s15 = .int .i64 0 ∧ Below W1.heap.size W1 wx)
        case first =>
          go_region_held3 (fun w' => (w'.cell? ⟨w.heap.size, 0, none⟩ = some (.int .i64 1) ∧ w'.cell? ⟨w.heap.size, 1, none⟩ = some (.int .i64 na) ∧ w'.cell? ⟨w.heap.size, 2, none⟩ = some (.int .i64 (QA : Int)) ∧ w'.cell? ⟨w.heap.size, 3, none⟩ = some (.string ⟨#[]⟩)) ∧ (w'.cell? ⟨w.heap.size + 1, 0, none⟩ = some (.int .i64 1) ∧ w'.cell? ⟨w.heap.size + 1, 1, none⟩ = some (.int .i64 nb) ∧ w'.cell? ⟨w.heap.size + 1, 2, none⟩ = some (.int .i64 (QB : Int)) ∧ w'.cell? ⟨w.heap.size + 1, 3, none⟩ = some (.string ⟨#[]⟩)) ∧ (w'.cell? ⟨w3.heap.size, 0, none⟩ = some (.int .i64 1) ∧ w'.cell? ⟨w3.heap.size, 1, none⟩ = some (.int .i64 (P3 : Int)) ∧ w'.cell? ⟨w3.heap.size, 2, none⟩ = some (.int .i64 (Q3 : Int)) ∧ w'.cell? ⟨w3.heap.size, 3, none⟩ = some (.int .i64 0) ∧ w'.cell? ⟨w3.heap.size, 4, none⟩ = some (.bool false) ∧ w'.cell? ⟨w3.heap.size, 5, none⟩ = some (.string ⟨#[]⟩)))
            (first | go_keep | (go_split_ands; refine ⟨⟨?_, ?_, ?_, ?_⟩, ⟨?_, ?_, ?_, ?_⟩, ?_, ?_, ?_, ?_, ?_, ?_⟩ <;> first | assumption | (rw [b7.cell (by simp <;> omega)]; assumption) | (rw [b6.cell (by simp <;> omega)]; assumption) | (rw [b9.cell (by simp <;> omega)]; assumption) | (rw [b5.cell (by simp <;> omega)]; assumption) | (rw [b4.cell (by simp <;> omega)]; assumption)))
            (first
              | (go_at_call_of 9 (Value.agg #[Value.int IntKind.i64 1, Value.int IntKind.i64 na, Value.int IntKind.i64 (QA : Int), Value.string ⟨#[]⟩]); refine (of_1 na QA _ _ (by omega) (by omega) (by omega)).mono ?_; rintro e w4 ⟨v4, rfl, X4, hb4⟩; have Xc := X4; obtain ⟨vn4, vd4, rfl, xx1, xx2⟩ := Xc; obtain ⟨pn4, kn4, rfl⟩ := xx1.slice; obtain ⟨pd4, kd4, rfl⟩ := xx2.slice; clear xx1 xx2; have X4 := Lib.hid X4; have b4 : Below W1.heap.size W1 w4 := Below.trans (by go_grown) (hb4.mono (by simp)); have Z := Lib.hid (hx_keep (hx_last W1 _ _ rfl) (undrew hb4)); have zz4 := b4.size; have : ¬ w4.heap.size = w.heap.size := (by omega); have : ¬ w4.heap.size = w.heap.size + 1 := (by omega); have : ¬ w4.heap.size = w3.heap.size := (by omega))
              | (go_at_call_of 9 (Value.agg #[Value.int IntKind.i64 1, Value.int IntKind.i64 na, Value.int IntKind.i64 (QA : Int), Value.string ⟨#[]⟩]); refine (of_1 na QA _ _ (by omega) (by omega) (by omega)).mono ?_; rintro e w4 ⟨v4, rfl, X4, hb4⟩; have Xc := X4; obtain ⟨vn4, vd4, rfl, xx1, xx2⟩ := Xc; obtain ⟨pn4, kn4, rfl⟩ := xx1.slice; obtain ⟨pd4, kd4, rfl⟩ := xx2.slice; clear xx1 xx2; have X4 := Lib.hid X4; have b4 : Below W1.heap.size W1 w4 := Below.trans (by go_grown) (hb4.mono (by simp)); have zz4 := b4.size; have : ¬ w4.heap.size = w.heap.size := (by omega); have : ¬ w4.heap.size = w.heap.size + 1 := (by omega); have : ¬ w4.heap.size = w3.heap.size := (by omega))
              | (go_at_call_of 9 (Value.agg #[Value.int IntKind.i64 1, Value.int IntKind.i64 nb, Value.int IntKind.i64 (QB : Int), Value.string ⟨#[]⟩]); refine (of_1 nb QB _ _ (by omega) (by omega) (by omega)).mono ?_; rintro e w5 ⟨v5, rfl, X5, hb5⟩; have Xc := X5; obtain ⟨vn5, vd5, rfl, xx1, xx2⟩ := Xc; obtain ⟨pn5, kn5, rfl⟩ := xx1.slice; obtain ⟨pd5, kd5, rfl⟩ := xx2.slice; clear xx1 xx2; have X5 := Lib.hid X5; have b5 : Below W1.heap.size W1 w5 := Below.trans (by first | exact b4 | exact b4.alloc b4.size _) (hb5.mono (by first | exact b4.size | (simp; have := b4.size; omega))); have h45 : Below w4.heap.size w4 w5 := Below.trans (by first | exact Below.refl _ _ | exact (Below.refl _ _).alloc (Nat.le_refl _) _) (hb5.mono (by simp)); have Z := Lib.hid (hx_keep Z.out hb5); have zz5 := b5.size; have : ¬ w5.heap.size = w.heap.size := (by omega); have : ¬ w5.heap.size = w.heap.size + 1 := (by omega); have : ¬ w5.heap.size = w3.heap.size := (by omega))
              | (go_at_call_of 9 (Value.agg #[Value.int IntKind.i64 1, Value.int IntKind.i64 nb, Value.int IntKind.i64 (QB : Int), Value.string ⟨#[]⟩]); refine (of_1 nb QB _ _ (by omega) (by omega) (by omega)).mono ?_; rintro e w5 ⟨v5, rfl, X5, hb5⟩; have Xc := X5; obtain ⟨vn5, vd5, rfl, xx1, xx2⟩ := Xc; obtain ⟨pn5, kn5, rfl⟩ := xx1.slice; obtain ⟨pd5, kd5, rfl⟩ := xx2.slice; clear xx1 xx2; have X5 := Lib.hid X5; have b5 : Below W1.heap.size W1 w5 := Below.trans (by first | exact b4 | exact b4.alloc b4.size _) (hb5.mono (by first | exact b4.size | (simp; have := b4.size; omega))); have h45 : Below w4.heap.size w4 w5 := Below.trans (by first | exact Below.refl _ _ | exact (Below.refl _ _).alloc (Nat.le_refl _) _) (hb5.mono (by simp)); have Z := Lib.hid (hx_keep (hx_last w4 _ _ rfl) hb5); have zz5 := b5.size; have : ¬ w5.heap.size = w.heap.size := (by omega); have : ¬ w5.heap.size = w.heap.size + 1 := (by omega); have : ¬ w5.heap.size = w3.heap.size := (by omega))
              | (go_at_call_of 9 (Value.agg #[Value.int IntKind.i64 1, Value.int IntKind.i64 nb, Value.int IntKind.i64 (QB : Int), Value.string ⟨#[]⟩]); refine (of_1 nb QB _ _ (by omega) (by omega) (by omega)).mono ?_; rintro e w5 ⟨v5, rfl, X5, hb5⟩; have Xc := X5; obtain ⟨vn5, vd5, rfl, xx1, xx2⟩ := Xc; obtain ⟨pn5, kn5, rfl⟩ := xx1.slice; obtain ⟨pd5, kd5, rfl⟩ := xx2.slice; clear xx1 xx2; have X5 := Lib.hid X5; have b5 : Below W1.heap.size W1 w5 := Below.trans (by first | exact b4 | exact b4.alloc b4.size _) (hb5.mono (by first | exact b4.size | (simp; have := b4.size; omega))); have h45 : Below w4.heap.size w4 w5 := Below.trans (by first | exact Below.refl _ _ | exact (Below.refl _ _).alloc (Nat.le_refl _) _) (hb5.mono (by simp)); have zz5 := b5.size; have : ¬ w5.heap.size = w.heap.size := (by omega); have : ¬ w5.heap.size = w.heap.size + 1 := (by omega); have : ¬ w5.heap.size = w3.heap.size := (by omega))
              | (go_at_call 10; refine (turn_e NBE.out (X5.out.keep (C := w5.heap.size) (by first | exact Below.refl _ _ | exact (Below.refl _ _).alloc (Nat.le_refl _) _) (Nat.le_refl _))).mono ?_; rintro e w9 ⟨v9, rfl, X9, hb9⟩; have Xc := X9; obtain ⟨vn9, vd9, rfl, xx1, xx2⟩ := Xc; obtain ⟨pn9, kn9, rfl⟩ := xx1.slice; obtain ⟨pd9, kd9, rfl⟩ := xx2.slice; clear xx1 xx2; have X9 := Lib.hid X9; have b9 : Below W1.heap.size W1 w9 := Below.trans (by first | exact b5 | exact b5.alloc b5.size _) (hb9.mono (by first | exact b5.size | (simp; have := b5.size; omega))); have h59 : Below w5.heap.size w5 w9 := Below.trans (by first | exact Below.refl _ _ | exact (Below.refl _ _).alloc (Nat.le_refl _) _) (hb9.mono (by simp)); have Z := Lib.hid (hx_keep Z.out hb9); have zz9 := b9.size; have : ¬ w9.heap.size = w.heap.size := (by omega); have : ¬ w9.heap.size = w.heap.size + 1 := (by omega); have : ¬ w9.heap.size = w3.heap.size := (by omega))
              | (go_at_call 10; refine (turn_e NBE.out (X5.out.keep (C := w5.heap.size) (by first | exact Below.refl _ _ | exact (Below.refl _ _).alloc (Nat.le_refl _) _) (Nat.le_refl _))).mono ?_; rintro e w9 ⟨v9, rfl, X9, hb9⟩; have Xc := X9; obtain ⟨vn9, vd9, rfl, xx1, xx2⟩ := Xc; obtain ⟨pn9, kn9, rfl⟩ := xx1.slice; obtain ⟨pd9, kd9, rfl⟩ := xx2.slice; clear xx1 xx2; have X9 := Lib.hid X9; have b9 : Below W1.heap.size W1 w9 := Below.trans (by first | exact b5 | exact b5.alloc b5.size _) (hb9.mono (by first | exact b5.size | (simp; have := b5.size; omega))); have h59 : Below w5.heap.size w5 w9 := Below.trans (by first | exact Below.refl _ _ | exact (Below.refl _ _).alloc (Nat.le_refl _) _) (hb9.mono (by simp)); have Z := Lib.hid (hx_keep (hx_last w5 _ _ rfl) hb9); have zz9 := b9.size; have : ¬ w9.heap.size = w.heap.size := (by omega); have : ¬ w9.heap.size = w.heap.size + 1 := (by omega); have : ¬ w9.heap.size = w3.heap.size := (by omega))
              | (go_at_call 10; refine (turn_e NBE.out (X5.out.keep (C := w5.heap.size) (by first | exact Below.refl _ _ | exact (Below.refl _ _).alloc (Nat.le_refl _) _) (Nat.le_refl _))).mono ?_; rintro e w9 ⟨v9, rfl, X9, hb9⟩; have Xc := X9; obtain ⟨vn9, vd9, rfl, xx1, xx2⟩ := Xc; obtain ⟨pn9, kn9, rfl⟩ := xx1.slice; obtain ⟨pd9, kd9, rfl⟩ := xx2.slice; clear xx1 xx2; have X9 := Lib.hid X9; have b9 : Below W1.heap.size W1 w9 := Below.trans (by first | exact b5 | exact b5.alloc b5.size _) (hb9.mono (by first | exact b5.size | (simp; have := b5.size; omega))); have h59 : Below w5.heap.size w5 w9 := Below.trans (by first | exact Below.refl _ _ | exact (Below.refl _ _).alloc (Nat.le_refl _) _) (hb9.mono (by simp)); have zz9 := b9.size; have : ¬ w9.heap.size = w.heap.size := (by omega); have : ¬ w9.heap.size = w.heap.size + 1 := (by omega); have : ¬ w9.heap.size = w3.heap.size := (by omega))
              | (go_at_call 8; refine (both_d (X4.out.keep (C := w4.heap.size) (by first | exact h45.trans (h59.mono h45.size) | exact (h45.trans (h59.mono h45.size)).alloc (Nat.le_trans h45.size h59.size) _) (Nat.le_refl _)) (X9.out.keep (C := w9.heap.size) (by first | exact Below.refl _ _ | exact (Below.refl _ _).alloc (Nat.le_refl _) _) (Nat.le_refl _)) LA.out LQA.out LB.out LQB.out (Nat.pow_pos (by decide)) (Nat.pow_pos (by decide)) (fun h => by simp at h; omega) NBP.out).mono ?_; rintro e w6 ⟨v6, rfl, X6, hb6⟩; have Xc := X6; obtain ⟨vn6, vd6, rfl, xx1, xx2⟩ := Xc; obtain ⟨pn6, kn6, rfl⟩ := xx1.slice; obtain ⟨pd6, kd6, rfl⟩ := xx2.slice; clear xx1 xx2; have X6 := Lib.hid X6; have b6 : Below W1.heap.size W1 w6 := Below.trans (by first | exact b9 | exact b9.alloc b9.size _) (hb6.mono (by first | exact b9.size | (simp; have := b9.size; omega))); have h96 : Below w9.heap.size w9 w6 := Below.trans (by first | exact Below.refl _ _ | exact (Below.refl _ _).alloc (Nat.le_refl _) _) (hb6.mono (by simp)); have Z := Lib.hid (hx_keep Z.out hb6); have zz6 := b6.size; have : ¬ w6.heap.size = w.heap.size := (by omega); have : ¬ w6.heap.size = w.heap.size + 1 := (by omega); have : ¬ w6.heap.size = w3.heap.size := (by omega))
              | (go_at_call 8; refine (both_d (X4.out.keep (C := w4.heap.size) (by first | exact h45.trans (h59.mono h45.size) | exact (h45.trans (h59.mono h45.size)).alloc (Nat.le_trans h45.size h59.size) _) (Nat.le_refl _)) (X9.out.keep (C := w9.heap.size) (by first | exact Below.refl _ _ | exact (Below.refl _ _).alloc (Nat.le_refl _) _) (Nat.le_refl _)) LA.out LQA.out LB.out LQB.out (Nat.pow_pos (by decide)) (Nat.pow_pos (by decide)) (fun h => by simp at h; omega) NBP.out).mono ?_; rintro e w6 ⟨v6, rfl, X6, hb6⟩; have Xc := X6; obtain ⟨vn6, vd6, rfl, xx1, xx2⟩ := Xc; obtain ⟨pn6, kn6, rfl⟩ := xx1.slice; obtain ⟨pd6, kd6, rfl⟩ := xx2.slice; clear xx1 xx2; have X6 := Lib.hid X6; have b6 : Below W1.heap.size W1 w6 := Below.trans (by first | exact b9 | exact b9.alloc b9.size _) (hb6.mono (by first | exact b9.size | (simp; have := b9.size; omega))); have h96 : Below w9.heap.size w9 w6 := Below.trans (by first | exact Below.refl _ _ | exact (Below.refl _ _).alloc (Nat.le_refl _) _) (hb6.mono (by simp)); have Z := Lib.hid (hx_keep (hx_last w9 _ _ rfl) hb6); have zz6 := b6.size; have : ¬ w6.heap.size = w.heap.size := (by omega); have : ¬ w6.heap.size = w.heap.size + 1 := (by omega); have : ¬ w6.heap.size = w3.heap.size := (by omega))
              | (go_at_call 8; refine (both_d (X4.out.keep (C := w4.heap.size) (by first | exact h45.trans (h59.mono h45.size) | exact (h45.trans (h59.mono h45.size)).alloc (Nat.le_trans h45.size h59.size) _) (Nat.le_refl _)) (X9.out.keep (C := w9.heap.size) (by first | exact Below.refl _ _ | exact (Below.refl _ _).alloc (Nat.le_refl _) _) (Nat.le_refl _)) LA.out LQA.out LB.out LQB.out (Nat.pow_pos (by decide)) (Nat.pow_pos (by decide)) (fun h => by simp at h; omega) NBP.out).mono ?_; rintro e w6 ⟨v6, rfl, X6, hb6⟩; have Xc := X6; obtain ⟨vn6, vd6, rfl, xx1, xx2⟩ := Xc; obtain ⟨pn6, kn6, rfl⟩ := xx1.slice; obtain ⟨pd6, kd6, rfl⟩ := xx2.slice; clear xx1 xx2; have X6 := Lib.hid X6; have b6 : Below W1.heap.size W1 w6 := Below.trans (by first | exact b9 | exact b9.alloc b9.size _) (hb6.mono (by first | exact b9.size | (simp; have := b9.size; omega))); have h96 : Below w9.heap.size w9 w6 := Below.trans (by first | exact Below.refl _ _ | exact (Below.refl _ _).alloc (Nat.le_refl _) _) (hb6.mono (by simp)); have zz6 := b6.size; have : ¬ w6.heap.size = w.heap.size := (by omega); have : ¬ w6.heap.size = w.heap.size + 1 := (by omega); have : ¬ w6.heap.size = w3.heap.size := (by omega))
              | (go_at_call 7; refine (fitE_1 (P := P3) (Q := Q3) (X6.out.keep (C := w6.heap.size) (by first | exact Below.refl _ _ | exact (Below.refl _ _).alloc (Nat.le_refl _) _) (Nat.le_refl _)) (Nat.mul_pos (Nat.pow_pos (by decide)) (Nat.pow_pos (by decide))) LN2.out LD.out (by omega) (by omega) _ rfl FIT2.out).mono ?_; rintro e w7 ⟨N7, rfl, hb7⟩; have b7 : Below W1.heap.size W1 w7 := Below.trans (by first | exact b6 | exact b6.alloc b6.size _) (hb7.mono (by first | exact b6.size | (simp; have := b6.size; omega))); have h67 : Below w6.heap.size w6 w7 := Below.trans (by first | exact Below.refl _ _ | exact (Below.refl _ _).alloc (Nat.le_refl _) _) (hb7.mono (by simp)); have Z := Lib.hid (hx_keep Z.out hb7); have cc := vcells' Z.out; obtain ⟨z0, z1, z2, z3, zf⟩ := cc; have zz7 := b7.size; have : ¬ w7.heap.size = w.heap.size := (by omega); have : w.heap.size < w7.heap.size := (by omega); have : ¬ w7.heap.size = w.heap.size + 1 := (by omega); have : w.heap.size + 1 < w7.heap.size := (by omega); have : ¬ w7.heap.size = w3.heap.size := (by omega); have : w3.heap.size < w7.heap.size := (by omega); have hL := H1.out.keep b7; have AL := vcells' hL.a; have BL := vcells' hL.b; have TL := tcells (hx_keep T1.out b7); obtain ⟨i0, i1, i2, i3, i4⟩ := AL; obtain ⟨j0, j1, j2, j3, j4⟩ := BL; obtain ⟨l0, l1, l2, l3, l4, l5, l6⟩ := TL; clear hL)
              | (go_at_call 7; refine (fitE_1 (P := P3) (Q := Q3) (X6.out.keep (C := w6.heap.size) (by first | exact Below.refl _ _ | exact (Below.refl _ _).alloc (Nat.le_refl _) _) (Nat.le_refl _)) (Nat.mul_pos (Nat.pow_pos (by decide)) (Nat.pow_pos (by decide))) LN2.out LD.out (by omega) (by omega) _ rfl FIT2.out).mono ?_; rintro e w7 ⟨N7, rfl, hb7⟩; have b7 : Below W1.heap.size W1 w7 := Below.trans (by first | exact b6 | exact b6.alloc b6.size _) (hb7.mono (by first | exact b6.size | (simp; have := b6.size; omega))); have h67 : Below w6.heap.size w6 w7 := Below.trans (by first | exact Below.refl _ _ | exact (Below.refl _ _).alloc (Nat.le_refl _) _) (hb7.mono (by simp)); have Z := Lib.hid (hx_keep (hx_last w6 _ _ rfl) hb7); have cc := vcells' Z.out; obtain ⟨z0, z1, z2, z3, zf⟩ := cc; have zz7 := b7.size; have : ¬ w7.heap.size = w.heap.size := (by omega); have : w.heap.size < w7.heap.size := (by omega); have : ¬ w7.heap.size = w.heap.size + 1 := (by omega); have : w.heap.size + 1 < w7.heap.size := (by omega); have : ¬ w7.heap.size = w3.heap.size := (by omega); have : w3.heap.size < w7.heap.size := (by omega); have hL := H1.out.keep b7; have AL := vcells' hL.a; have BL := vcells' hL.b; have TL := tcells (hx_keep T1.out b7); obtain ⟨i0, i1, i2, i3, i4⟩ := AL; obtain ⟨j0, j1, j2, j3, j4⟩ := BL; obtain ⟨l0, l1, l2, l3, l4, l5, l6⟩ := TL; clear hL)
              | (go_at_call 7; refine (fitE_1 (P := P3) (Q := Q3) (X6.out.keep (C := w6.heap.size) (by first | exact Below.refl _ _ | exact (Below.refl _ _).alloc (Nat.le_refl _) _) (Nat.le_refl _)) (Nat.mul_pos (Nat.pow_pos (by decide)) (Nat.pow_pos (by decide))) LN2.out LD.out (by omega) (by omega) _ rfl FIT2.out).mono ?_; rintro e w7 ⟨N7, rfl, hb7⟩; have b7 : Below W1.heap.size W1 w7 := Below.trans (by first | exact b6 | exact b6.alloc b6.size _) (hb7.mono (by first | exact b6.size | (simp; have := b6.size; omega))); have h67 : Below w6.heap.size w6 w7 := Below.trans (by first | exact Below.refl _ _ | exact (Below.refl _ _).alloc (Nat.le_refl _) _) (hb7.mono (by simp)); have zz7 := b7.size; have : ¬ w7.heap.size = w.heap.size := (by omega); have : w.heap.size < w7.heap.size := (by omega); have : ¬ w7.heap.size = w.heap.size + 1 := (by omega); have : w.heap.size + 1 < w7.heap.size := (by omega); have : ¬ w7.heap.size = w3.heap.size := (by omega); have : w3.heap.size < w7.heap.size := (by omega); have hL := H1.out.keep b7; have AL := vcells' hL.a; have BL := vcells' hL.b; have TL := tcells (hx_keep T1.out b7); obtain ⟨i0, i1, i2, i3, i4⟩ := AL; obtain ⟨j0, j1, j2, j3, j4⟩ := BL; obtain ⟨l0, l1, l2, l3, l4, l5, l6⟩ := TL; clear hL))
          all_goals
            go_wp2_with fail
            go_meet
            refine ⟨rfl, ?_⟩
            first
              | exact b7.alloc b7.size _
              | exact (((b7.setCell (by first | omega | (simp <;> omega)) _).setCell (by first | omega | (simp <;> omega)) _).setCell (by first | omega | (simp <;> omega)) _).setCell (by first | omega | (simp <;> omega)) _
        case rest =>
          obtain ⟨W2, rfl⟩ : ∃ W2 : World, W2 = wc := ⟨_, rfl⟩
          obtain ⟨rfl, hB2⟩ := hcut
          have H2 := Lib.hid (H1.out.keep hB2)
          have T2 := Lib.hid (hx_keep T1.out hB2)
          clear a0 a1 a2 a3 af e0 e1 e2 e3 ef s0 s1 s2 s3 s4 s5 sf u0 u1 u2 u3 u4 u5 uf
          clear t0 t1 t2 t3 t4 t5 tf hB2
          go_wp2_with fail
          go_meet
          exact ⟨rfl, H2.out, T2.out⟩
    · have hc1 : ((P3 : Int) == max (1 : Int) (max ((PA : Int) - QA) ((PB : Int) - QB) + Q3 + 1)) = false := by rw [HMX.out]; simpa using hc
      clear hc
      go_wp2_with fail
      go_meet
      exact ⟨rfl, H0.out, T0.out⟩
  case rest =>
    obtain ⟨W3, rfl⟩ : ∃ W3 : World, W3 = wc := ⟨_, rfl⟩
    obtain ⟨rfl, hH3, hT3⟩ := hcut
    have H3 := Lib.hid hH3
    have T3 := Lib.hid hT3
    have G3 := hx_lt hT3
    have G3' := hH3.lt
    clear hH3 hT3 H0 T0 G0 HMX
    obtain ⟨a0, a1, a2, a3, af⟩ := vcells' H3.out.a
    obtain ⟨e0, e1, e2, e3, ef⟩ := vcells' H3.out.b
    obtain ⟨s0, s1, s2, s3, s4, s5, sf⟩ := tcells H3.out.ta
    obtain ⟨u0, u1, u2, u3, u4, u5, uf⟩ := tcells H3.out.tb
    go_wp2_with fail
    go_at_call 6
    refine (res_times_1 HT.out _ HNA.out HNB.out).mono ?_
    rintro e w8 ⟨rfl, hb8⟩
    have H8 := Lib.hid (H3.out.keep hb8)
    have T8 := Lib.hid (hx_keep T3.out hb8)
    have G8 := hx_lt T8.out
    have G8' := H8.out.lt
    clear a0 a1 a2 a3 af e0 e1 e2 e3 ef s0 s1 s2 s3 s4 s5 sf u0 u1 u2 u3 u4 u5 uf
    clear hb8 H3 T3
    obtain ⟨a0, a1, a2, a3, af⟩ := vcells' H8.out.a
    obtain ⟨e0, e1, e2, e3, ef⟩ := vcells' H8.out.b
    obtain ⟨s0, s1, s2, s3, s4, s5, sf⟩ := tcells H8.out.ta
    obtain ⟨u0, u1, u2, u3, u4, u5, uf⟩ := tcells H8.out.tb
    obtain ⟨t0, t1, t2, t3, t4, t5, tf⟩ := tcells T8.out
    have : ¬ w3.heap.size = w.heap.size := by omega
    have : ¬ w.heap.size = w3.heap.size := by omega
    have : ¬ w3.heap.size = w.heap.size + 1 := by omega
    have : ¬ w.heap.size + 1 = w3.heap.size := by omega
    have : ¬ w3.heap.size = w.heap.size + 1 + 1 := by omega
    have : ¬ w.heap.size + 1 + 1 = w3.heap.size := by omega
    have : ¬ w3.heap.size = w.heap.size + 1 + 1 + 1 := by omega
    have : ¬ w.heap.size + 1 + 1 + 1 = w3.heap.size := by omega
    by_cases hd1 : (PA : Int) + PB + 1 ≤ 31
    · by_cases hd2 : (QA : Int) + QB ≤ 31
      · have tf4 := times_fit two_1 HA'.out HB'.out HT.out hd1 hd2
        obtain ⟨NT, nte, ntp⟩ : ∃ NT, timesN (decide (na < 0)) (decide (nb < 0)) (na.natAbs * nb.natAbs) = NT ∧ (NT = true → 0 < na.natAbs * nb.natAbs) := ⟨_, rfl, fun h => by rw [timesN, Bool.and_eq_true] at h; exact of_decide_eq_true h.2⟩
        have q15 : na.natAbs * nb.natAbs < 1000000000000000 := Nat.lt_of_lt_of_le tf4.2 (Nat.le_trans (Nat.pow_le_pow_right (by decide) (show P4 ≤ 31 by omega)) (by decide))
        have hQ4 : Q4 = QA + QB := by have := HT.out.q4; omega
        have TC := Lib.hid tf4.1
        have TF := Lib.hid tf4.2
        have LP := Lib.hid (Nat.le_trans (digs_length _ 15 q15) (by decide) : (digs (na.natAbs * nb.natAbs)).length ≤ 1000)
        have lq4 := digs_len_pow2 Q4
        have LQ4 := Lib.hid (show (digs (2 ^ Q4)).length ≤ 1000 by omega)
        have HEQ := Lib.hid (show na.natAbs * nb.natAbs * 2 ^ Q4 = na.natAbs * nb.natAbs * (2 ^ QA * 2 ^ QB) by rw [hQ4, Nat.pow_add])
        generalize hPR : na.natAbs * nb.natAbs = PR at *
        have HPR := Lib.hid hPR
        clear hPR
        obtain ⟨NV, nv, nv1, nv2, nv3⟩ := sgn_parts NT PR (2 ^ P4) TF.out ntp q15
        have NTE := Lib.hid nte
        have NTP := Lib.hid ntp
        have NV0 := Lib.hid nv
        have NV1 := Lib.hid nv1
        have NV2 := Lib.hid nv2
        have NV3 := Lib.hid nv3
        clear nte ntp nv nv1 nv2 nv3 tf4 hQ4 lq4
        go_wp2_with fail
        have H9 : Boxes w (set6 w8 w3.heap.size 1 (P4 : Int) (Q4 : Int)) 1 na nb PA QA PB QB := H8.out.keepB (C := w3.heap.size) (set6_below (Below.refl _ w8) (Nat.le_refl _)) (by omega)
        obtain ⟨c0, c1, c2, c3, c4, c5⟩ := set6_cells t0 t1 t2 t3 t4 t5 1 (P4 : Int) (Q4 : Int)
        have G9 : w3.heap.size < (set6 w8 w3.heap.size 1 (P4 : Int) (Q4 : Int)).heap.size := by rw [set6_size]; exact G8
        generalize hW9 : World.setCell (World.setCell (World.setCell (World.setCell (World.setCell (World.setCell w8 ⟨w3.heap.size, 0, none⟩ (.int .i64 1)) ⟨w3.heap.size, 1, none⟩ (.int .i64 (P4 : Int))) ⟨w3.heap.size, 2, none⟩ (.int .i64 (Q4 : Int))) ⟨w3.heap.size, 3, none⟩ (.int .i64 0)) ⟨w3.heap.size, 4, none⟩ (.bool false)) ⟨w3.heap.size, 5, none⟩ (.string ⟨#[]⟩) = W9
        have hW9' : set6 w8 w3.heap.size 1 (P4 : Int) (Q4 : Int) = W9 := hW9
        rw [hW9'] at H9 c0 c1 c2 c3 c4 c5 G9
        clear a0 a1 a2 a3 af e0 e1 e2 e3 ef s0 s1 s2 s3 s4 s5 sf u0 u1 u2 u3 u4 u5 uf
        clear hW9 hW9' t0 t1 t2 t3 t4 t5 tf H8 T8 G8 G8'
        have H9' := Lib.hid H9
        have T9 := Lib.hid (And.intro c0 (And.intro c1 (And.intro c2 (And.intro c3 (And.intro c4 c5)))))
        have G9' := H9.lt
        clear H9 c0 c1 c2 c3 c4 c5
        obtain ⟨a0, a1, a2, a3, af⟩ := vcells' H9'.out.a
        obtain ⟨e0, e1, e2, e3, ef⟩ := vcells' H9'.out.b
        obtain ⟨s0, s1, s2, s3, s4, s5, sf⟩ := tcells H9'.out.ta
        obtain ⟨u0, u1, u2, u3, u4, u5, uf⟩ := tcells H9'.out.tb
        have : ¬ W9.heap.size = w.heap.size := by omega
        have : w.heap.size < W9.heap.size := by omega
        have : ¬ W9.heap.size = w.heap.size + 1 := by omega
        have : w.heap.size + 1 < W9.heap.size := by omega
        have : ¬ W9.heap.size = w3.heap.size := by omega
        have : w3.heap.size < W9.heap.size := by omega
        go_cut [16] (fun s16 wx => PRel W9 wx NT PR (2 ^ QA * 2 ^ QB) s16)
        case first =>
          go_region_held3 (fun w' => (w'.cell? ⟨w.heap.size, 0, none⟩ = some (.int .i64 1) ∧ w'.cell? ⟨w.heap.size, 1, none⟩ = some (.int .i64 na) ∧ w'.cell? ⟨w.heap.size, 2, none⟩ = some (.int .i64 (QA : Int)) ∧ w'.cell? ⟨w.heap.size, 3, none⟩ = some (.string ⟨#[]⟩)) ∧ (w'.cell? ⟨w.heap.size + 1, 0, none⟩ = some (.int .i64 1) ∧ w'.cell? ⟨w.heap.size + 1, 1, none⟩ = some (.int .i64 nb) ∧ w'.cell? ⟨w.heap.size + 1, 2, none⟩ = some (.int .i64 (QB : Int)) ∧ w'.cell? ⟨w.heap.size + 1, 3, none⟩ = some (.string ⟨#[]⟩)))
            (first | go_keep | (go_split_ands; refine ⟨⟨?_, ?_, ?_, ?_⟩, ?_, ?_, ?_, ?_⟩ <;> first | assumption | (rw [b6.cell (by simp <;> omega)]; assumption) | (rw [b5.cell (by simp <;> omega)]; assumption) | (rw [b4.cell (by simp <;> omega)]; assumption)))
            (first
              | (go_at_call_of 9 (Value.agg #[Value.int IntKind.i64 1, Value.int IntKind.i64 na, Value.int IntKind.i64 (QA : Int), Value.string ⟨#[]⟩]); refine (of_1 na QA _ _ (by omega) (by omega) (by omega)).mono ?_; rintro e w4 ⟨v4, rfl, X4, hb4⟩; have Xc := X4; obtain ⟨vn4, vd4, rfl, xx1, xx2⟩ := Xc; obtain ⟨pn4, kn4, rfl⟩ := xx1.slice; obtain ⟨pd4, kd4, rfl⟩ := xx2.slice; clear xx1 xx2; have X4 := Lib.hid X4; have b4 : Below W9.heap.size W9 w4 := Below.trans (by go_grown) (hb4.mono (by simp)); have Z := Lib.hid (hx_keep (hx_last W9 _ _ rfl) (undrew hb4)); have zl4 := hx_lt Z.out; have zz4 := b4.size; have : ¬ w4.heap.size = w.heap.size := (by omega); have : ¬ w4.heap.size = w.heap.size + 1 := (by omega); have : ¬ w4.heap.size = w3.heap.size := (by omega))
              | (go_at_call_of 9 (Value.agg #[Value.int IntKind.i64 1, Value.int IntKind.i64 na, Value.int IntKind.i64 (QA : Int), Value.string ⟨#[]⟩]); refine (of_1 na QA _ _ (by omega) (by omega) (by omega)).mono ?_; rintro e w4 ⟨v4, rfl, X4, hb4⟩; have Xc := X4; obtain ⟨vn4, vd4, rfl, xx1, xx2⟩ := Xc; obtain ⟨pn4, kn4, rfl⟩ := xx1.slice; obtain ⟨pd4, kd4, rfl⟩ := xx2.slice; clear xx1 xx2; have X4 := Lib.hid X4; have b4 : Below W9.heap.size W9 w4 := Below.trans (by go_grown) (hb4.mono (by simp)); have zz4 := b4.size; have : ¬ w4.heap.size = w.heap.size := (by omega); have : ¬ w4.heap.size = w.heap.size + 1 := (by omega); have : ¬ w4.heap.size = w3.heap.size := (by omega))
              | (go_at_call_of 9 (Value.agg #[Value.int IntKind.i64 1, Value.int IntKind.i64 nb, Value.int IntKind.i64 (QB : Int), Value.string ⟨#[]⟩]); refine (of_1 nb QB _ _ (by omega) (by omega) (by omega)).mono ?_; rintro e w5 ⟨v5, rfl, X5, hb5⟩; have Xc := X5; obtain ⟨vn5, vd5, rfl, xx1, xx2⟩ := Xc; obtain ⟨pn5, kn5, rfl⟩ := xx1.slice; obtain ⟨pd5, kd5, rfl⟩ := xx2.slice; clear xx1 xx2; have X5 := Lib.hid X5; have b5 : Below W9.heap.size W9 w5 := Below.trans (by first | exact b4 | exact b4.alloc b4.size _) (hb5.mono (by first | exact b4.size | (simp; have := b4.size; omega))); have h45 : Below w4.heap.size w4 w5 := Below.trans (by first | exact Below.refl _ _ | exact (Below.refl _ _).alloc (Nat.le_refl _) _) (hb5.mono (by simp)); have Z := Lib.hid (hx_keep Z.out hb5); have zl5 := hx_lt Z.out; have zz5 := b5.size; have : ¬ w5.heap.size = w.heap.size := (by omega); have : ¬ w5.heap.size = w.heap.size + 1 := (by omega); have : ¬ w5.heap.size = w3.heap.size := (by omega))
              | (go_at_call_of 9 (Value.agg #[Value.int IntKind.i64 1, Value.int IntKind.i64 nb, Value.int IntKind.i64 (QB : Int), Value.string ⟨#[]⟩]); refine (of_1 nb QB _ _ (by omega) (by omega) (by omega)).mono ?_; rintro e w5 ⟨v5, rfl, X5, hb5⟩; have Xc := X5; obtain ⟨vn5, vd5, rfl, xx1, xx2⟩ := Xc; obtain ⟨pn5, kn5, rfl⟩ := xx1.slice; obtain ⟨pd5, kd5, rfl⟩ := xx2.slice; clear xx1 xx2; have X5 := Lib.hid X5; have b5 : Below W9.heap.size W9 w5 := Below.trans (by first | exact b4 | exact b4.alloc b4.size _) (hb5.mono (by first | exact b4.size | (simp; have := b4.size; omega))); have h45 : Below w4.heap.size w4 w5 := Below.trans (by first | exact Below.refl _ _ | exact (Below.refl _ _).alloc (Nat.le_refl _) _) (hb5.mono (by simp)); have Z := Lib.hid (hx_keep (hx_last w4 _ _ rfl) hb5); have zl5 := hx_lt Z.out; have zz5 := b5.size; have : ¬ w5.heap.size = w.heap.size := (by omega); have : ¬ w5.heap.size = w.heap.size + 1 := (by omega); have : ¬ w5.heap.size = w3.heap.size := (by omega))
              | (go_at_call_of 9 (Value.agg #[Value.int IntKind.i64 1, Value.int IntKind.i64 nb, Value.int IntKind.i64 (QB : Int), Value.string ⟨#[]⟩]); refine (of_1 nb QB _ _ (by omega) (by omega) (by omega)).mono ?_; rintro e w5 ⟨v5, rfl, X5, hb5⟩; have Xc := X5; obtain ⟨vn5, vd5, rfl, xx1, xx2⟩ := Xc; obtain ⟨pn5, kn5, rfl⟩ := xx1.slice; obtain ⟨pd5, kd5, rfl⟩ := xx2.slice; clear xx1 xx2; have X5 := Lib.hid X5; have b5 : Below W9.heap.size W9 w5 := Below.trans (by first | exact b4 | exact b4.alloc b4.size _) (hb5.mono (by first | exact b4.size | (simp; have := b4.size; omega))); have h45 : Below w4.heap.size w4 w5 := Below.trans (by first | exact Below.refl _ _ | exact (Below.refl _ _).alloc (Nat.le_refl _) _) (hb5.mono (by simp)); have zz5 := b5.size; have : ¬ w5.heap.size = w.heap.size := (by omega); have : ¬ w5.heap.size = w.heap.size + 1 := (by omega); have : ¬ w5.heap.size = w3.heap.size := (by omega))
              | (go_at_call 11; refine (times_f HPR.out NTE.out (X4.out.keep (C := w4.heap.size) (by first | exact h45 | exact h45.alloc h45.size _) (Nat.le_refl _)) (X5.out.keep (C := w5.heap.size) (by first | exact Below.refl _ _ | exact (Below.refl _ _).alloc (Nat.le_refl _) _) (Nat.le_refl _)) (Nat.le_trans LA.out (by decide)) (Nat.le_trans LQA.out (by decide)) (Nat.le_trans LB.out (by decide)) (Nat.le_trans LQB.out (by decide))).mono ?_; rintro e w6 ⟨v6, rfl, X6, hb6⟩; have Xc := X6; obtain ⟨vn6, vd6, rfl, xx1, xx2⟩ := Xc; obtain ⟨pn6, kn6, rfl⟩ := xx1.slice; obtain ⟨pd6, kd6, rfl⟩ := xx2.slice; clear xx1 xx2; have X6 := Lib.hid X6; have b6 : Below W9.heap.size W9 w6 := Below.trans (by first | exact b5 | exact b5.alloc b5.size _) (hb6.mono (by first | exact b5.size | (simp; have := b5.size; omega))); have h56 : Below w5.heap.size w5 w6 := Below.trans (by first | exact Below.refl _ _ | exact (Below.refl _ _).alloc (Nat.le_refl _) _) (hb6.mono (by simp)); have Z := Lib.hid (hx_keep Z.out hb6); have zl6 := hx_lt Z.out; have cc := hcells Z.out; obtain ⟨z0, z1, z2, zf⟩ := cc; have zz6 := b6.size; have : ¬ w6.heap.size = w.heap.size := (by omega); have : w.heap.size < w6.heap.size := (by omega); have : ¬ w6.heap.size = w.heap.size + 1 := (by omega); have : w.heap.size + 1 < w6.heap.size := (by omega); have : ¬ w6.heap.size = w3.heap.size := (by omega); have : w3.heap.size < w6.heap.size := (by omega); have hL := H9'.out.keep b6; have AL := vcells' hL.a; have BL := vcells' hL.b; obtain ⟨i0, i1, i2, i3, i4⟩ := AL; obtain ⟨j0, j1, j2, j3, j4⟩ := BL; clear hL)
              | (go_at_call 11; refine (times_f HPR.out NTE.out (X4.out.keep (C := w4.heap.size) (by first | exact h45 | exact h45.alloc h45.size _) (Nat.le_refl _)) (X5.out.keep (C := w5.heap.size) (by first | exact Below.refl _ _ | exact (Below.refl _ _).alloc (Nat.le_refl _) _) (Nat.le_refl _)) (Nat.le_trans LA.out (by decide)) (Nat.le_trans LQA.out (by decide)) (Nat.le_trans LB.out (by decide)) (Nat.le_trans LQB.out (by decide))).mono ?_; rintro e w6 ⟨v6, rfl, X6, hb6⟩; have Xc := X6; obtain ⟨vn6, vd6, rfl, xx1, xx2⟩ := Xc; obtain ⟨pn6, kn6, rfl⟩ := xx1.slice; obtain ⟨pd6, kd6, rfl⟩ := xx2.slice; clear xx1 xx2; have X6 := Lib.hid X6; have b6 : Below W9.heap.size W9 w6 := Below.trans (by first | exact b5 | exact b5.alloc b5.size _) (hb6.mono (by first | exact b5.size | (simp; have := b5.size; omega))); have h56 : Below w5.heap.size w5 w6 := Below.trans (by first | exact Below.refl _ _ | exact (Below.refl _ _).alloc (Nat.le_refl _) _) (hb6.mono (by simp)); have Z := Lib.hid (hx_keep (hx_last w5 _ _ rfl) hb6); have zl6 := hx_lt Z.out; have cc := hcells Z.out; obtain ⟨z0, z1, z2, zf⟩ := cc; have zz6 := b6.size; have : ¬ w6.heap.size = w.heap.size := (by omega); have : w.heap.size < w6.heap.size := (by omega); have : ¬ w6.heap.size = w.heap.size + 1 := (by omega); have : w.heap.size + 1 < w6.heap.size := (by omega); have : ¬ w6.heap.size = w3.heap.size := (by omega); have : w3.heap.size < w6.heap.size := (by omega); have hL := H9'.out.keep b6; have AL := vcells' hL.a; have BL := vcells' hL.b; obtain ⟨i0, i1, i2, i3, i4⟩ := AL; obtain ⟨j0, j1, j2, j3, j4⟩ := BL; clear hL)
              | (go_at_call 11; refine (times_f HPR.out NTE.out (X4.out.keep (C := w4.heap.size) (by first | exact h45 | exact h45.alloc h45.size _) (Nat.le_refl _)) (X5.out.keep (C := w5.heap.size) (by first | exact Below.refl _ _ | exact (Below.refl _ _).alloc (Nat.le_refl _) _) (Nat.le_refl _)) (Nat.le_trans LA.out (by decide)) (Nat.le_trans LQA.out (by decide)) (Nat.le_trans LB.out (by decide)) (Nat.le_trans LQB.out (by decide))).mono ?_; rintro e w6 ⟨v6, rfl, X6, hb6⟩; have Xc := X6; obtain ⟨vn6, vd6, rfl, xx1, xx2⟩ := Xc; obtain ⟨pn6, kn6, rfl⟩ := xx1.slice; obtain ⟨pd6, kd6, rfl⟩ := xx2.slice; clear xx1 xx2; have X6 := Lib.hid X6; have b6 : Below W9.heap.size W9 w6 := Below.trans (by first | exact b5 | exact b5.alloc b5.size _) (hb6.mono (by first | exact b5.size | (simp; have := b5.size; omega))); have h56 : Below w5.heap.size w5 w6 := Below.trans (by first | exact Below.refl _ _ | exact (Below.refl _ _).alloc (Nat.le_refl _) _) (hb6.mono (by simp)); have zz6 := b6.size; have : ¬ w6.heap.size = w.heap.size := (by omega); have : w.heap.size < w6.heap.size := (by omega); have : ¬ w6.heap.size = w.heap.size + 1 := (by omega); have : w.heap.size + 1 < w6.heap.size := (by omega); have : ¬ w6.heap.size = w3.heap.size := (by omega); have : w3.heap.size < w6.heap.size := (by omega); have hL := H9'.out.keep b6; have AL := vcells' hL.a; have BL := vcells' hL.b; obtain ⟨i0, i1, i2, i3, i4⟩ := AL; obtain ⟨j0, j1, j2, j3, j4⟩ := BL; clear hL))
          all_goals
            go_wp2_with fail
            go_meet
            first
              | exact prel_last X6.out (by omega) b6
              | exact prel_set Z.out X6.out (by first | omega | (simp <;> omega)) (by first | omega | (simp <;> omega)) (by omega) b6
        case rest =>
          obtain ⟨W10, rfl⟩ : ∃ W10 : World, W10 = wc := ⟨_, rfl⟩
          obtain ⟨g, pn, pd, kn, kd, rfl, p0, p1, p2, xp, gl, gg, hB10⟩ := hcut
          have XP := Lib.hid xp
          have HW10 := Lib.hid (H9'.out.below.trans (hB10.mono H9'.out.below.size))
          have hc := T9.out
          have c0 := (hB10.cell (p := ⟨w3.heap.size, 0, none⟩) G9).trans hc.1
          have c1 := (hB10.cell (p := ⟨w3.heap.size, 1, none⟩) G9).trans hc.2.1
          have c2 := (hB10.cell (p := ⟨w3.heap.size, 2, none⟩) G9).trans hc.2.2.1
          have c3 := (hB10.cell (p := ⟨w3.heap.size, 3, none⟩) G9).trans hc.2.2.2.1
          have c4 := (hB10.cell (p := ⟨w3.heap.size, 4, none⟩) G9).trans hc.2.2.2.2.1
          have c5 := (hB10.cell (p := ⟨w3.heap.size, 5, none⟩) G9).trans hc.2.2.2.2.2
          clear a0 a1 a2 a3 af e0 e1 e2 e3 ef s0 s1 s2 s3 s4 s5 sf u0 u1 u2 u3 u4 u5 uf
          clear xp hc hB10 T9 H9'
          go_wp2_with fail
          go_at_call 7
          have fit := fit_1_in (P := P4) (Q := Q4) (big := 2) XP.out (Nat.mul_pos (Nat.pow_pos (by decide)) (Nat.pow_pos (by decide))) LP.out LD.out (by omega) (by omega) PR TC.out TF.out
          rw [NV0.out] at fit
          refine fit.mono ?_
          rintro e w11 ⟨rfl, hb11⟩
          have HW11 := Lib.hid (HW10.out.trans (hb11.mono HW10.out.size))
          have XP11 := Lib.hid (XP.out.keep hb11 (Nat.le_refl _))
          have p0' := (hb11.cell (p := ⟨g, 0, none⟩) gl).trans p0
          have p1' := (hb11.cell (p := ⟨g, 1, none⟩) gl).trans p1
          have p2' := (hb11.cell (p := ⟨g, 2, none⟩) gl).trans p2
          have gl' : g < w11.heap.size := Nat.lt_of_lt_of_le gl hb11.size
          have gn : ¬ w11.heap.size = g := by omega
          clear fit hb11 p0 p1 p2 gl c0 c1 c2 c3 c4 c5 XP
          go_wp2_with fail
          have HV := Lib.hid (hx_last w11 (valO 1 NV (Q4 : Int)) _ rfl)
          have b12 : Below w11.heap.size w11 (w11.alloc (valO 1 NV (Q4 : Int))) := (Below.refl _ w11).alloc (Nat.le_refl _) _
          have HW12 := Lib.hid (HW11.out.trans (b12.mono HW11.out.size))
          have XP12 := Lib.hid (XP11.out.keep b12 (Nat.le_refl _))
          have p0 := (b12.cell (p := ⟨g, 0, none⟩) gl').trans p0'
          have p1 := (b12.cell (p := ⟨g, 1, none⟩) gl').trans p1'
          have p2 := (b12.cell (p := ⟨g, 2, none⟩) gl').trans p2'
          have gl2 : g < (w11.alloc (valO 1 NV (Q4 : Int))).heap.size := by simp; omega
          have gv : w11.heap.size < (w11.alloc (valO 1 NV (Q4 : Int))).heap.size := by simp
          generalize (w11.alloc (valO 1 NV (Q4 : Int))) = W12 at *
          clear b12 p0' p1' p2' XP11 HW11 HW10
          have hv := vcells' HV.out
          obtain ⟨m0, m1, m2, m3, mf⟩ := hv
          have OV : ∀ W, Calls Tryz.prog 9 #[valV 1 NV (Q4 : Int) ⟨#[]⟩] W (GivesX W NT PR (2 ^ Q4)) := fun W => by
            have h := of_1 NV Q4 ⟨#[]⟩ W (by have := NV3.out; omega) (by have := NV3.out; omega) (by omega)
            rw [NV1.out, NV2.out] at h
            exact h
          have HOV := Lib.hid OV
          clear OV
          go_region_held3 (fun w' => (w'.cell? ⟨w11.heap.size, 0, none⟩ = some (.int .i64 1) ∧ w'.cell? ⟨w11.heap.size, 1, none⟩ = some (.int .i64 NV) ∧ w'.cell? ⟨w11.heap.size, 2, none⟩ = some (.int .i64 (Q4 : Int)) ∧ w'.cell? ⟨w11.heap.size, 3, none⟩ = some (.string ⟨#[]⟩)) ∧
              (w'.cell? ⟨g, 0, none⟩ = some (.bool NT) ∧ w'.cell? ⟨g, 1, none⟩ = some (.slice pn (digs PR).length kn) ∧ w'.cell? ⟨g, 2, none⟩ = some (.slice pd (digs (2 ^ QA * 2 ^ QB)).length kd)))
            (first | go_keep | (go_split_ands; refine ⟨⟨?_, ?_, ?_, ?_⟩, ?_, ?_, ?_⟩ <;> first | assumption | (rw [b14.cell (by simp <;> omega)]; assumption) | (rw [b13.cell (by simp <;> omega)]; assumption)))
            (first
              | (go_at_call 9; refine (HOV.out _).mono ?_; rintro e w13 ⟨v13, rfl, X13, hb13⟩; have b13 := undrew hb13; have Xc := X13; obtain ⟨vna, vda, rfl, xx1, xx2⟩ := Xc; obtain ⟨pna, kna, rfl⟩ := xx1.slice; obtain ⟨pda, kda, rfl⟩ := xx2.slice; clear xx1 xx2 hb13; have X13 := Lib.hid X13)
              | (go_at_call 12; refine (order_same X13.out (XP12.out.keep b13 (Nat.le_refl _)) LP.out LQ4.out LP.out LD.out (Nat.pow_pos (by decide)) (Nat.mul_pos (Nat.pow_pos (by decide)) (Nat.pow_pos (by decide))) NTP.out Iff.rfl HEQ.out).mono ?_; rintro e w14 ⟨rfl, hb14⟩; have b14 := b13.trans (hb14.mono b13.size); clear hb14))
          have HW14 := Lib.hid (HW12.out.trans (b14.mono HW12.out.size))
          go_wp2_with fail
          go_at_call 5
          refine (awake_2 _).mono ?_
          rintro e wz ⟨rfl, hbz⟩
          go_wp2_with fail
          go_ret
          exact ⟨rfl, HW14.out.trans (hbz.mono HW14.out.size)⟩
      · go_wp2_with fail
        go_at_call 5
        refine (awake_2 _).mono ?_
        rintro e wz ⟨rfl, hbz⟩
        go_wp2_with fail
        go_ret
        have b8 := (((((H8.out.below.setCell (p := ⟨w3.heap.size, 0, none⟩) (by simp <;> omega) (.int .i64 1)).setCell (p := ⟨w3.heap.size, 1, none⟩) (by simp <;> omega) (.int .i64 (P4 : Int))).setCell (p := ⟨w3.heap.size, 2, none⟩) (by simp <;> omega) (.int .i64 (Q4 : Int))).setCell (p := ⟨w3.heap.size, 3, none⟩) (by simp <;> omega) (.int .i64 0)).setCell (p := ⟨w3.heap.size, 4, none⟩) (by simp <;> omega) (.bool false)).setCell (p := ⟨w3.heap.size, 5, none⟩) (by simp <;> omega) (.string ⟨#[]⟩)
        exact ⟨rfl, b8.trans (hbz.mono b8.size)⟩
    · go_wp2_with fail
      go_at_call 5
      refine (awake_2 _).mono ?_
      rintro e wz ⟨rfl, hbz⟩
      go_wp2_with fail
      go_ret
      have b8 := (((((H8.out.below.setCell (p := ⟨w3.heap.size, 0, none⟩) (by simp <;> omega) (.int .i64 1)).setCell (p := ⟨w3.heap.size, 1, none⟩) (by simp <;> omega) (.int .i64 (P4 : Int))).setCell (p := ⟨w3.heap.size, 2, none⟩) (by simp <;> omega) (.int .i64 (Q4 : Int))).setCell (p := ⟨w3.heap.size, 3, none⟩) (by simp <;> omega) (.int .i64 0)).setCell (p := ⟨w3.heap.size, 4, none⟩) (by simp <;> omega) (.bool false)).setCell (p := ⟨w3.heap.size, 5, none⟩) (by simp <;> omega) (.string ⟨#[]⟩)
      exact ⟨rfl, b8.trans (hbz.mono b8.size)⟩
end Go.Proofs.YtbjnglfapgpncaaGreatDoor
