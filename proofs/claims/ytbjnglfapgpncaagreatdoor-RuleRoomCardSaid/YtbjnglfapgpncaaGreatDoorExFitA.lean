/- ironbarkref01.FitTo, of a fixed type. -/
import Derived.Test.YtbjnglfapgpncaaGreatDoorExFit0
namespace Go.Proofs.YtbjnglfapgpncaaGreatDoor
open Go.RowKit

set_option maxRecDepth 100000 in
set_option maxHeartbeats 8000000 in
theorem fit_1_in {B P Q : Nat} {big : Int} {w : World} {u : Value} {neg : Bool} {num den : Nat} (hx : XArg B w u neg num den) (hd : 0 < den) (ln : (digs num).length ≤ 1000) (ld : (digs den).length ≤ 1000)
    (hP : P ≤ 31) (hQ : Q ≤ 62) (q : Nat) (hq : num * 2 ^ Q / den = q) (hfit : q < 2 ^ P) :
    Calls Tryz.prog 7 #[u, tyV 1 (P : Int) (Q : Int) 0 false ⟨#[]⟩, .int .i64 big] w fun e w' => e = .returned (.tuple #[valV 1 (sgn neg (q % 2 ^ P)) (Q : Int) ⟨#[]⟩, .int .i64 0]) ∧ Below w.heap.size w w' := by
  obtain ⟨vn, vd, rfl, Dn, Dd⟩ := hx
  obtain ⟨pn, kn, rfl⟩ := Dn.slice
  obtain ⟨pd, kd, rfl⟩ := Dd.slice
  have hlq : (digs q).length ≤ 10000 := by
    rw [← hq]
    have L1 := digs_len_mul num (2 ^ Q)
    have L2 := digs_len_pow2 Q
    exact Nat.le_trans (digs_len_mono (Nat.div_le_self _ _)) (by omega)
  have HQ := Lib.hid hq
  clear hq
  have q1 := s2
  have q2 := s2'
  have q3 := l2
  have q4 := l3
  go_enter Tryz.func7, Tryz.ntmps7
  go_wp2
  obtain ⟨HX, HT, HV, hz0, hw0⟩ := boxed3 (w := w) (A := .cells #[.bool neg, .slice pn (digs num).length kn, .slice pd (digs den).length kd] 35) (B := .cells #[.int .i64 1, .int .i64 (P : Int), .int .i64 (Q : Int), .int .i64 0, .bool false, .string ⟨#[]⟩] 25) (C := .cells #[.int .i64 0, .int .i64 0, .int .i64 0, .string ⟨#[]⟩] 23)
  generalize (((w.alloc (.cells #[.bool neg, .slice pn (digs num).length kn, .slice pd (digs den).length kd] 35)).alloc (.cells #[.int .i64 1, .int .i64 (P : Int), .int .i64 (Q : Int), .int .i64 0, .bool false, .string ⟨#[]⟩] 25)).alloc (.cells #[.int .i64 0, .int .i64 0, .int .i64 0, .string ⟨#[]⟩] 23)) = W0 at *
  have DN := Lib.hid (Dn.keep hw0 (Nat.le_refl _))
  have DD := Lib.hid (Dd.keep hw0 (Nat.le_refl _))
  obtain ⟨x0, x1, x2, xf⟩ := hcells HX
  obtain ⟨t0, t1, t2, t3, t4, t5, tf⟩ := tcells HT
  have KX := Lib.hid HX
  have KT := Lib.hid HT
  have KV := Lib.hid HV
  have FIT := Lib.hid hfit
  have hdd := Lib.hid hd
  have L1 := digs_len_mul num (2 ^ Q)
  have L2 := digs_len_pow2 Q
  clear HX HT HV Dn Dd hfit hd
  go_region_held3 (fun w' => (w'.cell? ⟨w.heap.size, 1, none⟩ = some (.slice pn (digs num).length kn) ∧ w'.cell? ⟨w.heap.size, 2, none⟩ = some (.slice pd (digs den).length kd)) ∧
      (w'.cell? ⟨w.heap.size + 1, 0, none⟩ = some (.int .i64 1) ∧ w'.cell? ⟨w.heap.size + 1, 1, none⟩ = some (.int .i64 (P : Int)) ∧ w'.cell? ⟨w.heap.size + 1, 2, none⟩ = some (.int .i64 (Q : Int)) ∧ w'.cell? ⟨w.heap.size + 1, 3, none⟩ = some (.int .i64 0) ∧ w'.cell? ⟨w.heap.size + 1, 4, none⟩ = some (.bool false) ∧ w'.cell? ⟨w.heap.size + 1, 5, none⟩ = some (.string ⟨#[]⟩)))
    (first | go_keep | (go_split_ands; refine ⟨⟨?_, ?_⟩, ?_, ?_, ?_, ?_, ?_, ?_⟩ <;> first | assumption | (rw [b4.cell (by simp <;> omega)]; assumption) | (rw [b3.cell (by simp <;> omega)]; assumption) | (rw [b2.cell (by simp <;> omega)]; assumption) | (rw [b1.cell (by simp <;> omega)]; assumption)))
    (first
      | (go_at_call 16; refine (base_1 _ _ _ _ _ _).mono ?_; rintro e w1 ⟨rfl, hb1⟩; have b1 := undrew hb1; clear hb1)
      | (go_at_call 15; refine (pow2_d Q _ (by omega)).mono ?_; rintro e w2 ⟨v2, rfl, D2, hb2⟩; obtain ⟨p2, k2, rfl⟩ := D2.slice; have b2 := b1.trans (hb2.mono b1.size); have D2 := Lib.hid D2; clear hb2; have M2 := Lib.hid (mul_d (DN.out.keep b2 (Nat.le_refl _)) D2.out (by omega) (by omega)))
      | (go_at_call 26; refine M2.out.mono ?_; rintro e w3 ⟨v3, rfl, D3, hb3⟩; obtain ⟨p3, k3, rfl⟩ := D3.slice; have b3 := b2.trans (hb3.mono b2.size); have D3 := Lib.hid D3; clear hb3; have v3 := div_d D3.out (DD.out.keep b3 (Nat.le_refl _)) hdd.out (by omega) (by omega); rw [HQ.out] at v3; have V3 := Lib.hid v3; clear v3)
      | (go_at_call 25; refine V3.out.mono ?_; rintro e w4 ⟨v4, u4, rfl, D4, E4, hb4⟩; obtain ⟨p4, k4, rfl⟩ := D4.slice; obtain ⟨r4, l4, rfl⟩ := E4.slice; have b4 := b3.trans (hb4.mono b3.size); have D4 := Lib.hid D4; clear hb4 E4))
  have L3 := digs_len_pow2 P
  have hlow : (digs (q % 2 ^ P)).length ≤ 18 := by
    refine digs_length _ _ (Nat.lt_of_lt_of_le (Nat.mod_lt _ (Nat.pow_pos (by decide))) (Nat.le_trans (Nat.pow_le_pow_right (by decide) hP) (by decide)))
  have hw4 := hw0.trans (b4.mono hw0.size)
  have hz4 : w.heap.size + 1 + 1 < w4.heap.size := by have := b4.size; omega
  have KX4 := Lib.hid (hx_keep KX.out b4)
  have KT4 := Lib.hid (hx_keep KT.out b4)
  have KV4 := Lib.hid (hx_keep KV.out b4)
  clear x0 x1 x2 xf t0 t1 t2 t3 t4 t5 tf b1 b2 b3 hz0 hw0 KX KT KV M2 V3 D2 D3 DN DD hdd
  obtain ⟨x0, x1, x2, xf⟩ := hcells KX4.out
  obtain ⟨t0, t1, t2, t3, t4, t5, tf⟩ := tcells KT4.out
  clear b4
  go_wp2
  go_region_held3 (fun w' => (w'.cell? ⟨w.heap.size + 1, 0, none⟩ = some (.int .i64 1) ∧ w'.cell? ⟨w.heap.size + 1, 1, none⟩ = some (.int .i64 (P : Int)) ∧ w'.cell? ⟨w.heap.size + 1, 2, none⟩ = some (.int .i64 (Q : Int)) ∧ w'.cell? ⟨w.heap.size + 1, 3, none⟩ = some (.int .i64 0) ∧ w'.cell? ⟨w.heap.size + 1, 4, none⟩ = some (.bool false) ∧ w'.cell? ⟨w.heap.size + 1, 5, none⟩ = some (.string ⟨#[]⟩)))
    (first | go_keep | (go_split_ands; refine ⟨?_, ?_, ?_, ?_, ?_, ?_⟩ <;> first | assumption | (rw [b7.cell (by simp <;> omega)]; assumption) | (rw [b6.cell (by simp <;> omega)]; assumption) | (rw [b5.cell (by simp <;> omega)]; assumption)))
    (first
      | (go_at_call 16; refine (base_1 _ _ _ _ _ _).mono ?_; rintro e w5 ⟨rfl, hb5⟩; have b5 := undrew hb5; clear hb5)
      | (go_at_call 15; refine (pow2_d P _ (by omega)).mono ?_; rintro e w6 ⟨v6, rfl, D6, hb6⟩; obtain ⟨p6, k6, rfl⟩ := D6.slice; have b6 := b5.trans (hb6.mono b5.size); have D6 := Lib.hid D6; clear hb6; have V6 := Lib.hid (div_d (D4.out.keep b6 (Nat.le_refl _)) D6.out (Nat.pow_pos (by decide)) (by omega) (by omega)))
      | (go_at_call 25; refine V6.out.mono ?_; rintro e w7 ⟨v7, u7, rfl, D7, E7, hb7⟩; obtain ⟨p7, k7, rfl⟩ := D7.slice; obtain ⟨r7, l7, rfl⟩ := E7.slice; have b7 := b6.trans (hb7.mono b6.size); have E7 := Lib.hid E7; clear hb7 D7))
  have hw7 := hw4.trans (b7.mono hw4.size)
  have hz7 : w.heap.size + 1 + 1 < w7.heap.size := by have := b7.size; omega
  have KX7 := Lib.hid (hx_keep KX4.out b7)
  have KT7 := Lib.hid (hx_keep KT4.out b7)
  have KV7 := Lib.hid (hx_keep KV4.out b7)
  have D47 := Lib.hid (D4.out.keep b7 (Nat.le_refl _))
  clear x0 x1 x2 xf t0 t1 t2 t3 t4 t5 tf b5 b6 hz4 hw4 KX4 KT4 KV4 V6 D6 D4
  obtain ⟨x0, x1, x2, xf⟩ := hcells KX7.out
  obtain ⟨t0, t1, t2, t3, t4, t5, tf⟩ := tcells KT7.out
  clear b7
  go_wp2
  go_region_held3 (fun w' => w'.cell? ⟨w.heap.size, 0, none⟩ = some (.bool neg) ∧ w'.cell? ⟨w.heap.size + 1, 0, none⟩ = some (.int .i64 1) ∧ w'.cell? ⟨w.heap.size + 1, 2, none⟩ = some (.int .i64 (Q : Int)))
    (first | go_keep | (go_split_ands; refine ⟨?_, ?_, ?_⟩ <;> assumption))
    (first
      | (go_at_call 27; refine (signed_d neg (E7.out.keep (C := w7.heap.size) (by go_grown) (Nat.le_refl _)) hlow).mono ?_; rintro e w8 ⟨rfl, rfl⟩))
  all_goals
    have hw8 : Below w.heap.size w ((w7.alloc (.cells #[.int .i64 1, .int .i64 (sgn neg (q % 2 ^ P)), .int .i64 (Q : Int), .string ⟨#[]⟩] 23)).drew) := (hw7.alloc hw7.size _).drew
    have HV8 : ((w7.alloc (.cells #[.int .i64 1, .int .i64 (sgn neg (q % 2 ^ P)), .int .i64 (Q : Int), .string ⟨#[]⟩] 23)).drew).heap[w7.heap.size]? = some (.cells #[.int .i64 1, .int .i64 (sgn neg (q % 2 ^ P)), .int .i64 (Q : Int), .string ⟨#[]⟩] 23) := hx_last w7 _ _ rfl
    have b8 : Below w7.heap.size w7 ((w7.alloc (.cells #[.int .i64 1, .int .i64 (sgn neg (q % 2 ^ P)), .int .i64 (Q : Int), .string ⟨#[]⟩] 23)).drew) := ((Below.refl _ w7).alloc (Nat.le_refl _) _).drew
    generalize ((w7.alloc (.cells #[.int .i64 1, .int .i64 (sgn neg (q % 2 ^ P)), .int .i64 (Q : Int), .string ⟨#[]⟩] 23)).drew) = w8 at *
    have hz8 : w.heap.size + 1 + 1 < w8.heap.size := by have := b8.size; omega
    have KT8 := Lib.hid (hx_keep KT7.out b8)
    have KV8 := Lib.hid (hx_keep KV7.out b8)
    have D48 := Lib.hid (D47.out.keep b8 (Nat.le_refl _))
    clear x0 x1 x2 xf t0 t1 t2 t3 t4 t5 tf KX7 KT7 KV7 D47 b8
    obtain ⟨t0, t1, t2, t3, t4, t5, tf⟩ := tcells KT8.out
    have K8 := Lib.hid HV8
    clear HV8
    go_wp2
    go_region_held3 (fun w' => (w'.cell? ⟨w.heap.size + 1, 0, none⟩ = some (.int .i64 1) ∧ w'.cell? ⟨w.heap.size + 1, 1, none⟩ = some (.int .i64 (P : Int)) ∧ w'.cell? ⟨w.heap.size + 1, 2, none⟩ = some (.int .i64 (Q : Int)) ∧ w'.cell? ⟨w.heap.size + 1, 3, none⟩ = some (.int .i64 0) ∧ w'.cell? ⟨w.heap.size + 1, 4, none⟩ = some (.bool false) ∧ w'.cell? ⟨w.heap.size + 1, 5, none⟩ = some (.string ⟨#[]⟩)))
      (first | go_keep | (go_split_ands; refine ⟨?_, ?_, ?_, ?_, ?_, ?_⟩ <;> first | assumption | (rw [b11.cell (by simp <;> omega)]; assumption) | (rw [b10.cell (by simp <;> omega)]; assumption) | (rw [b9.cell (by simp <;> omega)]; assumption)))
      (first
        | (go_at_call 16; refine (base_1 _ _ _ _ _ _).mono ?_; rintro e w9 ⟨rfl, hb9⟩; have b9 := undrew hb9; clear hb9)
        | (go_at_call 15; refine (pow2_d P _ (by omega)).mono ?_; rintro e w10 ⟨v10, rfl, D10, hb10⟩; obtain ⟨p10, k10, rfl⟩ := D10.slice; have b10 := b9.trans (hb10.mono b9.size); have D10 := Lib.hid D10; clear hb10; have C10 := Lib.hid (cmp_d (D48.out.keep b10 (Nat.le_refl _)) D10.out (by omega) (by omega)))
        | (go_at_call 17; refine C10.out.mono ?_; rintro e w11 ⟨rfl, hb11⟩; have b11 := b10.trans (hb11.mono b10.size); clear hb11))
    have hord : ¬ 0 ≤ ord q (2 ^ P) := ord_not FIT.out
    obtain ⟨v0, v1, v2, v3, vf⟩ := vcells' (hx_keep K8.out b11)
    obtain ⟨r0, r1, r2, r3, rf⟩ := vcells' (hx_keep KV8.out b11)
    have hz11 := b11.size
    have hw11 := hw8.trans (b11.mono hw8.size)
    clear t0 t1 t2 t3 t4 t5 tf b9 b10 b11
    go_wp2
    refine bodyPost_ret (v := .tuple #[valV 1 (sgn neg (q % 2 ^ P)) (Q : Int) ⟨#[]⟩, .int .i64 0]) (by simp [results, Tryz.results7, go_sem, r0, r1, r2, r3]) rfl ⟨rfl, ?_⟩
    exact (((hw11.setCell (by simp <;> omega) _).setCell (by simp <;> omega) _).setCell (by simp <;> omega) _).setCell (by simp <;> omega) _
end Go.Proofs.YtbjnglfapgpncaaGreatDoor
