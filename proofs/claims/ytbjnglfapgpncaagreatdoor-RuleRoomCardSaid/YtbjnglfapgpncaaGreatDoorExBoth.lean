/- ironbarkref01.Both: a sum of two exact numbers, of any signs. ironbarkref01.Order, of two numbers that are the same one. -/
import Derived.Test.YtbjnglfapgpncaaGreatDoorExBothA
import Derived.Test.YtbjnglfapgpncaaGreatDoorExBothB
import Derived.Test.YtbjnglfapgpncaaGreatDoorExTurn
import Derived.Deep.DeepCutAuto
namespace Go.Proofs.YtbjnglfapgpncaaGreatDoor
open Go.RowKit

theorem both_d {B C : Nat} {w : World} {u v : Value} {na nb : Bool} {a b c d : Nat} (hx : XArg B w u na a b) (hy : XArg C w v nb c d)
    (la : (digs a).length ≤ 1000) (lb : (digs b).length ≤ 1000) (lc : (digs c).length ≤ 1000) (ld : (digs d).length ≤ 1000)
    (hb : 0 < b) (hd : 0 < d) (hna : na = true → 0 < a) (hnb : nb = true → 0 < c) :
    Calls Tryz.prog 8 #[u, v] w (GivesX w (bothNeg na nb (a * d) (c * b)) (bothNum na nb (a * d) (c * b)) (b * d)) := by
  cases na <;> cases nb
  · (rw [show bothNeg false false (a * d) (c * b) = false by (unfold bothNeg; rw [if_pos rfl]; rfl), show bothNum false false (a * d) (c * b) = a * d + c * b by (unfold bothNum; rw [if_pos rfl])])
    exact both_ff hx hy la lb lc ld
  · have hC : 0 < c * b := Nat.mul_pos (hnb rfl) hb
    by_cases h : c * b ≤ a * d
    · (rw [show bothNeg false true (a * d) (c * b) = false by (unfold bothNeg; rw [if_neg (show ¬ false = true by decide), if_pos h]; rfl), show bothNum false true (a * d) (c * b) = a * d - c * b by (unfold bothNum; rw [if_neg (show ¬ false = true by decide), if_pos h])])
      exact both_ft_ge hx hy la lb lc ld h (by omega)
    · (rw [show bothNeg false true (a * d) (c * b) = true by (unfold bothNeg; rw [if_neg (show ¬ false = true by decide), if_neg h]), show bothNum false true (a * d) (c * b) = c * b - a * d by (unfold bothNum; rw [if_neg (show ¬ false = true by decide), if_neg h])])
      exact both_ft_lt hx hy la lb lc ld (by omega)
  · have hA : 0 < a * d := Nat.mul_pos (hna rfl) hd
    by_cases h : c * b ≤ a * d
    · by_cases hp : 0 < a * d - c * b
      · (rw [show bothNeg true false (a * d) (c * b) = true by (unfold bothNeg; rw [if_neg (show ¬ true = false by decide), if_pos h, decide_eq_true hp]; rfl), show bothNum true false (a * d) (c * b) = a * d - c * b by (unfold bothNum; rw [if_neg (show ¬ true = false by decide), if_pos h])])
        exact both_tf_ge1 hx hy la lb lc ld h hA hp
      · (rw [show bothNeg true false (a * d) (c * b) = false by (unfold bothNeg; rw [if_neg (show ¬ true = false by decide), if_pos h, decide_eq_false hp]; rfl), show bothNum true false (a * d) (c * b) = a * d - c * b by (unfold bothNum; rw [if_neg (show ¬ true = false by decide), if_pos h])])
        exact both_tf_ge0 hx hy la lb lc ld h hA hp
    · (rw [show bothNeg true false (a * d) (c * b) = false by (unfold bothNeg; rw [if_neg (show ¬ true = false by decide), if_neg h]), show bothNum true false (a * d) (c * b) = c * b - a * d by (unfold bothNum; rw [if_neg (show ¬ true = false by decide), if_neg h])])
      exact both_tf_lt hx hy la lb lc ld (by omega)
  · by_cases hp : 0 < a * d + c * b
    · (rw [show bothNeg true true (a * d) (c * b) = true by (unfold bothNeg; rw [if_pos rfl, decide_eq_true hp]; rfl), show bothNum true true (a * d) (c * b) = a * d + c * b by (unfold bothNum; rw [if_pos rfl])])
      exact both_tt1 hx hy la lb lc ld hp
    · (rw [show bothNeg true true (a * d) (c * b) = false by (unfold bothNeg; rw [if_pos rfl, decide_eq_false hp]; rfl), show bothNum true true (a * d) (c * b) = a * d + c * b by (unfold bothNum; rw [if_pos rfl])])
      exact both_tt0 hx hy la lb lc ld hp
end Go.Proofs.YtbjnglfapgpncaaGreatDoor
namespace Go.Proofs.YtbjnglfapgpncaaGreatDoor
open Go.RowKit

theorem bothNum_self (na : Bool) (A : Nat) (h : na = true → 0 < A) : bothNum na (!na && decide (0 < A)) A A = 0 := by
  unfold bothNum
  rcases Nat.eq_zero_or_pos A with rfl | hA
  · cases na
    · simp
    · exact absurd (h rfl) (by decide)
  · rw [decide_eq_true hA]
    cases na <;> simp

set_option maxRecDepth 100000 in
set_option maxHeartbeats 4000000 in
theorem order_same {B C : Nat} {w : World} {u v : Value} {na : Bool} {a b c d : Nat} (hx : XArg B w u na a b) (hy : XArg C w v na c d)
    (la : (digs a).length ≤ 1000) (lb : (digs b).length ≤ 1000) (lc : (digs c).length ≤ 1000) (ld : (digs d).length ≤ 1000)
    (hb : 0 < b) (hd : 0 < d) (hna : na = true → 0 < a) (hnc : 0 < c ↔ 0 < a) (heq : c * b = a * d) :
    Calls Tryz.prog 12 #[u, v] w fun e w' => e = .returned (.int .i64 0) ∧ Below w.heap.size w w' := by
  obtain ⟨va, vb, rfl, Da, Db⟩ := hx
  obtain ⟨vc, vd, rfl, Dc, Dd⟩ := hy
  obtain ⟨pa, ka, rfl⟩ := Da.slice
  obtain ⟨pb, kb, rfl⟩ := Db.slice
  obtain ⟨pc, kc, rfl⟩ := Dc.slice
  obtain ⟨pd, kd, rfl⟩ := Dd.slice
  have q1 := s2
  have q2 := s2'
  have q3 := l2
  have q4 := l3
  go_enter Tryz.func12, Tryz.ntmps12
  go_upto_region 1 with fail
  have HX : ((w.alloc (.cells #[.bool na, .slice pa (digs a).length ka, .slice pb (digs b).length kb] 35)).alloc (.cells #[.bool na, .slice pc (digs c).length kc, .slice pd (digs d).length kd] 35)).heap[w.heap.size]? = some (.cells #[.bool na, .slice pa (digs a).length ka, .slice pb (digs b).length kb] 35) := hx_old (hx_last w _ _ rfl)
  have HY : ((w.alloc (.cells #[.bool na, .slice pa (digs a).length ka, .slice pb (digs b).length kb] 35)).alloc (.cells #[.bool na, .slice pc (digs c).length kc, .slice pd (digs d).length kd] 35)).heap[w.heap.size + 1]? = some (.cells #[.bool na, .slice pc (digs c).length kc, .slice pd (digs d).length kd] 35) := hx_last _ _ _ (by simp)
  have hw0 : Below w.heap.size w ((w.alloc (.cells #[.bool na, .slice pa (digs a).length ka, .slice pb (digs b).length kb] 35)).alloc (.cells #[.bool na, .slice pc (digs c).length kc, .slice pd (digs d).length kd] 35)) := ((Below.refl _ w).alloc (Nat.le_refl _) _).alloc (by simp) _
  generalize ((w.alloc (.cells #[.bool na, .slice pa (digs a).length ka, .slice pb (digs b).length kb] 35)).alloc (.cells #[.bool na, .slice pc (digs c).length kc, .slice pd (digs d).length kd] 35)) = W0 at *
  have hz0 : w.heap.size + 1 < W0.heap.size := hx_lt HY
  have XA : Hid (XArg B W0 (exV na (.slice pa (digs a).length ka) (.slice pb (digs b).length kb)) na a b) := Lib.hid ⟨_, _, rfl, Da.keep hw0 (Nat.le_refl _), Db.keep hw0 (Nat.le_refl _)⟩
  have YA : Hid (XArg C W0 (exV na (.slice pc (digs c).length kc) (.slice pd (digs d).length kd)) na c d) := Lib.hid ⟨_, _, rfl, Dc.keep hw0 (Nat.le_refl _), Dd.keep hw0 (Nat.le_refl _)⟩
  obtain ⟨x0, x1, x2, xf⟩ := hcells HX
  obtain ⟨y0, y1, y2, yf⟩ := hcells HY
  have KX := Lib.hid HX
  have KY := Lib.hid HY
  have e1 : ¬ W0.heap.size = w.heap.size := by omega
  have e2 : ¬ w.heap.size = W0.heap.size := by omega
  have e3 : ¬ W0.heap.size = w.heap.size + 1 := by omega
  have e4 : ¬ w.heap.size + 1 = W0.heap.size := by omega
  have e5 : w.heap.size < W0.heap.size := by omega
  have ec : decide (0 < c) = decide (0 < a * d) := by
    by_cases h : 0 < a
    · rw [decide_eq_true (hnc.2 h), decide_eq_true (Nat.mul_pos h hd)]
    · have h0 : a = 0 := by omega
      rw [decide_eq_false (fun hh => h (hnc.1 hh)), decide_eq_false (by rw [h0]; simp)]
  have EL : Hid ((digs (bothNum na (!na && decide (0 < c)) (a * d) (c * b))).length = 0) := Lib.hid (by rw [ec, heq, bothNum_self na (a * d) (fun h => Nat.mul_pos (hna h) hd), digs_zero]; rfl)
  clear ec
  have HP := Lib.hid hb
  have HD := Lib.hid hd
  have HN := Lib.hid hna
  have HC := Lib.hid hnc
  have HE := Lib.hid heq
  clear HX HY Da Db Dc Dd hb hd hna hnc heq
  go_cut [5] (fun s5 wx => ∃ (g k L : Nat) (p : Option Addr), s5 = .pointer (some ⟨g, 0, none⟩) ∧ L = 0 ∧ wx.cell? ⟨g, 1, none⟩ = some (.slice p L k) ∧ Below w.heap.size w wx)
  case first =>
    go_region_held3 (fun w' => (w'.cell? ⟨w.heap.size, 0, none⟩ = some (.bool na) ∧ w'.cell? ⟨w.heap.size, 1, none⟩ = some (.slice pa (digs a).length ka) ∧ w'.cell? ⟨w.heap.size, 2, none⟩ = some (.slice pb (digs b).length kb)) ∧
        (w'.cell? ⟨w.heap.size + 1, 0, none⟩ = some (.bool na) ∧ w'.cell? ⟨w.heap.size + 1, 1, none⟩ = some (.slice pc (digs c).length kc) ∧ w'.cell? ⟨w.heap.size + 1, 2, none⟩ = some (.slice pd (digs d).length kd)))
      (first | go_keep | (go_split_ands; refine ⟨⟨?_, ?_, ?_⟩, ?_, ?_, ?_⟩ <;> first | assumption | (rw [b2.cell (by simp <;> omega)]; assumption) | (rw [b1.cell (by simp <;> omega)]; assumption)))
      (first
        | (go_at_call 10; refine (turn_d (YA.out.keep (C := W0.heap.size) (by go_grown) (Nat.le_refl _))).mono ?_; rintro e w1 ⟨v1, rfl, ⟨vn, vd, rfl, T1, T2⟩, hb1⟩; have Z1 := Lib.hid (hx_keep (hx_last W0 _ _ rfl) (undrew hb1)); have b1 : Below W0.heap.size W0 w1 := Below.trans (by go_grown) (hb1.mono (by simp)); obtain ⟨pn, kn, rfl⟩ := T1.slice; obtain ⟨pm, km, rfl⟩ := T2.slice; have TT : Hid (XArg C w1 (exV (!na && decide (0 < c)) (.slice pn (digs c).length kn) (.slice pm (digs d).length km)) (!na && decide (0 < c)) c d) := Lib.hid ⟨_, _, rfl, T1, T2⟩; clear T1 T2 hb1; have z1 := b1.size; have f1 : ¬ w1.heap.size = w.heap.size := (by omega); have f2 : ¬ w.heap.size = w1.heap.size := (by omega); have f3 : ¬ w1.heap.size = w.heap.size + 1 := (by omega); have f4 : ¬ w.heap.size + 1 = w1.heap.size := (by omega); have f5 : w.heap.size < w1.heap.size := (by omega); have f6 : w.heap.size + 1 < w1.heap.size := (by omega))
        | (go_at_call 10; refine (turn_d (YA.out.keep (C := W0.heap.size) (by go_grown) (Nat.le_refl _))).mono ?_; rintro e w1 ⟨v1, rfl, ⟨vn, vd, rfl, T1, T2⟩, hb1⟩; have b1 : Below W0.heap.size W0 w1 := Below.trans (by go_grown) (hb1.mono (by simp)); obtain ⟨pn, kn, rfl⟩ := T1.slice; obtain ⟨pm, km, rfl⟩ := T2.slice; have TT : Hid (XArg C w1 (exV (!na && decide (0 < c)) (.slice pn (digs c).length kn) (.slice pm (digs d).length km)) (!na && decide (0 < c)) c d) := Lib.hid ⟨_, _, rfl, T1, T2⟩; clear T1 T2 hb1; have z1 := b1.size; have f1 : ¬ w1.heap.size = w.heap.size := (by omega); have f2 : ¬ w.heap.size = w1.heap.size := (by omega); have f3 : ¬ w1.heap.size = w.heap.size + 1 := (by omega); have f4 : ¬ w.heap.size + 1 = w1.heap.size := (by omega); have f5 : w.heap.size < w1.heap.size := (by omega); have f6 : w.heap.size + 1 < w1.heap.size := (by omega))
        | (go_at_call 8; refine (both_d (XA.out.keep (C := W0.heap.size) (by first | exact b1 | exact b1.alloc b1.size _) (Nat.le_refl _)) (TT.out.keep (C := w1.heap.size) (by go_grown) (Nat.le_refl _)) la lb lc ld HP.out HD.out HN.out (fun h => by simp at h; omega)).mono ?_; rintro e w2 ⟨v2, rfl, ⟨vn2, vd2, rfl, R2, R3⟩, hb2⟩; have cc := hcells (hx_keep Z1.out hb2); obtain ⟨c0, c1, c2, cf⟩ := cc; obtain ⟨p2, k2, rfl⟩ := R2.slice; obtain ⟨p3, k3, rfl⟩ := R3.slice; have b2 : Below W0.heap.size W0 w2 := Below.trans (by first | exact b1 | exact b1.alloc b1.size _) (hb2.mono (by first | exact b1.size | (simp; have := b1.size; omega))); have z2 := b2.size; have h1 : w.heap.size < w2.heap.size := (by omega); have h2 : w.heap.size + 1 < w2.heap.size := (by omega); have X2 := hcells (hx_keep KX.out b2); have Y2 := hcells (hx_keep KY.out b2); obtain ⟨i0, i1, i2, i3⟩ := X2; obtain ⟨j0, j1, j2, j3⟩ := Y2)
        | (go_at_call 8; refine (both_d (XA.out.keep (C := W0.heap.size) (by first | exact b1 | exact b1.alloc b1.size _) (Nat.le_refl _)) (TT.out.keep (C := w1.heap.size) (by go_grown) (Nat.le_refl _)) la lb lc ld HP.out HD.out HN.out (fun h => by simp at h; omega)).mono ?_; rintro e w2 ⟨v2, rfl, ⟨vn2, vd2, rfl, R2, R3⟩, hb2⟩; have cc := hcells (hx_keep (hx_last w1 _ _ rfl) hb2); obtain ⟨c0, c1, c2, cf⟩ := cc; obtain ⟨p2, k2, rfl⟩ := R2.slice; obtain ⟨p3, k3, rfl⟩ := R3.slice; have b2 : Below W0.heap.size W0 w2 := Below.trans (by first | exact b1 | exact b1.alloc b1.size _) (hb2.mono (by first | exact b1.size | (simp; have := b1.size; omega))); have z2 := b2.size; have h1 : w.heap.size < w2.heap.size := (by omega); have h2 : w.heap.size + 1 < w2.heap.size := (by omega); have X2 := hcells (hx_keep KX.out b2); have Y2 := hcells (hx_keep KY.out b2); obtain ⟨i0, i1, i2, i3⟩ := X2; obtain ⟨j0, j1, j2, j3⟩ := Y2)
        | (go_at_call 8; refine (both_d (XA.out.keep (C := W0.heap.size) (by first | exact b1 | exact b1.alloc b1.size _) (Nat.le_refl _)) (TT.out.keep (C := w1.heap.size) (by go_grown) (Nat.le_refl _)) la lb lc ld HP.out HD.out HN.out (fun h => by simp at h; omega)).mono ?_; rintro e w2 ⟨v2, rfl, ⟨vn2, vd2, rfl, R2, R3⟩, hb2⟩; obtain ⟨p2, k2, rfl⟩ := R2.slice; obtain ⟨p3, k3, rfl⟩ := R3.slice; have b2 : Below W0.heap.size W0 w2 := Below.trans (by first | exact b1 | exact b1.alloc b1.size _) (hb2.mono (by first | exact b1.size | (simp; have := b1.size; omega))); have z2 := b2.size; have h1 : w.heap.size < w2.heap.size := (by omega); have h2 : w.heap.size + 1 < w2.heap.size := (by omega); have X2 := hcells (hx_keep KX.out b2); have Y2 := hcells (hx_keep KY.out b2); obtain ⟨i0, i1, i2, i3⟩ := X2; obtain ⟨j0, j1, j2, j3⟩ := Y2))
    all_goals
      have b02 := hw0.trans (b2.mono hw0.size)
      go_wp2_with fail
      go_meet
      first
        | exact ⟨W0.heap.size, k2, _, p2, rfl, EL.out, by simp [go_sem, *], ((b02.setCell (by first | omega | (simp <;> omega)) _).setCell (by first | omega | (simp <;> omega)) _).setCell (by first | omega | (simp <;> omega)) _⟩
        | exact ⟨w1.heap.size, k2, _, p2, rfl, EL.out, by simp [go_sem, *], ((b02.setCell (by first | omega | (simp <;> omega)) _).setCell (by first | omega | (simp <;> omega)) _).setCell (by first | omega | (simp <;> omega)) _⟩
        | exact ⟨w2.heap.size, k2, _, p2, rfl, EL.out, by simp [go_sem], b02.alloc (by omega) _⟩
  case rest =>
    obtain ⟨g, k, L, p, rfl, rfl, g1, hW⟩ := hcut
    go_wp2
    go_ret
    exact ⟨rfl, hW⟩
end Go.Proofs.YtbjnglfapgpncaaGreatDoor
