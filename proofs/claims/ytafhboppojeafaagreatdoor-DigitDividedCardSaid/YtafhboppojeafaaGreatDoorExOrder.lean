/- ironbarkref01.Order, of two numbers from 0 on. -/
import Derived.Test.YtafhboppojeafaaGreatDoorExBoth
namespace Go.Proofs.YtafhboppojeafaaGreatDoor
open Go.RowKit

set_option maxRecDepth 100000 in
set_option maxHeartbeats 4000000 in
theorem order_d {B C : Nat} {w : World} {u v : Value} {a b c d LN : Nat} {G : Bool} {o : Int} (hx : RArg B w u false a b) (hy : RArg C w v false c d)
    (la : (digs a).length ≤ 4000) (lb : (digs b).length ≤ 4000) (lc : (digs c).length ≤ 4000) (ld : (digs d).length ≤ 4000)
    (hb : 0 < b) (hd : 0 < d) (hL : (digs (bothNum false (!false && decide (0 < c)) (a * d) (c * b))).length = LN) (hG : bothNeg false (!false && decide (0 < c)) (a * d) (c * b) = G) (ho : o = if LN = 0 then 0 else if G = true then -1 else 1) :
    Calls Tryz.prog 10 #[u, v] w fun e w' => e = .returned (.int .i64 o) ∧ Below w.heap.size w w' := by
  obtain ⟨va, vb, rfl, Da, Db⟩ := hx
  obtain ⟨vc, vd, rfl, Dc, Dd⟩ := hy
  obtain ⟨pa, ka, rfl⟩ := Da.slice
  obtain ⟨pb, kb, rfl⟩ := Db.slice
  obtain ⟨pc, kc, rfl⟩ := Dc.slice
  obtain ⟨pd, kd, rfl⟩ := Dd.slice
  have q1 := s2
  have q2 := s2'
  have q3 := l2
  have q4 := l3
  go_enter Tryz.func10, Tryz.ntmps10
  go_upto_region 1 with fail
  have HX : ((w.alloc (.cells #[.bool false, .slice pa (digs a).length ka, .slice pb (digs b).length kb] 35)).alloc (.cells #[.bool false, .slice pc (digs c).length kc, .slice pd (digs d).length kd] 35)).heap[w.heap.size]? = some (.cells #[.bool false, .slice pa (digs a).length ka, .slice pb (digs b).length kb] 35) := hx_old (hx_last w _ _ rfl)
  have HY : ((w.alloc (.cells #[.bool false, .slice pa (digs a).length ka, .slice pb (digs b).length kb] 35)).alloc (.cells #[.bool false, .slice pc (digs c).length kc, .slice pd (digs d).length kd] 35)).heap[w.heap.size + 1]? = some (.cells #[.bool false, .slice pc (digs c).length kc, .slice pd (digs d).length kd] 35) := hx_last _ _ _ (by simp)
  have hw0 : Below w.heap.size w ((w.alloc (.cells #[.bool false, .slice pa (digs a).length ka, .slice pb (digs b).length kb] 35)).alloc (.cells #[.bool false, .slice pc (digs c).length kc, .slice pd (digs d).length kd] 35)) := ((Below.refl _ w).alloc (Nat.le_refl _) _).alloc (by simp) _
  generalize ((w.alloc (.cells #[.bool false, .slice pa (digs a).length ka, .slice pb (digs b).length kb] 35)).alloc (.cells #[.bool false, .slice pc (digs c).length kc, .slice pd (digs d).length kd] 35)) = W0 at *
  have hz0 : w.heap.size + 1 < W0.heap.size := hx_lt HY
  have XA : Hid (RArg B W0 (reV false (.slice pa (digs a).length ka) (.slice pb (digs b).length kb)) false a b) := Lib.hid ⟨_, _, rfl, Da.keep hw0 (Nat.le_refl _), Db.keep hw0 (Nat.le_refl _)⟩
  have YA : Hid (RArg C W0 (reV false (.slice pc (digs c).length kc) (.slice pd (digs d).length kd)) false c d) := Lib.hid ⟨_, _, rfl, Dc.keep hw0 (Nat.le_refl _), Dd.keep hw0 (Nat.le_refl _)⟩
  obtain ⟨x0, x1, x2, xf⟩ := hcells HX
  obtain ⟨y0, y1, y2, yf⟩ := hcells HY
  have KX := Lib.hid HX
  have KY := Lib.hid HY
  have e1 : ¬ W0.heap.size = w.heap.size := by omega
  have e2 : ¬ w.heap.size = W0.heap.size := by omega
  have e3 : ¬ W0.heap.size = w.heap.size + 1 := by omega
  have e4 : ¬ w.heap.size + 1 = W0.heap.size := by omega
  have e5 : w.heap.size < W0.heap.size := by omega
  have EL := Lib.hid hL
  have EG := Lib.hid hG
  have HP := Lib.hid hb
  have HD := Lib.hid hd
  have HO := Lib.hid ho
  clear HX HY Da Db Dc Dd hb hd hL hG ho
  go_cut [5] (fun s5 wx => ∃ (g k : Nat) (p : Option Addr), s5 = .pointer (some ⟨g, 0, none⟩) ∧ wx.cell? ⟨g, 0, none⟩ = some (.bool G) ∧ wx.cell? ⟨g, 1, none⟩ = some (.slice p LN k) ∧ Below w.heap.size w wx)
  case first =>
    go_region_held3 (fun w' => (w'.cell? ⟨w.heap.size, 0, none⟩ = some (.bool false) ∧ w'.cell? ⟨w.heap.size, 1, none⟩ = some (.slice pa (digs a).length ka) ∧ w'.cell? ⟨w.heap.size, 2, none⟩ = some (.slice pb (digs b).length kb)) ∧
        (w'.cell? ⟨w.heap.size + 1, 0, none⟩ = some (.bool false) ∧ w'.cell? ⟨w.heap.size + 1, 1, none⟩ = some (.slice pc (digs c).length kc) ∧ w'.cell? ⟨w.heap.size + 1, 2, none⟩ = some (.slice pd (digs d).length kd)))
      (first | go_keep | (go_split_ands; refine ⟨⟨?_, ?_, ?_⟩, ?_, ?_, ?_⟩ <;> first | assumption | (rw [b2.cell (by simp <;> omega)]; assumption) | (rw [b1.cell (by simp <;> omega)]; assumption)))
      (first
        | (go_at_call 21; refine (turn_d (YA.out.keep (C := W0.heap.size) (by go_grown) (Nat.le_refl _))).mono ?_; rintro e w1 ⟨v1, rfl, ⟨vn, vd, rfl, T1, T2⟩, hb1⟩; have Z1 := Lib.hid (hx_keep (hx_last W0 _ _ rfl) (undrew hb1)); have b1 : Below W0.heap.size W0 w1 := Below.trans (by go_grown) (hb1.mono (by simp)); obtain ⟨pn, kn, rfl⟩ := T1.slice; obtain ⟨pm, km, rfl⟩ := T2.slice; have TT : Hid (RArg C w1 (reV (!false && decide (0 < c)) (.slice pn (digs c).length kn) (.slice pm (digs d).length km)) (!false && decide (0 < c)) c d) := Lib.hid ⟨_, _, rfl, T1, T2⟩; clear T1 T2 hb1; have z1 := b1.size; have f1 : ¬ w1.heap.size = w.heap.size := (by omega); have f2 : ¬ w.heap.size = w1.heap.size := (by omega); have f3 : ¬ w1.heap.size = w.heap.size + 1 := (by omega); have f4 : ¬ w.heap.size + 1 = w1.heap.size := (by omega); have f5 : w.heap.size < w1.heap.size := (by omega); have f6 : w.heap.size + 1 < w1.heap.size := (by omega))
        | (go_at_call 21; refine (turn_d (YA.out.keep (C := W0.heap.size) (by go_grown) (Nat.le_refl _))).mono ?_; rintro e w1 ⟨v1, rfl, ⟨vn, vd, rfl, T1, T2⟩, hb1⟩; have b1 : Below W0.heap.size W0 w1 := Below.trans (by go_grown) (hb1.mono (by simp)); obtain ⟨pn, kn, rfl⟩ := T1.slice; obtain ⟨pm, km, rfl⟩ := T2.slice; have TT : Hid (RArg C w1 (reV (!false && decide (0 < c)) (.slice pn (digs c).length kn) (.slice pm (digs d).length km)) (!false && decide (0 < c)) c d) := Lib.hid ⟨_, _, rfl, T1, T2⟩; clear T1 T2 hb1; have z1 := b1.size; have f1 : ¬ w1.heap.size = w.heap.size := (by omega); have f2 : ¬ w.heap.size = w1.heap.size := (by omega); have f3 : ¬ w1.heap.size = w.heap.size + 1 := (by omega); have f4 : ¬ w.heap.size + 1 = w1.heap.size := (by omega); have f5 : w.heap.size < w1.heap.size := (by omega); have f6 : w.heap.size + 1 < w1.heap.size := (by omega))
        | (go_at_call 12; refine (both_d (XA.out.keep (C := W0.heap.size) (by first | exact b1 | exact b1.alloc b1.size _) (Nat.le_refl _)) (TT.out.keep (C := w1.heap.size) (by go_grown) (Nat.le_refl _)) la lb lc ld HP.out HD.out (fun h => by cases h) (fun h => by simp at h; omega)).mono ?_; rintro e w2 ⟨v2, rfl, ⟨vn2, vd2, rfl, R2, R3⟩, hb2⟩; have cc := hcells (hx_keep Z1.out hb2); obtain ⟨c0, c1, c2, cf⟩ := cc; obtain ⟨p2, k2, rfl⟩ := R2.slice; obtain ⟨p3, k3, rfl⟩ := R3.slice; (try rw [EG.out]); (try rw [EL.out]); have b2 : Below W0.heap.size W0 w2 := Below.trans (by first | exact b1 | exact b1.alloc b1.size _) (hb2.mono (by first | exact b1.size | (simp; have := b1.size; omega))); have z2 := b2.size; have h1 : w.heap.size < w2.heap.size := (by omega); have h2 : w.heap.size + 1 < w2.heap.size := (by omega); have X2 := hcells (hx_keep KX.out b2); have Y2 := hcells (hx_keep KY.out b2); obtain ⟨i0, i1, i2, i3⟩ := X2; obtain ⟨j0, j1, j2, j3⟩ := Y2)
        | (go_at_call 12; refine (both_d (XA.out.keep (C := W0.heap.size) (by first | exact b1 | exact b1.alloc b1.size _) (Nat.le_refl _)) (TT.out.keep (C := w1.heap.size) (by go_grown) (Nat.le_refl _)) la lb lc ld HP.out HD.out (fun h => by cases h) (fun h => by simp at h; omega)).mono ?_; rintro e w2 ⟨v2, rfl, ⟨vn2, vd2, rfl, R2, R3⟩, hb2⟩; have cc := hcells (hx_keep (hx_last w1 _ _ rfl) hb2); obtain ⟨c0, c1, c2, cf⟩ := cc; obtain ⟨p2, k2, rfl⟩ := R2.slice; obtain ⟨p3, k3, rfl⟩ := R3.slice; (try rw [EG.out]); (try rw [EL.out]); have b2 : Below W0.heap.size W0 w2 := Below.trans (by first | exact b1 | exact b1.alloc b1.size _) (hb2.mono (by first | exact b1.size | (simp; have := b1.size; omega))); have z2 := b2.size; have h1 : w.heap.size < w2.heap.size := (by omega); have h2 : w.heap.size + 1 < w2.heap.size := (by omega); have X2 := hcells (hx_keep KX.out b2); have Y2 := hcells (hx_keep KY.out b2); obtain ⟨i0, i1, i2, i3⟩ := X2; obtain ⟨j0, j1, j2, j3⟩ := Y2)
        | (go_at_call 12; refine (both_d (XA.out.keep (C := W0.heap.size) (by first | exact b1 | exact b1.alloc b1.size _) (Nat.le_refl _)) (TT.out.keep (C := w1.heap.size) (by go_grown) (Nat.le_refl _)) la lb lc ld HP.out HD.out (fun h => by cases h) (fun h => by simp at h; omega)).mono ?_; rintro e w2 ⟨v2, rfl, ⟨vn2, vd2, rfl, R2, R3⟩, hb2⟩; obtain ⟨p2, k2, rfl⟩ := R2.slice; obtain ⟨p3, k3, rfl⟩ := R3.slice; (try rw [EG.out]); (try rw [EL.out]); have b2 : Below W0.heap.size W0 w2 := Below.trans (by first | exact b1 | exact b1.alloc b1.size _) (hb2.mono (by first | exact b1.size | (simp; have := b1.size; omega))); have z2 := b2.size; have h1 : w.heap.size < w2.heap.size := (by omega); have h2 : w.heap.size + 1 < w2.heap.size := (by omega); have X2 := hcells (hx_keep KX.out b2); have Y2 := hcells (hx_keep KY.out b2); obtain ⟨i0, i1, i2, i3⟩ := X2; obtain ⟨j0, j1, j2, j3⟩ := Y2))
    all_goals
      have b02 := hw0.trans (b2.mono hw0.size)
      go_wp2_with fail
      go_meet
      first
        | exact ⟨W0.heap.size, k2, p2, rfl, by simp [go_sem, *], by simp [go_sem, *], ((b02.setCell (by first | omega | (simp <;> omega)) _).setCell (by first | omega | (simp <;> omega)) _).setCell (by first | omega | (simp <;> omega)) _⟩
        | exact ⟨w1.heap.size, k2, p2, rfl, by simp [go_sem, *], by simp [go_sem, *], ((b02.setCell (by first | omega | (simp <;> omega)) _).setCell (by first | omega | (simp <;> omega)) _).setCell (by first | omega | (simp <;> omega)) _⟩
        | exact ⟨w2.heap.size, k2, p2, rfl, by simp [go_sem], by simp [go_sem], b02.alloc (by omega) _⟩
  case rest =>
    obtain ⟨g, k, p, rfl, g0, g1, hW⟩ := hcut
    have HW := Lib.hid hW
    clear hW
    by_cases h0 : LN = 0
    · subst h0
      have ho := HO.out
      rw [if_pos rfl] at ho
      subst ho
      go_wp2
      go_ret
      exact ⟨rfl, HW.out⟩
    · have ho := HO.out
      rw [if_neg h0] at ho
      cases G with
      | true =>
        rw [if_pos rfl] at ho
        subst ho
        go_wp2
        go_ret
        exact ⟨rfl, HW.out⟩
      | false =>
        rw [if_neg (by decide)] at ho
        subst ho
        go_wp2
        go_ret
        exact ⟨rfl, HW.out⟩

/-- The order of two numbers from 0 on. -/
theorem order_n {B C : Nat} {w : World} {u v : Value} {a b c d : Nat} (hx : RArg B w u false a b) (hy : RArg C w v false c d)
    (la : (digs a).length ≤ 4000) (lb : (digs b).length ≤ 4000) (lc : (digs c).length ≤ 4000) (ld : (digs d).length ≤ 4000) (hb : 0 < b) (hd : 0 < d) :
    Calls Tryz.prog 10 #[u, v] w fun e w' => ∃ o : Int, e = .returned (.int .i64 o) ∧ (o ≤ 0 ↔ a * d ≤ c * b) ∧ Below w.heap.size w w' := by
  refine (order_d (o := _) hx hy la lb lc ld hb hd rfl rfl rfl).mono ?_
  rintro e w' ⟨he, hB⟩
  refine ⟨_, he, ?_, hB⟩
  have hC : 0 < c ↔ 0 < c * b := ⟨fun h => Nat.mul_pos h hb, fun h => Nat.pos_of_mul_pos_right h⟩
  have hcd : decide (0 < c) = decide (0 < c * b) := by by_cases h : 0 < c <;> simp [h, hb]
  rw [hcd]
  generalize a * d = A
  generalize c * b = K
  have hlen : ∀ n : Nat, (digs n).length = 0 ↔ n = 0 := fun n => ⟨digs_len_zero, fun h => by rw [h, digs_zero]; rfl⟩
  simp only [hlen, Bool.not_false, Bool.true_and]
  unfold bothNum bothNeg
  by_cases hk : 0 < K
  · rw [decide_eq_true hk]
    by_cases h : K ≤ A
    · simp [h]; split <;> omega
    · simp [h]; split <;> omega
  · have hk0 : K = 0 := by omega
    subst hk0
    simp; split <;> omega
end Go.Proofs.YtafhboppojeafaaGreatDoor
