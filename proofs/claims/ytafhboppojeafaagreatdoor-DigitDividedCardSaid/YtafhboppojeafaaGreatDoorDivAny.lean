/- digit.Divide of any two numbers into a fixed type. digit.Divide of any two right numbers into a fixed type, and the numbers of the law DigitDivided. -/
import Derived.Test.YtafhboppojeafaaGreatDoorWrdThird
import Derived.Test.YtafhboppojeafaaGreatDoorWrdDivd
import Derived.Test.YtafhboppojeafaaGreatDoorWrdNum
import Derived.Test.YtafhboppojeafaaGreatDoorExOrder
import Derived.Test.YtafhboppojeafaaGreatDoorExOfAny
namespace Go.Proofs.YtafhboppojeafaaGreatDoor
open Go.RowKit

/-- A fixed type: kind, base, precision. -/
def KindP (k : Int) (β P : Nat) : Prop := (k = 1 ∧ β = 2 ∧ 1 ≤ P ∧ P ≤ 31) ∨ (k = 2 ∧ β = 10 ∧ 1 ≤ P ∧ P ≤ 15)
theorem KindP.bound {k : Int} {β P : Nat} (h : KindP k β P) : 0 < β ^ P ∧ β ^ P ≤ 1000000000000000 := by
  rcases h with ⟨_, rfl, _, h⟩ | ⟨_, rfl, _, h⟩
  · exact ⟨Nat.pow_pos (by decide), Nat.le_trans (Nat.pow_le_pow_right (by decide) h) (by decide)⟩
  · exact ⟨Nat.pow_pos (by decide), Nat.le_trans (Nat.pow_le_pow_right (by decide) h) (by decide)⟩
theorem KindP.scale {k : Int} {β P : Nat} (h : KindP k β P) {q : Nat} (hq : q ≤ 31) : 0 < β ^ q ∧ (wrds (β ^ q)).length ≤ 4 := by
  have hb : 0 < β ∧ β ≤ 10 := by rcases h with ⟨_, rfl, _⟩ | ⟨_, rfl, _⟩ <;> decide
  refine ⟨Nat.pow_pos hb.1, wrds_length _ 4 ?_⟩
  exact Nat.lt_of_le_of_lt (Nat.le_trans (Nat.pow_le_pow_left hb.2 q) (Nat.pow_le_pow_right (by decide) hq)) (by decide)
theorem valid_p {k : Int} {β P q : Nat} (h : KindP k β P) (hq : q ≤ 31) (w : World) : Calls Tryz.prog 32 #[tyV k (P : Int) (q : Int) 0 false emp] w fun e w' => e = .returned (.tuple #[]) ∧ Below w.heap.size w w' := by
  rcases h with ⟨rfl, rfl, h1, h2⟩ | ⟨rfl, rfl, h1, h2⟩
  · exact demValid_yes 1 _ _ 0 false emp w (by decide) (by simp [validS, validFixedS, Lib.toList_data]; omega)
  · exact demValid_yes 2 _ _ 0 false emp w (by decide) (by simp [validS, validFixedS, Lib.toList_data]; omega)
theorem fitting_p {k : Int} {β P q : Nat} (h : KindP k β P) (n L : Int) (vy : Bool) (pic : ByteArray) (W : World) (hq : q ≤ 10000) :
    Calls Tryz.prog 34 #[.agg #[.int .i64 k, .int .i64 (P : Int), .int .i64 (q : Int), .int .i64 n, .bool vy, .string pic], .int .i64 0, .int .i64 L] W fun e w' => ∃ cap, e = .returned (.func (.func 73) #[] cap) ∧ FitCap k n P q vy pic (β ^ q) (β ^ P) L w' cap ∧ Below W.heap.size W w' := by
  rcases h with ⟨rfl, rfl, h1, h2⟩ | ⟨rfl, rfl, h1, h2⟩
  · exact (fitting_1 n L P q vy pic W (by omega) hq).mono fun _ _ ⟨bt, bf, c, he, _, h2, h3, hb⟩ => ⟨_, he, ⟨bt, bf, c, rfl, h2, h3⟩, hb⟩
  · exact fitting_2c n L P q vy pic W (by omega) hq

theorem ten_short {q : Nat} (hq : q ≤ 1000) : (wrds (10 ^ q)).length ≤ 200 := wrds_length _ 200 (room_lt 10 q 1000 200 (by decide) hq (by decide))
theorem Va.num_short (t : Va) (h : t.right) (hk : t.number) : (wrds t.num.natAbs).length ≤ 202 := by
  obtain ⟨r1, r2, r3⟩ := h
  unfold Va.num
  rcases hk with hk | hk | hk
  · rw [if_neg (by omega)]
    have := r1 hk
    exact Nat.le_trans (len_small (by omega) (by omega)) (by decide)
  · rw [if_neg (by omega)]
    have := r2 hk
    exact Nat.le_trans (len_small (by omega) (by omega)) (by decide)
  · rw [if_pos hk]
    have := r3 hk
    unfold shN
    split
    · exact Nat.le_trans (len_small (by omega) (by omega)) (by decide)
    · rw [Int.natAbs_mul, Int.natAbs_natCast]
      have h1 := wrds_mul_len t.n.natAbs (10 ^ t.q.toNat)
      have h2 := len_small (n := t.n) (by omega) (by omega)
      have h3 := ten_short (q := t.q.toNat) (by omega)
      omega
theorem Va.den_short (t : Va) (h : t.right) (hk : t.number) : (wrds t.den).length ≤ 200 := by
  obtain ⟨r1, r2, r3⟩ := h
  unfold Va.den
  rcases hk with hk | hk | hk
  · rw [if_neg (by omega), if_neg (by omega)]
    have := r1 hk
    refine Nat.le_trans (wrds_length _ 1 ?_) (by decide)
    refine Nat.lt_of_le_of_lt (Nat.pow_le_pow_right (by decide) (show t.q.toNat ≤ 31 by omega)) (by decide)
  · rw [if_neg (by omega), if_pos hk]
    have := r2 hk
    exact ten_short (by omega)
  · rw [if_pos hk]
    have := r3 hk
    unfold shU
    split
    · rw [Nat.one_mul]
      exact ten_short (by omega)
    · exact Nat.le_trans (wrds_length 1 1 (by decide)) (by decide)

/-- The quotient's magnitude in the type's units. -/
def quoN (a b : Va) (S : Nat) : Nat := a.num.natAbs * b.den * S / (a.den * b.num.natAbs)
/-- What Divide answers. -/
def QuoP (a b : Va) (S Bd : Nat) (N c : Int) : Prop := (c = 0 ∧ quoN a b S < Bd ∧ N.natAbs = quoN a b S) ∨ (c = 2 ∧ Bd ≤ quoN a b S)
theorem fixN_natAbs (z : Int) (m : Nat) : (fixN z m).natAbs = m := by unfold fixN; split <;> omega

theorem rec_div {k : Int} {β P q : Nat} (h : KindP k β P) (hq : q ≤ 31) (a b : Va) (ra : a.right) (rb : b.right) (ka : a.number) (kb : b.number) (hb0 : b.num ≠ 0) (hRa : ∀ W, Calls Tryz.prog 39 #[a.v] W (YesD W)) (hRb : ∀ W, Calls Tryz.prog 39 #[b.v] W (YesD W)) (w : World) :
    ∃ N c : Int, QuoP a b (β ^ q) (β ^ P) N c ∧ Calls Tryz.prog 16 #[a.v, b.v, .agg #[.int .i64 k, .int .i64 (P : Int), .int .i64 (q : Int), .int .i64 0, .bool false, .string emp], fnv 17, .int .i64 2] w fun e w' => e = .returned (.tuple #[vaV k N q emp, .int .i64 c, .int .i64 0]) ∧ Below w.heap.size w w' := by
  obtain ⟨s0, s1⟩ := h.scale hq
  obtain ⟨b0, b1⟩ := h.bound
  have n1 := a.num_short ra ka
  have n2 := b.num_short rb kb
  have d1 := a.den_short ra ka
  have d2 := b.den_short rb kb
  have p1 := a.den_pos
  have hbp : 0 < b.num.natAbs := by omega
  have hU : 0 < a.den * b.num.natAbs := Nat.mul_pos p1 hbp
  have hZ : (ovN a.num b.num b.den).natAbs = a.num.natAbs * b.den := ovN_abs _ _ _
  have lZ := wrds_mul_len a.num.natAbs b.den
  have lU := wrds_mul_len a.den b.num.natAbs
  rw [← hZ] at lZ
  have lM := wrds_mul_len (ovN a.num b.num b.den).natAbs (β ^ q)
  have lB : (wrds (β ^ P)).length ≤ 2 := wrds_length _ 2 (by omega)
  have hQ : (ovN a.num b.num b.den).natAbs * β ^ q / (a.den * b.num.natAbs) = quoN a b (β ^ q) := by rw [hZ]; rfl
  have lQ : (wrds (quoN a b (β ^ q))).length ≤ 10000 := by
    have := wrds_le_len (Nat.div_le_self ((ovN a.num b.num b.den).natAbs * β ^ q) (a.den * b.num.natAbs))
    rw [hQ] at this
    omega
  have hD := div_any (a := (ovN a.num b.num b.den).natAbs * β ^ q) (b := a.den * b.num.natAbs) hU (by omega) (by omega)
  have key : ∀ N c : Int, (∀ W cap vx, FitCap k 0 P q false emp (β ^ q) (β ^ P) 2 W cap → XArg 0 W vx (ovN a.num b.num b.den) (a.den * b.num.natAbs) → Calls Tryz.prog 73 (#[vx] ++ cap) W fun e w' => e = .returned (.tuple #[vaV k N q emp, .int .i64 c]) ∧ Below W.heap.size W w') → Calls Tryz.prog 16 #[a.v, b.v, .agg #[.int .i64 k, .int .i64 (P : Int), .int .i64 (q : Int), .int .i64 0, .bool false, .string emp], fnv 17, .int .i64 2] w fun e w' => e = .returned (.tuple #[vaV k N q emp, .int .i64 c, .int .i64 0]) ∧ Below w.heap.size w w' := by
    intro N c hFX
    refine rec_x (F := FitCap k 0 P q false emp (β ^ q) (β ^ P) 2) (za := a.num) (ua := a.den) (zb := b.num) (ub := b.den) (Z := ovN a.num b.num b.den) (U := a.den * b.num.natAbs) over_hcf ?_ (valid_p h hq) (fun W => (exactly_num (P := fun c => W.heap.size ≤ c) a W (fun _ h => h) ra ka).mono fun _ _ ⟨y, he, hx, hb⟩ => ⟨y, he, hx, hb⟩) (fun W => (exactly_num (P := fun c => W.heap.size ≤ c) b W (fun _ h => h) rb kb).mono fun _ _ ⟨y, he, hx, hb⟩ => ⟨y, he, hx, hb⟩) (fun h hb => h.later hb) (fun W => fitting_p h 0 2 false emp W (by omega)) (fun W vx vy hX hY => over_0 hX hY (by omega) (by omega) (by omega) (by omega)) hFX
    intro t ht W
    rcases List.mem_cons.1 ht with rfl | ht
    · exact hRa W
    · rw [List.mem_singleton.1 ht]
      exact hRb W
  by_cases hlt : quoN a b (β ^ q) < β ^ P
  · refine ⟨fixN (ovN a.num b.num b.den) (quoN a b (β ^ q)), 0, .inl ⟨rfl, hlt, fixN_natAbs _ _⟩, key _ _ ?_⟩
    rintro W cap vx ⟨bt, bf, c, rfl, hR, hC⟩ hX
    refine fitting1_x fit_hcf hR hX (by omega) (by omega) fun W' hW' => ?_
    exact fit1_fit (hC.later hW') (hX.keep hW' (Nat.le_refl _)) (by omega) (by omega) rfl hQ hD (by omega) lQ rfl hlt
  · refine ⟨fixN (ovN a.num b.num b.den) (quoN a b (β ^ q) % β ^ P), 2, .inr ⟨rfl, by omega⟩, key _ _ ?_⟩
    rintro W cap vx ⟨bt, bf, c, rfl, hR, hC⟩ hX
    refine fitting1_x fit_hcf hR hX (by omega) (by omega) fun W' hW' => ?_
    exact fit1_big (hC.later hW') (hX.keep hW' (Nat.le_refl _)) (by omega) (by omega) rfl hQ hD (by omega) lQ (by omega) (div_any b0 (by omega) (by omega)) b0 rfl
end Go.Proofs.YtafhboppojeafaaGreatDoor
namespace Go.Proofs.YtafhboppojeafaaGreatDoor
open Go.RowKit

set_option maxRecDepth 100000 in
set_option maxHeartbeats 2000000 in
theorem divide_w {k P Q : Int} (a b : Va) (w : World) {R : Int → Int → Prop}
    (h : ∀ W, Calls Tryz.prog 16 #[a.v, b.v, .agg #[.int .i64 k, .int .i64 P, .int .i64 Q, .int .i64 0, .bool false, .string emp], fnv 17, .int .i64 2] W fun e w' => ∃ N c : Int, (e = .returned (.tuple #[vaV k N Q emp, .int .i64 c, .int .i64 0]) ∧ Below W.heap.size W w') ∧ R N c) :
    Calls Tryz.prog 8 #[a.v, b.v, .agg #[.int .i64 k, .int .i64 P, .int .i64 Q, .int .i64 0, .bool false, .string emp]] w fun e w' => ∃ N c : Int, (e = .returned (.tuple #[vaV k N Q emp, .int .i64 c, .int .i64 0]) ∧ Below w.heap.size w w') ∧ R N c := by
  obtain ⟨ka, na, qa, sa⟩ := a
  obtain ⟨kb, nb, qb, sb⟩ := b
  have HR := Lib.hid h
  clear h
  have RZ := row_n3 w (.cells (vaC ka na qa sa) 23) (.cells (vaC kb nb qb sb) 23) (.cells #[.int .i64 k, .int .i64 P, .int .i64 Q, .int .i64 0, .bool false, .string emp] 25) (vaC 0 0 0 emp) 23
  go_enter Tryz.func8, Tryz.ntmps8
  go_wp2_with (go_at_call 16; (refine (HR.out _).mono ?_); rintro e w2 ⟨N, c, ⟨rfl, hb2⟩, hR⟩; have HQ := Lib.hid hR; clear hR; have Z2 := RZ.keep hb2; have B2 := Lib.hid (bl_box (Below.refl _ w |>.alloc (Nat.le_refl _) _ |>.alloc (by simp) _ |>.alloc (by simp; omega) _) hb2); obtain ⟨z0, z1, z2, z3⟩ := Z2.four; have f0 := Z2.free 0; have f1 := Z2.free 1; have f2 := Z2.free 2; have f3 := Z2.free 3)
  refine bodyPost_ret (v := .tuple #[vaV k N Q emp, .int .i64 c, .int .i64 0]) (by simp [results, Tryz.results8, go_sem, z0, z1, z2, z3]) rfl ⟨N, c, ⟨rfl, ?_⟩, HQ.out⟩
  (repeat refine Below.setCell ?_ (by simp <;> omega) _)
  exact B2.out

/-- A quotient's magnitude times the divisor is not beyond the dividend; one unit more is. -/
theorem quo_le (xn xd yn yd S : Nat) : xn * yd * S / (xd * yn) * yn * xd ≤ xn * (S * yd) := by
  have h := Nat.div_mul_le_self (xn * yd * S) (xd * yn)
  have e1 : xn * yd * S / (xd * yn) * yn * xd = xn * yd * S / (xd * yn) * (xd * yn) := by rw [Nat.mul_assoc, Nat.mul_comm yn xd]
  have e2 : xn * (S * yd) = xn * yd * S := by rw [Nat.mul_comm S yd, Nat.mul_assoc]
  rw [e1, e2]; exact h
theorem quo_gt (xn xd yn yd S : Nat) (hS : 0 < S) (hd : 0 < xd) (hn : 0 < yn) : ¬ ((xn * yd * S / (xd * yn) * S + 1 * S) * yn * xd ≤ xn * (S * S * yd)) := by
  intro h
  have h1 := Nat.lt_mul_div_succ (xn * yd * S) (Nat.mul_pos hd hn)
  generalize hq : xn * yd * S / (xd * yn) = t at *
  have e1 : (t * S + 1 * S) * yn * xd = S * (xd * yn * (t + 1)) := by
    rw [← Nat.add_mul, Nat.mul_comm (t + 1) S, Nat.mul_assoc, Nat.mul_assoc, Nat.mul_comm yn xd, Nat.mul_comm (t + 1)]
  have e2 : xn * (S * S * yd) = S * (xn * yd * S) := by
    rw [Nat.mul_assoc S S yd, Nat.mul_left_comm, Nat.mul_comm S yd, Nat.mul_assoc]
  rw [e1, e2] at h
  exact absurd (Nat.lt_of_lt_of_le ((Nat.mul_lt_mul_left hS).2 h1) h) (Nat.lt_irrefl _)
theorem timesN_ff (n : Nat) : timesN false false n = false := by simp [timesN]
end Go.Proofs.YtafhboppojeafaaGreatDoor
