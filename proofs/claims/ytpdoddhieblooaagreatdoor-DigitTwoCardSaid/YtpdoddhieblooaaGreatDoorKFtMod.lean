/- ironbarkref01.Do, Modulo of two right numbers into a type of numbers. ironbarkref01.Do, Modulo where something is refused; Do: division by zero. ironbarkref01.Modulo of two right numbers into a type of numbers. -/
import Derived.Test.YtpdoddhieblooaaGreatDoorKFtFit
import Derived.Test.YtpdoddhieblooaaGreatDoorKFtAsk
import Derived.Test.YtpdoddhieblooaaGreatDoorKExOfAny
import Derived.Test.YtpdoddhieblooaaGreatDoorKFtOrder
import Derived.Test.YtpdoddhieblooaaGreatDoorKGoodZeroR
import Derived.Test.YtpdoddhieblooaaGreatDoorKFtErrAll
namespace Go.Proofs.YtpdoddhieblooaaGreatDoor
open Go.RowKit

def TwoR (W : World) (na : Bool) (an ad : Nat) (nb : Bool) (bn bd : Nat) (s1 s2 : Value) (wx : World) : Prop :=
 ∃ n1 n2 p1 k1 p4 k4 p2 k2 p5 k5, s1 = .pointer (some ⟨n1, 0, none⟩) ∧ s2 = .pointer (some ⟨n2, 0, none⟩) ∧ n1 ≠ n2 ∧ W.heap.size ≤ n1 ∧ W.heap.size ≤ n2 ∧
   Row wx n1 #[.bool na, .slice p1 (digs an).length k1, .slice p4 (digs ad).length k4] 52 ∧ Row wx n2 #[.bool nb, .slice p2 (digs bn).length k2, .slice p5 (digs bd).length k5] 52 ∧
   DArg 0 wx (.slice p1 (digs an).length k1) an ∧ DArg 0 wx (.slice p4 (digs ad).length k4) ad ∧ DArg 0 wx (.slice p2 (digs bn).length k2) bn ∧ DArg 0 wx (.slice p5 (digs bd).length k5) bd ∧ Below W.heap.size W wx
theorem num_pos {a : Va} (_h : a.number) : decide (a.n < 0) = true → 0 < a.num.natAbs := by
 intro h1
 have h2 : a.n < 0 := of_decide_eq_true h1
 unfold Va.num
 split
 · unfold shN
   split
   · omega
   · rw [Int.natAbs_mul, Int.natAbs_natCast]
     exact Nat.mul_pos (by omega) (Nat.pow_pos (by decide))
 · omega
theorem RArg.open {B : Nat} {w : World} {v : Value} {neg : Bool} {num den : Nat} (h : RArg B w v neg num den) : ∃ p k q l, v = reV neg (.slice p (digs num).length k) (.slice q (digs den).length l) := by
 obtain ⟨vn, vd, rfl, h1, h2⟩ := h
 obtain ⟨p, k, rfl⟩ := h1.slice
 obtain ⟨q, l, rfl⟩ := h2.slice
 exact ⟨p, k, q, l, rfl⟩
theorem num_lt {a : Va} (h : a.n < 0) : a.num < 0 := by
 unfold Va.num shN
 split
 · split
   · exact h
   · exact Int.mul_neg_of_neg_of_pos h (Int.natCast_pos.2 (Nat.pow_pos (by decide)))
 · exact h
theorem num_ge {a : Va} (h : 0 ≤ a.n) : 0 ≤ a.num := by
 unfold Va.num shN
 split
 · split
   · exact h
   · exact Int.mul_nonneg h (Int.natCast_nonneg _)
 · exact h
theorem num_sgn (a : Va) : sgn (decide (a.n < 0)) a.num.natAbs = a.num := by
 by_cases h : a.n < 0
 · have h1 := num_lt h
   rw [decide_eq_true h]
   unfold sgn
   rw [if_pos rfl]
   omega
 · have h1 := num_ge (a := a) (by omega)
   rw [decide_eq_false h]
   unfold sgn
   rw [if_neg (by decide)]
   omega
theorem sgn_mul (n : Bool) (A d : Nat) : sgn n (A * d) = sgn n A * (d : Int) := by
 cases n <;> simp [sgn, Int.neg_mul]
theorem both_sgn (na nb : Bool) (A C : Nat) : sgn (bothNeg na nb A C) (bothNum na nb A C) = sgn na A + sgn nb C := by
 unfold bothNeg bothNum sgn
 cases na <;> cases nb
 · simp
 · by_cases h : C ≤ A
   · simp [h]; omega
   · simp [h]; omega
 · by_cases h : C ≤ A
   · by_cases h2 : 0 < A - C
     · simp [h, h2]; omega
     · simp [h, h2]; omega
   · simp [h]; omega
 · by_cases h2 : 0 < A + C
   · simp [h2]; omega
   · simp [h2]; omega
theorem both_pos {na nb : Bool} {A C : Nat} (h : bothNeg na nb A C = true) (_hc : nb = true → 0 < C) : 0 < bothNum na nb A C := by
 unfold bothNeg at h
 unfold bothNum
 split at h
 · rename_i h1
   rw [if_pos h1]
   simp at h
   omega
 · rename_i h1
   rw [if_neg h1]
   split at h
   · rename_i h2
     rw [if_pos h2]
     simp at h
     omega
   · rename_i h2
     rw [if_neg h2]
     omega
theorem both_len (na nb : Bool) (A C L : Nat) (hA : (digs A).length ≤ L) (hC : (digs C).length ≤ L) : (digs (bothNum na nb A C)).length ≤ L + 1 := by
 refine Nat.le_trans (digs_len_mono (b := A + C) ?_) (Nat.le_trans (digs_len_add A C) (by omega))
 unfold bothNum
 split
 · exact Nat.le_refl _
 · split <;> omega
theorem RArg.setc {B : Nat} {w : World} {v : Value} {neg : Bool} {num den : Nat} (h : RArg B w v neg num den) {q : Addr} (hq : q.block < B) (y : Value) : RArg B (w.setCell q y) v neg num den := by
 obtain ⟨vn, vd, rfl, h1, h2⟩ := h
 exact ⟨vn, vd, rfl, h1.setCell q hq, h2.setCell q hq⟩
theorem Row.putf {w : World} {b : Nat} {a0 a1 a2 a3 : Value} {t : TypeId} (h : Row w b #[a0, a1, a2, a3] t) (y0 y1 y2 y3 : Value) : Row ((((w.setCell ⟨b, 0, none⟩ y0).setCell ⟨b, 1, none⟩ y1).setCell ⟨b, 2, none⟩ y2).setCell ⟨b, 3, none⟩ y3) b #[y0, y1, y2, y3] t := (((h.putv 0 y0).putv 1 y1).putv 2 y2).putv 3 y3
theorem Row.setf {w : World} {b n : Nat} {cs : Array Value} {t : TypeId} (h : Row w b cs t) (hne : ¬ n = b) (y0 y1 y2 y3 : Value) : Row ((((w.setCell ⟨n, 0, none⟩ y0).setCell ⟨n, 1, none⟩ y1).setCell ⟨n, 2, none⟩ y2).setCell ⟨n, 3, none⟩ y3) b cs t := (((h.set (a := ⟨n, 0, none⟩) hne).set (a := ⟨n, 1, none⟩) hne).set (a := ⟨n, 2, none⟩) hne).set (a := ⟨n, 3, none⟩) hne
def Reck (NG : Bool) (NU DE : Nat) (z : Int) (u : Nat) : Prop := sgn NG NU = z ∧ DE = u ∧ 0 < DE ∧ (NG = true → 0 < NU) ∧ (digs NU).length ≤ 1000 ∧ (digs DE).length ≤ 1000
theorem reck_plus {a b : Va} (kb : b.number) (la : (digs a.num.natAbs).length ≤ 120) (lb : (digs b.num.natAbs).length ≤ 120) (da : (digs a.den).length ≤ 120) (db : (digs b.den).length ≤ 120) :
   Reck (bothNeg (decide (a.n < 0)) (decide (b.n < 0)) (a.num.natAbs * b.den) (b.num.natAbs * a.den)) (bothNum (decide (a.n < 0)) (decide (b.n < 0)) (a.num.natAbs * b.den) (b.num.natAbs * a.den)) (a.den * b.den) (a.num * b.den + b.num * a.den) (a.den * b.den) := by
 have h1 := digs_len_mul a.num.natAbs b.den
 have h2 := digs_len_mul b.num.natAbs a.den
 have h3 := digs_len_mul a.den b.den
 refine ⟨?_, rfl, Nat.mul_pos a.den_pos b.den_pos, fun h => both_pos h (fun hb => Nat.mul_pos (num_pos kb hb) a.den_pos), Nat.le_trans (both_len _ _ _ _ 240 (by omega) (by omega)) (by decide), by omega⟩
 rw [both_sgn, sgn_mul, sgn_mul, num_sgn, num_sgn]
theorem reck_times {a b : Va} (la : (digs a.num.natAbs).length ≤ 120) (lb : (digs b.num.natAbs).length ≤ 120) (da : (digs a.den).length ≤ 120) (db : (digs b.den).length ≤ 120) :
   Reck (timesN (decide (a.n < 0)) (decide (b.n < 0)) (a.num.natAbs * b.num.natAbs)) (a.num.natAbs * b.num.natAbs) (a.den * b.den) (a.num * b.num) (a.den * b.den) := by
 have h1 := digs_len_mul a.num.natAbs b.num.natAbs
 have h3 := digs_len_mul a.den b.den
 refine ⟨?_, rfl, Nat.mul_pos a.den_pos b.den_pos, fun h => ?_, by omega, by omega⟩
 · rw [← num_sgn a, ← num_sgn b, sgn_abs, sgn_abs]
   generalize a.num.natAbs = A
   generalize b.num.natAbs = C
   unfold timesN
   by_cases h : 0 < A * C
   · rw [decide_eq_true h]
     cases decide (a.n < 0) <;> cases decide (b.n < 0) <;> simp [sgn, Int.neg_mul, Int.mul_neg]
   · have h0 : A * C = 0 := by omega
     rw [decide_eq_false h, h0]
     have h00 : (A : Int) * (C : Int) = 0 := by rw [← Int.natCast_mul, h0]; rfl
     cases decide (a.n < 0) <;> cases decide (b.n < 0) <;> simp [sgn, Int.neg_mul, Int.mul_neg, h00]
 · unfold timesN at h
   simp at h
   rcases h with ⟨_, h⟩
   omega
theorem reck_over {a b : Va} (hb : 0 < b.num.natAbs) (la : (digs a.num.natAbs).length ≤ 120) (lb : (digs b.num.natAbs).length ≤ 120) (da : (digs a.den).length ≤ 120) (db : (digs b.den).length ≤ 120) :
   Reck ((decide (a.n < 0) != decide (b.n < 0)) && decide (0 < a.num.natAbs * b.den)) (a.num.natAbs * b.den) (a.den * b.num.natAbs) (sgn (decide (a.n < 0) != decide (b.n < 0)) (a.num.natAbs * b.den)) (a.den * b.num.natAbs) := by
 have h1 := digs_len_mul a.num.natAbs b.den
 have h3 := digs_len_mul a.den b.num.natAbs
 refine ⟨?_, rfl, Nat.mul_pos a.den_pos hb, fun h => ?_, by omega, by omega⟩
 · generalize a.num.natAbs * b.den = A
   generalize (decide (a.n < 0) != decide (b.n < 0)) = s
   by_cases h : 0 < A
   · rw [decide_eq_true h, Bool.and_true]
   · have h0 : A = 0 := by omega
     rw [h0]
     cases s <;> rfl
 · rw [Bool.and_eq_true] at h
   exact of_decide_eq_true h.2
theorem turn_sgn (n : Bool) (m d : Nat) : sgn (!n && decide (0 < m)) (m * d) = -(sgn n (m * d)) := by
 by_cases h : 0 < m
 · rw [decide_eq_true h, Bool.and_true]
   cases n <;> simp [sgn]
 · have h0 : m = 0 := by omega
   rw [h0]
   cases n <;> simp [sgn]
theorem reck_minus {a b : Va} (la : (digs a.num.natAbs).length ≤ 120) (lb : (digs b.num.natAbs).length ≤ 120) (da : (digs a.den).length ≤ 120) (db : (digs b.den).length ≤ 120) :
   Reck (bothNeg (decide (a.n < 0)) (!decide (b.n < 0) && decide (0 < b.num.natAbs)) (a.num.natAbs * b.den) (b.num.natAbs * a.den)) (bothNum (decide (a.n < 0)) (!decide (b.n < 0) && decide (0 < b.num.natAbs)) (a.num.natAbs * b.den) (b.num.natAbs * a.den)) (a.den * b.den) (a.num * b.den - b.num * a.den) (a.den * b.den) := by
 have h1 := digs_len_mul a.num.natAbs b.den
 have h2 := digs_len_mul b.num.natAbs a.den
 have h3 := digs_len_mul a.den b.den
 refine ⟨?_, rfl, Nat.mul_pos a.den_pos b.den_pos, fun h => both_pos h (fun hb => Nat.mul_pos ?_ a.den_pos), Nat.le_trans (both_len _ _ _ _ 240 (by omega) (by omega)) (by decide), by omega⟩
 · rw [both_sgn, sgn_mul, turn_sgn, sgn_mul, num_sgn, num_sgn]
   omega
 · rw [Bool.and_eq_true] at hb
   exact of_decide_eq_true hb.2
def DoPost (w : World) (k : Int) (P q : Nat) (L z : Int) (u : Nat) (e : Ending) (w' : World) : Prop := ∃ N Q c : Int, (e = .returned (.tuple #[valV k N Q ⟨#[]⟩, .int .i64 c, .int .i64 0]) ∧ Below w.heap.size w w') ∧ FitR k P q L z u N Q c
set_option maxRecDepth 100000 in
set_option maxHeartbeats 8000000 in
theorem do_plus {a b : Va} {k : Int} {P q : Nat} (hT : NumT k P q) (ra : a.right) (rb : b.right) (ka : a.number) (kb : b.number) (la : (digs a.num.natAbs).length ≤ 120) (lb : (digs b.num.natAbs).length ≤ 120) (da : (digs a.den).length ≤ 120) (db : (digs b.den).length ≤ 120) (hAS : ∀ (c cap : Nat) (W : World), VasAt W c 0 [a, b] → c < W.heap.size → Calls Tryz.prog 34 #[.slice (some ⟨c, 0, none⟩) 2 cap, tyV k (P : Int) (q : Int) 0 false ⟨#[]⟩] W fun e w' => e = .returned (.int .i64 0) ∧ Below W.heap.size W w') (w : World) :
   Calls Tryz.prog 30 #[.string ⟨#[43]⟩, a.v, b.v, tyV k (P : Int) (q : Int) 0 false ⟨#[]⟩] w (DoPost w k P q 2 (a.num * b.den + b.num * a.den) (a.den * b.den)) := by
 obtain ⟨NG, NU, DE, HOP, HRK⟩ : ∃ NG NU DE, Hid (∀ (v1 v2 : Value) (W : World), RArg 0 W v1 (decide (a.n < 0)) a.num.natAbs a.den → RArg 0 W v2 (decide (b.n < 0)) b.num.natAbs b.den → Calls Tryz.prog 37 #[v1, v2] W (GivesR W NG NU DE)) ∧ Reck NG NU DE (a.num * b.den + b.num * a.den) (a.den * b.den) :=
   ⟨_, _, _, Lib.hid fun v1 v2 W h1 h2 => both_d h1 h2 (by omega) (by omega) (by omega) (by omega) a.den_pos b.den_pos (num_pos ka) (num_pos kb), reck_plus kb la lb da db⟩
 obtain ⟨Z, hZ⟩ : ∃ Z : Int, (a.num * b.den + b.num * a.den) = Z := ⟨_, rfl⟩
 obtain ⟨U, hU⟩ : ∃ U : Nat, (a.den * b.den) = U := ⟨_, rfl⟩
 rw [hZ, hU] at HRK ⊢
 have HFIT : Hid (∀ (v : Value) (W : World), RArg 0 W v NG NU DE → Calls Tryz.prog 36 #[v, tyV k (P : Int) (q : Int) 0 false ⟨#[]⟩, .int .i64 2] W (FitPost W k P q 2 Z U)) := Lib.hid fun v W h => by
   obtain ⟨r1, r2, r3, r4, r5, r6⟩ := HRK
   rw [← r1, ← r2]
   exact fitTo_d hT h r3 r4 r5 r6
 clear hZ hU HRK
 obtain ⟨an, hA⟩ : ∃ x, a.num.natAbs = x := ⟨_, rfl⟩
 have HOA : Hid (∀ W, Calls Tryz.prog 27 #[a.v] W (GivesG (RArgP (decide (a.n < 0)) a.num.natAbs a.den) W)) := Lib.hid fun W => (of_va a W ra ka).mono fun _ _ h => givesR_G h
 have HOB : Hid (∀ W, Calls Tryz.prog 27 #[b.v] W (GivesG (RArgP (decide (b.n < 0)) b.num.natAbs b.den) W)) := Lib.hid fun W => (of_va b W rb kb).mono fun _ _ h => givesR_G h
 have HAS : Hid (∀ (c cap : Nat) (W : World), VasAt W c 0 [a, b] → c < W.heap.size → Calls Tryz.prog 34 #[.slice (some ⟨c, 0, none⟩) 2 cap, tyV k (P : Int) (q : Int) 0 false ⟨#[]⟩] W fun e w' => e = .returned (.int .i64 0) ∧ Below W.heap.size W w') := Lib.hid hAS
 clear hA
 have RA := ((Row.new w (vaC a.k a.n a.q a.s) 23).alloc (.cells (vaC b.k b.n b.q b.s) 23)).alloc (.cells #[.int .i64 k, .int .i64 (P : Int), .int .i64 (q : Int), .int .i64 0, .bool false, .string ⟨#[]⟩] 25) |>.alloc (.cells (vaC 0 0 0 ⟨#[]⟩) 23)
 have RB := ((Row.new2 w (.cells (vaC a.k a.n a.q a.s) 23) (vaC b.k b.n b.q b.s) 23).alloc (.cells #[.int .i64 k, .int .i64 (P : Int), .int .i64 (q : Int), .int .i64 0, .bool false, .string ⟨#[]⟩] 25)).alloc (.cells (vaC 0 0 0 ⟨#[]⟩) 23)
 have RT := (Row.new3 w (.cells (vaC a.k a.n a.q a.s) 23) (.cells (vaC b.k b.n b.q b.s) 23) #[.int .i64 k, .int .i64 (P : Int), .int .i64 (q : Int), .int .i64 0, .bool false, .string ⟨#[]⟩] 25).alloc (.cells (vaC 0 0 0 ⟨#[]⟩) 23)
 have RZ := row_n3 w (.cells (vaC a.k a.n a.q a.s) 23) (.cells (vaC b.k b.n b.q b.s) 23) (.cells #[.int .i64 k, .int .i64 (P : Int), .int .i64 (q : Int), .int .i64 0, .bool false, .string ⟨#[]⟩] 25) (vaC 0 0 0 ⟨#[]⟩) 23
 go_enter Tryz.func30, Tryz.ntmps30
 go_upto_region 1 with (fail)
 generalize hw : (((w.alloc (.cells (vaC a.k a.n a.q a.s) 23)).alloc (.cells (vaC b.k b.n b.q b.s) 23)).alloc (.cells #[.int .i64 k, .int .i64 (P : Int), .int .i64 (q : Int), .int .i64 0, .bool false, .string ⟨#[]⟩] 25)).alloc (.cells (vaC 0 0 0 ⟨#[]⟩) 23) = W at *
 have B0 : Hid (Below w.heap.size w W) := by show Below _ _ _; rw [← hw]; go_grown
 clear hw
 obtain ⟨a0, a1, a2, a3⟩ := RA.four
 obtain ⟨b0, b1, b2, b3⟩ := RB.four
 obtain ⟨t0, t1, t2, t3, t4, t5⟩ := RT.six
 have RN := Row.new W #[.int .i64 a.k, .int .i64 a.n, .int .i64 a.q, .string a.s, .int .i64 b.k, .int .i64 b.n, .int .i64 b.q, .string b.s] 23
 obtain ⟨y0, y1, y2, y3, y4, y5⟩ := (RT.alloc (.cells #[.int .i64 a.k, .int .i64 a.n, .int .i64 a.q, .string a.s, .int .i64 b.k, .int .i64 b.n, .int .i64 b.q, .string b.s] 23)).six
 go_wp2_with (go_at_call 34; (refine (HAS.out _ _ _ (VasAt.two RN) RN.lt).mono ?_); rintro e W0 ⟨rfl, hb1⟩; have RA := RA.keep (bl_box (Below.refl _ W) hb1); have RB := RB.keep (bl_box (Below.refl _ W) hb1); have RT := RT.keep (bl_box (Below.refl _ W) hb1); have RZ := RZ.keep (bl_box (Below.refl _ W) hb1); have BW := Lib.hid (bl_box B0.out hb1); clear hb1)
 clear a0 a1 a2 a3 b0 b1 b2 b3 t0 t1 t2 t3 t4 t5 y0 y1 y2 y3 y4 y5 RN B0 HAS
 obtain ⟨a0, a1, a2, a3⟩ := RA.four
 obtain ⟨b0, b1, b2, b3⟩ := RB.four
 go_cut [12, 13] (fun s1 s2 wx => TwoR W0 (decide (a.n < 0)) a.num.natAbs a.den (decide (b.n < 0)) b.num.natAbs b.den s1 s2 wx)
 case first =>
   refine wp_region_held_drew (S := fun w' => (w'.cell? ⟨w.heap.size, 0, none⟩ = some (.int .i64 a.k) ∧ w'.cell? ⟨w.heap.size, 1, none⟩ = some (.int .i64 a.n) ∧ w'.cell? ⟨w.heap.size, 2, none⟩ = some (.int .i64 a.q) ∧ w'.cell? ⟨w.heap.size, 3, none⟩ = some (.string a.s)) ∧ (w'.cell? ⟨w.heap.size + 1, 0, none⟩ = some (.int .i64 b.k) ∧ w'.cell? ⟨w.heap.size + 1, 1, none⟩ = some (.int .i64 b.n) ∧ w'.cell? ⟨w.heap.size + 1, 2, none⟩ = some (.int .i64 b.q) ∧ w'.cell? ⟨w.heap.size + 1, 3, none⟩ = some (.string b.s))) (by kernel_rfl) ?_ (fun hHeld => ?_)
   · exact ⟨RA.four, RB.four⟩
   first
     | (refine wpAnyH_take (i := 0) (v := undef) rfl (by kernel_rfl) (by kernel_rfl) (by kernel_rfl) (fun _ _ _ h => h) (Or.inr ⟨by rfl, rfl⟩) (by assumption) ?_)
     | (refine wpAnyH_take (i := 0) (v := ?_) rfl (by kernel_rfl) (by kernel_rfl) (by kernel_rfl) (fun _ _ _ h => h) (Or.inl ⟨by rfl, ?_⟩) (by assumption) ?_; rotate_left; (· intro w hSw; (try dsimp only at hSw); go_simp; (try with_reducible rfl)))
     | fail "TK 0"
   try simp only [Act.put, List.setIfInBounds_toArray, List.set_cons_zero, List.set_cons_succ, List.getElem_toArray, List.getElem_cons_zero]
   first
     | (refine wpAnyH_take (i := 2) (v := undef) rfl (by kernel_rfl) (by kernel_rfl) (by kernel_rfl) (fun _ _ _ h => h) (Or.inr ⟨by rfl, rfl⟩) (by assumption) ?_)
     | (refine wpAnyH_take (i := 2) (v := ?_) rfl (by kernel_rfl) (by kernel_rfl) (by kernel_rfl) (fun _ _ _ h => h) (Or.inl ⟨by rfl, ?_⟩) (by assumption) ?_; rotate_left; (· intro w hSw; (try dsimp only at hSw); go_simp; (try with_reducible rfl)))
     | fail "TK 2"
   try simp only [Act.put, List.setIfInBounds_toArray, List.set_cons_zero, List.set_cons_succ, List.getElem_toArray, List.getElem_cons_succ, List.getElem_cons_zero]
   have hK1 : ∀ w1 w2 : World, (w1.cell? ⟨w.heap.size, 0, none⟩ = some (.int .i64 a.k) ∧ w1.cell? ⟨w.heap.size, 1, none⟩ = some (.int .i64 a.n) ∧ w1.cell? ⟨w.heap.size, 2, none⟩ = some (.int .i64 a.q) ∧ w1.cell? ⟨w.heap.size, 3, none⟩ = some (.string a.s)) ∧ (w1.cell? ⟨w.heap.size + 1, 0, none⟩ = some (.int .i64 b.k) ∧ w1.cell? ⟨w.heap.size + 1, 1, none⟩ = some (.int .i64 b.n) ∧ w1.cell? ⟨w.heap.size + 1, 2, none⟩ = some (.int .i64 b.q) ∧ w1.cell? ⟨w.heap.size + 1, 3, none⟩ = some (.string b.s)) → Below w1.heap.size w1 w2 → (w2.cell? ⟨w.heap.size, 0, none⟩ = some (.int .i64 a.k) ∧ w2.cell? ⟨w.heap.size, 1, none⟩ = some (.int .i64 a.n) ∧ w2.cell? ⟨w.heap.size, 2, none⟩ = some (.int .i64 a.q) ∧ w2.cell? ⟨w.heap.size, 3, none⟩ = some (.string a.s)) ∧ (w2.cell? ⟨w.heap.size + 1, 0, none⟩ = some (.int .i64 b.k) ∧ w2.cell? ⟨w.heap.size + 1, 1, none⟩ = some (.int .i64 b.n) ∧ w2.cell? ⟨w.heap.size + 1, 2, none⟩ = some (.int .i64 b.q) ∧ w2.cell? ⟨w.heap.size + 1, 3, none⟩ = some (.string b.s)) := by
     rintro w1 w2 ⟨⟨s0, s1, s2, s3⟩, ⟨s4, s5, s6, s7⟩⟩ hb
     exact ⟨⟨cell_keep s0 hb, cell_keep s1 hb, cell_keep s2 hb, cell_keep s3 hb⟩, ⟨cell_keep s4 hb, cell_keep s5 hb, cell_keep s6 hb, cell_keep s7 hb⟩⟩
   have hB0 : Below W0.heap.size W0 W0.drew := (Below.refl _ W0).drew
   refine any2 (W0 := W0) (cs := #[.bool false, .slice none 0 0, .slice none 0 0]) (t := 52) 28 30 12 13 1 3 4 5 (fun c b1 b2 => #[true, decide (1 ≤ c), true, decide (2 ≤ c), b1, b2, false, false]) (RArgP (decide (a.n < 0)) a.num.natAbs a.den) (RArgP (decide (b.n < 0)) b.num.natAbs b.den) (by decide) (by decide) (by decide) (by decide) (by decide) (by decide) (RArgP.stays _ _ _) (RArgP.stays _ _ _) rfl rfl (by kernel_rfl) hB0 hHeld hK1 ?_
     rfl (fun _ => rfl) rfl (fun _ _ _ _ _ => by kernel_rfl) (fun W _ => HOA.out W) (fun _ _ => rfl)
     rfl (fun _ => rfl) rfl (fun _ _ _ _ _ => by kernel_rfl) (fun W _ => HOB.out W) (fun _ _ => rfl)
     rfl (fun _ => rfl) rfl (fun _ _ => by kernel_rfl) (fun _ _ => rfl)
     rfl (fun _ => rfl) rfl (fun _ _ => by kernel_rfl) (fun _ _ => rfl) ?_ ?_
   · intro c b1 b2 hn hc
     obtain rfl | rfl | rfl : c = 0 ∨ c = 1 ∨ c = 2 := by omega
     all_goals (cases b1 <;> cases b2)
     all_goals first
       | (exfalso; simp at hn; done)
       | kernel_rfl
   · intro c b1 b2 hc hl
     obtain rfl | rfl | rfl : c = 0 ∨ c = 1 ∨ c = 2 := by omega
     all_goals (cases b1 <;> cases b2 <;> simp at hl ⊢)
   intro r1 r2 n1 n2 wz hS hBz m1 m2 d12 X1 X2 g1 g2
   obtain ⟨y1, z1, rfl, D1n, D1d⟩ := g1
   obtain ⟨y2, z2, rfl, D2n, D2d⟩ := g2
   obtain ⟨p1, k1, rfl⟩ := D1n.sliceP
   obtain ⟨p4, k4, rfl⟩ := D1d.sliceP
   obtain ⟨p2, k2, rfl⟩ := D2n.sliceP
   obtain ⟨p5, k5, rfl⟩ := D2d.sliceP
   have RAz := RA.keep hBz
   have RBz := RB.keep hBz
   have lA := RA.lt
   have lB := RB.lt
   have s21 : ¬ n2 = n1 := fun e => d12 e.symm
   have pa1 : ¬ n1 = w.heap.size := by omega
   have pa2 : ¬ n2 = w.heap.size := by omega
   have pb1 : ¬ n1 = w.heap.size + 1 := by omega
   have pb2 : ¬ n2 = w.heap.size + 1 := by omega
   have A1 := RAz.set3 pa1 (.bool (decide (a.n < 0))) (.slice p1 (digs a.num.natAbs).length k1) (.slice p4 (digs a.den).length k4)
   have A2 := A1.set3 pa2 (.bool (decide (b.n < 0))) (.slice p2 (digs b.num.natAbs).length k2) (.slice p5 (digs b.den).length k5)
   have C1 := RBz.set3 pb1 (.bool (decide (a.n < 0))) (.slice p1 (digs a.num.natAbs).length k1) (.slice p4 (digs a.den).length k4)
   have C2 := C1.set3 pb2 (.bool (decide (b.n < 0))) (.slice p2 (digs b.num.natAbs).length k2) (.slice p5 (digs b.den).length k5)
   have Y11 := X1.pute (.bool (decide (a.n < 0))) (.slice p1 (digs a.num.natAbs).length k1) (.slice p4 (digs a.den).length k4)
   have Y21 := X2.set3 d12 (.bool (decide (a.n < 0))) (.slice p1 (digs a.num.natAbs).length k1) (.slice p4 (digs a.den).length k4)
   have Y12 := Y11.set3 s21 (.bool (decide (b.n < 0))) (.slice p2 (digs b.num.natAbs).length k2) (.slice p5 (digs b.den).length k5)
   have Y22 := Y21.pute (.bool (decide (b.n < 0))) (.slice p2 (digs b.num.natAbs).length k2) (.slice p5 (digs b.den).length k5)
   have SC : Same (Free W0.heap.size [some n1, some n2]) wz ((((((wz.setCell ⟨n1, 0, none⟩ (.bool (decide (a.n < 0)))).setCell ⟨n1, 1, none⟩ (.slice p1 (digs a.num.natAbs).length k1)).setCell ⟨n1, 2, none⟩ (.slice p4 (digs a.den).length k4)).setCell ⟨n2, 0, none⟩ (.bool (decide (b.n < 0)))).setCell ⟨n2, 1, none⟩ (.slice p2 (digs b.num.natAbs).length k2)).setCell ⟨n2, 2, none⟩ (.slice p5 (digs b.den).length k5)) :=
     (((((((Same.refl _ wz).set (a := ⟨n1, 0, none⟩) (not_free (by simp)) _).set (a := ⟨n1, 1, none⟩) (not_free (by simp)) _).set (a := ⟨n1, 2, none⟩) (not_free (by simp)) _).set (a := ⟨n2, 0, none⟩) (not_free (by simp)) _).set (a := ⟨n2, 1, none⟩) (not_free (by simp)) _).set (a := ⟨n2, 2, none⟩) (not_free (by simp)) _)
   have BC : Below W0.heap.size W0 ((((((wz.setCell ⟨n1, 0, none⟩ (.bool (decide (a.n < 0)))).setCell ⟨n1, 1, none⟩ (.slice p1 (digs a.num.natAbs).length k1)).setCell ⟨n1, 2, none⟩ (.slice p4 (digs a.den).length k4)).setCell ⟨n2, 0, none⟩ (.bool (decide (b.n < 0)))).setCell ⟨n2, 1, none⟩ (.slice p2 (digs b.num.natAbs).length k2)).setCell ⟨n2, 2, none⟩ (.slice p5 (digs b.den).length k5)) :=
     ((((((hBz.setCell (p := ⟨n1, 0, none⟩) m1 _).setCell (p := ⟨n1, 1, none⟩) m1 _).setCell (p := ⟨n1, 2, none⟩) m1 _).setCell (p := ⟨n2, 0, none⟩) m2 _).setCell (p := ⟨n2, 1, none⟩) m2 _).setCell (p := ⟨n2, 2, none⟩) m2 _)
   obtain ⟨h10, h11, h12⟩ := X1.three3
   have f10 := X1.free 0
   have f11 := X1.free 1
   have f12 := X1.free 2
   obtain ⟨h20, h21, h22⟩ := Y21.three3
   have f20 := Y21.free 0
   have f21 := Y21.free 1
   have f22 := Y21.free 2
   show wpAnyH _ _ _ _ _ 2 _ _ _
   simp only [act2, List.setIfInBounds_toArray, List.set_cons_zero, List.set_cons_succ]
   refine wpAnyH_ready (rs := [6]) (by kernel_rfl) (by simp) ?_
   refine AllReadyH.cons rfl (fun K hK => ?_) AllReadyH.nil
   try simp only [List.getElem_toArray, List.getElem_cons_succ, List.getElem_cons_zero]
   go_simp
   refine hK.out _ _ ⟨A1.four, C1.four⟩ (fun hHeld2 => ?_)
   clear hK K hHeld2
   refine wpAnyH_ready (rs := [7]) (by kernel_rfl) (by simp) ?_
   refine AllReadyH.cons rfl (fun K hK => ?_) AllReadyH.nil
   try simp only [List.getElem_toArray, List.getElem_cons_succ, List.getElem_cons_zero]
   clear h10 h11 h12 f10 f11 f12
   go_simp
   refine hK.out _ _ ⟨A2.four, C2.four⟩ (fun hHeld2 => ?_)
   clear hK K hHeld2
   clear h20 h21 h22 f20 f21 f22 A1 A2 C1 C2 Y11 Y21 RAz RBz X1 X2
   refine wpAnyH_done (by kernel_rfl) ?_ _
   go_wp2_with fail
   go_meet
   exact ⟨n1, n2, p1, k1, p4, k4, p2, k2, p5, k5, rfl, rfl, d12, m1, m2, Y12, Y22, (D1n.same SC).arg (fun _ _ => Nat.zero_le _), (D1d.same SC).arg (fun _ _ => Nat.zero_le _), (D2n.same SC).arg (fun _ _ => Nat.zero_le _), (D2d.same SC).arg (fun _ _ => Nat.zero_le _), BC⟩
 case rest =>
   obtain ⟨w5, rfl⟩ : ∃ w5 : World, w5 = wc := ⟨_, rfl⟩
   obtain ⟨n1, n2, p1, k1, p4, k4, p2, k2, p5, k5, rfl, rfl, d12, m1, m2, X1, X2, E1, E2, E3, E4, BC⟩ := hcut
   have RA5 := RA.keep BC
   have RT5 := RT.keep BC
   have RZ5 := RZ.keep BC
   have BW5 := Lib.hid (bl_then BW.out BC)
   have lT := RT.lt
   have BW7s := BW.out.size
   have lZ := RZ.lt
   have nt1 : ¬ n1 = w.heap.size + 1 + 1 := by omega
   have nt1' : ¬ w.heap.size + 1 + 1 = n1 := by omega
   have nz1 : ¬ n1 = w.heap.size + 1 + 1 + 1 := by omega
   have nz1' : ¬ w.heap.size + 1 + 1 + 1 = n1 := by omega
   have HAX : Hid (RArg 0 w5 (reV (decide (a.n < 0)) (.slice p1 (digs a.num.natAbs).length k1) (.slice p4 (digs a.den).length k4)) (decide (a.n < 0)) a.num.natAbs a.den) := Lib.hid ⟨_, _, rfl, E1, E2⟩
   have HBX : Hid (RArg 0 w5 (reV (decide (b.n < 0)) (.slice p2 (digs b.num.natAbs).length k2) (.slice p5 (digs b.den).length k5)) (decide (b.n < 0)) b.num.natAbs b.den) := Lib.hid ⟨_, _, rfl, E3, E4⟩
   clear E1 E2 E3 E4 BC RA RB RT RZ BW HOA HOB  a0 a1 a2 a3 b0 b1 b2 b3 RA5 la lb da db ra rb ka kb hT
   obtain ⟨x0, x1, x2⟩ := X1.ex
   obtain ⟨y0, y1, y2⟩ := X2.ex
   have f0 := X1.free 0
   have f1 := X1.free 1
   have f2 := X1.free 2
   go_upto_region 16 with (go_at_call 37; (refine (HOP.out _ _ _ HAX.out HBX.out).mono ?_); rintro e w6 ⟨v6, rfl, R6, hb6⟩; have X6 := X1.keep hb6; have RT6 := RT5.keep hb6; have RZ6 := RZ5.keep hb6; have BW6 := Lib.hid (bl_then BW5.out hb6); have hs6 := X1.lt; obtain ⟨p6, k6, q6, l6, rfl⟩ := R6.open; have R6 := Lib.hid R6; clear hb6; obtain ⟨x0, x1, x2⟩ := X6.ex; have f0 := X6.free 0; have f1 := X6.free 1; have f2 := X6.free 2)
   have hn1 : w.heap.size ≤ n1 := by have := BW7s; omega
   have X7 := X6.pute (.bool NG) (.slice p6 (digs NU).length k6) (.slice q6 (digs DE).length l6)
   have RT7 := RT6.set3 nt1 (.bool NG) (.slice p6 (digs NU).length k6) (.slice q6 (digs DE).length l6)
   have RZ7 := RZ6.set3 nz1 (.bool NG) (.slice p6 (digs NU).length k6) (.slice q6 (digs DE).length l6)
   have R7 : Hid (RArg 0 _ _ NG NU DE) := Lib.hid ((((R6.out.setc (q := ⟨n1, 0, none⟩) hs6 (.bool NG)).setc (q := ⟨n1, 1, none⟩) hs6 (.slice p6 (digs NU).length k6)).setc (q := ⟨n1, 2, none⟩) hs6 (.slice q6 (digs DE).length l6)).base (Nat.zero_le _))
   have BW7 := Lib.hid (((BW6.out.setCell (p := ⟨n1, 0, none⟩) hn1 (.bool NG)).setCell (p := ⟨n1, 1, none⟩) hn1 (.slice p6 (digs NU).length k6)).setCell (p := ⟨n1, 2, none⟩) hn1 (.slice q6 (digs DE).length l6))
   generalize hw7 : ((w6.setCell ⟨n1, 0, none⟩ (.bool NG)).setCell ⟨n1, 1, none⟩ (.slice p6 (digs NU).length k6)).setCell ⟨n1, 2, none⟩ (.slice q6 (digs DE).length l6) = w7 at *
   have lX7 := X7.lt
   have lT7 := RT7.lt
   have lZ7 := RZ7.lt
   clear hw7 X6 RT6 RZ6 R6 BW6 x0 x1 x2 f0 f1 f2
   obtain ⟨x0, x1, x2⟩ := X7.ex
   obtain ⟨t0, t1, t2, t3, t4, t5⟩ := RT7.six
   go_upto_region 17 with (go_at_call 36; refine (HFIT.out _ _ R7.out).mono ?_; rintro e w8 ⟨N, Q, c, ⟨rfl, hb⟩, hf⟩; have hf := Lib.hid hf; have RV8 := Row.new w8 (vaC 0 0 0 ⟨#[]⟩) 23; have RV9 := Row.new w8 #[.int .i64 k, .int .i64 N, .int .i64 Q, .string ⟨#[]⟩] 23; have RZ9 := (RZ7.keep hb).alloc (.cells #[.int .i64 k, .int .i64 N, .int .i64 Q, .string ⟨#[]⟩] 23); have BW9 := Lib.hid ((bl_then BW7.out hb).alloc (bl_then BW7.out hb).size (.cells #[.int .i64 k, .int .i64 N, .int .i64 Q, .string ⟨#[]⟩] 23)); have lZ8 := (RZ7.keep hb).lt; obtain ⟨v0, v1, v2, v3⟩ := RV8.four; have g0 := RV8.free 0; have g1 := RV8.free 1; have g2 := RV8.free 2; have g3 := RV8.free 3; clear hb)
   clear v0 v1 v2 v3 g0 g1 g2 g3 RV8 X7 RT7 RZ7 BW7 R7 HFIT x0 x1 x2 t0 t1 t2 t3 t4 t5
   obtain ⟨v0, v1, v2, v3⟩ := RV9.four
   obtain ⟨z0, z1, z2, z3⟩ := RZ9.four
   have g0 := RZ9.free 0
   have g1 := RZ9.free 1
   have g2 := RZ9.free 2
   have g3 := RZ9.free 3
   clear RV9 RZ9
   generalize (w8.alloc (.cells #[.int .i64 k, .int .i64 N, .int .i64 Q, .string ⟨#[]⟩] 23)) = we at *
   iterate 90 (first | go_values | go_skip | go_guarded | go_step | go_upon | go_simp | skip)
   refine bodyPost_ret (v := .tuple #[valV k N Q ⟨#[]⟩, .int .i64 c, .int .i64 0]) (by simp [results, Tryz.results30, go_sem, z0, z1, z2, z3]) rfl ⟨N, Q, c, ⟨rfl, ?_⟩, hf.out⟩
   (repeat refine Below.setCell ?_ (by simp <;> omega) _)
   exact BW9.out
set_option maxRecDepth 100000 in
set_option maxHeartbeats 8000000 in
theorem do_err {a b : Va} {k p q n : Int} {vy : Bool} {pic op : ByteArray} {e0 : Int} (he0 : ¬ e0 = 0) (hAS : ∀ (c cap : Nat) (W : World), VasAt W c 0 [a, b] → c < W.heap.size → Calls Tryz.prog 34 #[.slice (some ⟨c, 0, none⟩) 2 cap, tyV k p q n vy pic] W fun e w' => e = .returned (.int .i64 e0) ∧ Below W.heap.size W w') (w : World) :
   Calls Tryz.prog 30 #[.string op, a.v, b.v, tyV k p q n vy pic] w fun e w' => e = .returned (.tuple #[valV 0 0 0 ⟨#[]⟩, .int .i64 0, .int .i64 e0]) ∧ Below w.heap.size w w' := by
 have HAS := Lib.hid hAS
 have RA := ((Row.new w (vaC a.k a.n a.q a.s) 23).alloc (.cells (vaC b.k b.n b.q b.s) 23)).alloc (.cells #[.int .i64 k, .int .i64 p, .int .i64 q, .int .i64 n, .bool vy, .string pic] 25) |>.alloc (.cells (vaC 0 0 0 ⟨#[]⟩) 23)
 have RB := ((Row.new2 w (.cells (vaC a.k a.n a.q a.s) 23) (vaC b.k b.n b.q b.s) 23).alloc (.cells #[.int .i64 k, .int .i64 p, .int .i64 q, .int .i64 n, .bool vy, .string pic] 25)).alloc (.cells (vaC 0 0 0 ⟨#[]⟩) 23)
 have RT := (Row.new3 w (.cells (vaC a.k a.n a.q a.s) 23) (.cells (vaC b.k b.n b.q b.s) 23) #[.int .i64 k, .int .i64 p, .int .i64 q, .int .i64 n, .bool vy, .string pic] 25).alloc (.cells (vaC 0 0 0 ⟨#[]⟩) 23)
 have RZ := row_n3 w (.cells (vaC a.k a.n a.q a.s) 23) (.cells (vaC b.k b.n b.q b.s) 23) (.cells #[.int .i64 k, .int .i64 p, .int .i64 q, .int .i64 n, .bool vy, .string pic] 25) (vaC 0 0 0 ⟨#[]⟩) 23
 go_enter Tryz.func30, Tryz.ntmps30
 go_upto_region 1 with (fail)
 generalize hw : (((w.alloc (.cells (vaC a.k a.n a.q a.s) 23)).alloc (.cells (vaC b.k b.n b.q b.s) 23)).alloc (.cells #[.int .i64 k, .int .i64 p, .int .i64 q, .int .i64 n, .bool vy, .string pic] 25)).alloc (.cells (vaC 0 0 0 ⟨#[]⟩) 23) = W at *
 have B0 : Hid (Below w.heap.size w W) := by show Below _ _ _; rw [← hw]; go_grown
 clear hw hAS
 obtain ⟨a0, a1, a2, a3⟩ := RA.four
 obtain ⟨b0, b1, b2, b3⟩ := RB.four
 obtain ⟨t0, t1, t2, t3, t4, t5⟩ := RT.six
 have RN := Row.new W #[.int .i64 a.k, .int .i64 a.n, .int .i64 a.q, .string a.s, .int .i64 b.k, .int .i64 b.n, .int .i64 b.q, .string b.s] 23
 obtain ⟨y0, y1, y2, y3, y4, y5⟩ := (RT.alloc (.cells #[.int .i64 a.k, .int .i64 a.n, .int .i64 a.q, .string a.s, .int .i64 b.k, .int .i64 b.n, .int .i64 b.q, .string b.s] 23)).six
 go_upto_region 3 with (go_at_call 34; (refine (HAS.out _ _ _ (VasAt.two RN) RN.lt).mono ?_); rintro e W0 ⟨rfl, hb1⟩; have RZ9 := RZ.keep (bl_box (Below.refl _ W) hb1); have BW := Lib.hid (bl_box B0.out hb1); clear hb1)
 clear a0 a1 a2 a3 b0 b1 b2 b3 t0 t1 t2 t3 t4 t5 y0 y1 y2 y3 y4 y5 RN B0 HAS
 obtain ⟨z0, z1, z2, z3⟩ := RZ9.four
 have g0 := RZ9.free 0
 have g1 := RZ9.free 1
 have g2 := RZ9.free 2
 have g3 := RZ9.free 3
 iterate 90 (first | go_values | go_skip | go_guarded | go_step | go_upon | go_simp | skip)
 refine bodyPost_ret (v := .tuple #[valV 0 0 0 ⟨#[]⟩, .int .i64 0, .int .i64 e0]) (by simp [results, Tryz.results30, go_sem, z0, z1, z2, z3]) rfl ⟨rfl, ?_⟩
 (repeat refine Below.setCell ?_ (by simp <;> omega) _)
 exact BW.out
set_option maxRecDepth 100000 in
set_option maxHeartbeats 8000000 in
theorem modulo_err {a b : Va} {k p q n : Int} {vy : Bool} {pic : ByteArray} {e0 : Int} (he0 : ¬ e0 = 0) (hAS : ∀ (c cap : Nat) (W : World), VasAt W c 0 [a, b] → c < W.heap.size → Calls Tryz.prog 34 #[.slice (some ⟨c, 0, none⟩) 2 cap, tyV k p q n vy pic] W fun e w' => e = .returned (.int .i64 e0) ∧ Below W.heap.size W w') (w : World) :
   Calls Tryz.prog 17 #[a.v, b.v, tyV k p q n vy pic] w fun e w' => e = .returned (.tuple #[valV 0 0 0 ⟨#[]⟩, .int .i64 0, .int .i64 e0]) ∧ Below w.heap.size w w' := by
 have HAS := Lib.hid hAS
 have RA := ((Row.new w (vaC a.k a.n a.q a.s) 23).alloc (.cells (vaC b.k b.n b.q b.s) 23)).alloc (.cells #[.int .i64 k, .int .i64 p, .int .i64 q, .int .i64 n, .bool vy, .string pic] 25) |>.alloc (.cells (vaC 0 0 0 ⟨#[]⟩) 23)
 have RB := ((Row.new2 w (.cells (vaC a.k a.n a.q a.s) 23) (vaC b.k b.n b.q b.s) 23).alloc (.cells #[.int .i64 k, .int .i64 p, .int .i64 q, .int .i64 n, .bool vy, .string pic] 25)).alloc (.cells (vaC 0 0 0 ⟨#[]⟩) 23)
 have RT := (Row.new3 w (.cells (vaC a.k a.n a.q a.s) 23) (.cells (vaC b.k b.n b.q b.s) 23) #[.int .i64 k, .int .i64 p, .int .i64 q, .int .i64 n, .bool vy, .string pic] 25).alloc (.cells (vaC 0 0 0 ⟨#[]⟩) 23)
 have RZ := row_n3 w (.cells (vaC a.k a.n a.q a.s) 23) (.cells (vaC b.k b.n b.q b.s) 23) (.cells #[.int .i64 k, .int .i64 p, .int .i64 q, .int .i64 n, .bool vy, .string pic] 25) (vaC 0 0 0 ⟨#[]⟩) 23
 go_enter Tryz.func17, Tryz.ntmps17
 go_upto_region 1 with (fail)
 generalize hw : (((w.alloc (.cells (vaC a.k a.n a.q a.s) 23)).alloc (.cells (vaC b.k b.n b.q b.s) 23)).alloc (.cells #[.int .i64 k, .int .i64 p, .int .i64 q, .int .i64 n, .bool vy, .string pic] 25)).alloc (.cells (vaC 0 0 0 ⟨#[]⟩) 23) = W at *
 have B0 : Hid (Below w.heap.size w W) := by show Below _ _ _; rw [← hw]; go_grown
 clear hw hAS
 obtain ⟨a0, a1, a2, a3⟩ := RA.four
 obtain ⟨b0, b1, b2, b3⟩ := RB.four
 obtain ⟨t0, t1, t2, t3, t4, t5⟩ := RT.six
 have RN := Row.new W #[.int .i64 a.k, .int .i64 a.n, .int .i64 a.q, .string a.s, .int .i64 b.k, .int .i64 b.n, .int .i64 b.q, .string b.s] 23
 obtain ⟨y0, y1, y2, y3, y4, y5⟩ := (RT.alloc (.cells #[.int .i64 a.k, .int .i64 a.n, .int .i64 a.q, .string a.s, .int .i64 b.k, .int .i64 b.n, .int .i64 b.q, .string b.s] 23)).six
 go_upto_region 3 with (go_at_call 34; (refine (HAS.out _ _ _ (VasAt.two RN) RN.lt).mono ?_); rintro e W0 ⟨rfl, hb1⟩; have RZ9 := RZ.keep (bl_box (Below.refl _ W) hb1); have BW := Lib.hid (bl_box B0.out hb1); clear hb1)
 clear a0 a1 a2 a3 b0 b1 b2 b3 t0 t1 t2 t3 t4 t5 y0 y1 y2 y3 y4 y5 RN B0 HAS
 obtain ⟨z0, z1, z2, z3⟩ := RZ9.four
 have g0 := RZ9.free 0
 have g1 := RZ9.free 1
 have g2 := RZ9.free 2
 have g3 := RZ9.free 3
 iterate 90 (first | go_values | go_skip | go_guarded | go_step | go_upon | go_simp | skip)
 refine bodyPost_ret (v := .tuple #[valV 0 0 0 ⟨#[]⟩, .int .i64 0, .int .i64 e0]) (by simp [results, Tryz.results17, go_sem, z0, z1, z2, z3]) rfl ⟨rfl, ?_⟩
 (repeat refine Below.setCell ?_ (by simp <;> omega) _)
 exact BW.out
theorem zRef_num {k : Int} {P q : Nat} (hT : NumT k P q) (w : World) : Calls Tryz.prog 35 #[tyV k (P : Int) (q : Int) 0 false ⟨#[]⟩] w fun e w' => e = .returned (.tuple #[vaV k 0 (if k = 3 then 0 else (q : Int)) ⟨#[]⟩, .int .i64 0]) ∧ Below w.heap.size w w' := by
 rcases hT with ⟨rfl, h1, h2, h3⟩ | ⟨rfl, h1, h2, h3⟩ | ⟨rfl, h1, h2, h3⟩
 · exact zRef_1 _ _ _ _ _ w (by decide) (by simp [validS, validFixedS]; omega)
 · exact zRef_2 _ _ _ _ _ w (by decide) (by simp [validS, validFixedS]; omega)
 · subst h3
   exact zRef_3 _ _ _ _ _ w (by decide) (by simp [validS, validFloatS]; omega)
set_option maxRecDepth 100000 in
set_option maxHeartbeats 8000000 in
theorem do_zero {a b : Va} {k : Int} {P q : Nat} (hT : NumT k P q) (ra : a.right) (rb : b.right) (ka : a.number) (kb : b.number) (_la : (digs a.num.natAbs).length ≤ 120) (_lb : (digs b.num.natAbs).length ≤ 120) (_da : (digs a.den).length ≤ 120) (_db : (digs b.den).length ≤ 120) (hAS : ∀ (c cap : Nat) (W : World), VasAt W c 0 [a, b] → c < W.heap.size → Calls Tryz.prog 34 #[.slice (some ⟨c, 0, none⟩) 2 cap, tyV k (P : Int) (q : Int) 0 false ⟨#[]⟩] W fun e w' => e = .returned (.int .i64 0) ∧ Below W.heap.size W w') (hb0 : b.num.natAbs = 0) (w : World) :
   Calls Tryz.prog 30 #[.string ⟨#[47]⟩, a.v, b.v, tyV k (P : Int) (q : Int) 0 false ⟨#[]⟩] w fun e w' => e = .returned (.tuple #[valV k 0 (if k = 3 then 0 else (q : Int)) ⟨#[]⟩, .int .i64 9, .int .i64 0]) ∧ Below w.heap.size w w' := by
 obtain ⟨Zq, hZq⟩ : ∃ z : Int, (if k = 3 then 0 else (q : Int)) = z := ⟨_, rfl⟩
 have HZ : Hid (∀ W, Calls Tryz.prog 35 #[tyV k (P : Int) (q : Int) 0 false ⟨#[]⟩] W fun e w' => e = .returned (.tuple #[vaV k 0 Zq ⟨#[]⟩, .int .i64 0]) ∧ Below W.heap.size W w') := Lib.hid fun W => by rw [← hZq]; exact zRef_num hT W
 have hl : ((digs b.num.natAbs).length : Int) = 0 := by rw [hb0, digs_zero]; rfl
 rw [hZq]
 clear hZq hb0
 obtain ⟨an, hA⟩ : ∃ x, a.num.natAbs = x := ⟨_, rfl⟩
 have HOA : Hid (∀ W, Calls Tryz.prog 27 #[a.v] W (GivesG (RArgP (decide (a.n < 0)) a.num.natAbs a.den) W)) := Lib.hid fun W => (of_va a W ra ka).mono fun _ _ h => givesR_G h
 have HOB : Hid (∀ W, Calls Tryz.prog 27 #[b.v] W (GivesG (RArgP (decide (b.n < 0)) b.num.natAbs b.den) W)) := Lib.hid fun W => (of_va b W rb kb).mono fun _ _ h => givesR_G h
 have HAS : Hid (∀ (c cap : Nat) (W : World), VasAt W c 0 [a, b] → c < W.heap.size → Calls Tryz.prog 34 #[.slice (some ⟨c, 0, none⟩) 2 cap, tyV k (P : Int) (q : Int) 0 false ⟨#[]⟩] W fun e w' => e = .returned (.int .i64 0) ∧ Below W.heap.size W w') := Lib.hid hAS
 clear hA
 have RA := ((Row.new w (vaC a.k a.n a.q a.s) 23).alloc (.cells (vaC b.k b.n b.q b.s) 23)).alloc (.cells #[.int .i64 k, .int .i64 (P : Int), .int .i64 (q : Int), .int .i64 0, .bool false, .string ⟨#[]⟩] 25) |>.alloc (.cells (vaC 0 0 0 ⟨#[]⟩) 23)
 have RB := ((Row.new2 w (.cells (vaC a.k a.n a.q a.s) 23) (vaC b.k b.n b.q b.s) 23).alloc (.cells #[.int .i64 k, .int .i64 (P : Int), .int .i64 (q : Int), .int .i64 0, .bool false, .string ⟨#[]⟩] 25)).alloc (.cells (vaC 0 0 0 ⟨#[]⟩) 23)
 have RT := (Row.new3 w (.cells (vaC a.k a.n a.q a.s) 23) (.cells (vaC b.k b.n b.q b.s) 23) #[.int .i64 k, .int .i64 (P : Int), .int .i64 (q : Int), .int .i64 0, .bool false, .string ⟨#[]⟩] 25).alloc (.cells (vaC 0 0 0 ⟨#[]⟩) 23)
 have RZ := row_n3 w (.cells (vaC a.k a.n a.q a.s) 23) (.cells (vaC b.k b.n b.q b.s) 23) (.cells #[.int .i64 k, .int .i64 (P : Int), .int .i64 (q : Int), .int .i64 0, .bool false, .string ⟨#[]⟩] 25) (vaC 0 0 0 ⟨#[]⟩) 23
 go_enter Tryz.func30, Tryz.ntmps30
 go_upto_region 1 with (fail)
 generalize hw : (((w.alloc (.cells (vaC a.k a.n a.q a.s) 23)).alloc (.cells (vaC b.k b.n b.q b.s) 23)).alloc (.cells #[.int .i64 k, .int .i64 (P : Int), .int .i64 (q : Int), .int .i64 0, .bool false, .string ⟨#[]⟩] 25)).alloc (.cells (vaC 0 0 0 ⟨#[]⟩) 23) = W at *
 have B0 : Hid (Below w.heap.size w W) := by show Below _ _ _; rw [← hw]; go_grown
 clear hw
 obtain ⟨a0, a1, a2, a3⟩ := RA.four
 obtain ⟨b0, b1, b2, b3⟩ := RB.four
 obtain ⟨t0, t1, t2, t3, t4, t5⟩ := RT.six
 have RN := Row.new W #[.int .i64 a.k, .int .i64 a.n, .int .i64 a.q, .string a.s, .int .i64 b.k, .int .i64 b.n, .int .i64 b.q, .string b.s] 23
 obtain ⟨y0, y1, y2, y3, y4, y5⟩ := (RT.alloc (.cells #[.int .i64 a.k, .int .i64 a.n, .int .i64 a.q, .string a.s, .int .i64 b.k, .int .i64 b.n, .int .i64 b.q, .string b.s] 23)).six
 go_wp2_with (go_at_call 34; (refine (HAS.out _ _ _ (VasAt.two RN) RN.lt).mono ?_); rintro e W0 ⟨rfl, hb1⟩; have RA := RA.keep (bl_box (Below.refl _ W) hb1); have RB := RB.keep (bl_box (Below.refl _ W) hb1); have RT := RT.keep (bl_box (Below.refl _ W) hb1); have RZ := RZ.keep (bl_box (Below.refl _ W) hb1); have BW := Lib.hid (bl_box B0.out hb1); clear hb1)
 clear a0 a1 a2 a3 b0 b1 b2 b3 t0 t1 t2 t3 t4 t5 y0 y1 y2 y3 y4 y5 RN B0 HAS
 obtain ⟨a0, a1, a2, a3⟩ := RA.four
 obtain ⟨b0, b1, b2, b3⟩ := RB.four
 go_cut [12, 13] (fun s1 s2 wx => TwoR W0 (decide (a.n < 0)) a.num.natAbs a.den (decide (b.n < 0)) b.num.natAbs b.den s1 s2 wx)
 case first =>
   refine wp_region_held_drew (S := fun w' => (w'.cell? ⟨w.heap.size, 0, none⟩ = some (.int .i64 a.k) ∧ w'.cell? ⟨w.heap.size, 1, none⟩ = some (.int .i64 a.n) ∧ w'.cell? ⟨w.heap.size, 2, none⟩ = some (.int .i64 a.q) ∧ w'.cell? ⟨w.heap.size, 3, none⟩ = some (.string a.s)) ∧ (w'.cell? ⟨w.heap.size + 1, 0, none⟩ = some (.int .i64 b.k) ∧ w'.cell? ⟨w.heap.size + 1, 1, none⟩ = some (.int .i64 b.n) ∧ w'.cell? ⟨w.heap.size + 1, 2, none⟩ = some (.int .i64 b.q) ∧ w'.cell? ⟨w.heap.size + 1, 3, none⟩ = some (.string b.s))) (by kernel_rfl) ?_ (fun hHeld => ?_)
   · exact ⟨RA.four, RB.four⟩
   first
     | (refine wpAnyH_take (i := 0) (v := undef) rfl (by kernel_rfl) (by kernel_rfl) (by kernel_rfl) (fun _ _ _ h => h) (Or.inr ⟨by rfl, rfl⟩) (by assumption) ?_)
     | (refine wpAnyH_take (i := 0) (v := ?_) rfl (by kernel_rfl) (by kernel_rfl) (by kernel_rfl) (fun _ _ _ h => h) (Or.inl ⟨by rfl, ?_⟩) (by assumption) ?_; rotate_left; (· intro w hSw; (try dsimp only at hSw); go_simp; (try with_reducible rfl)))
     | fail "TK 0"
   try simp only [Act.put, List.setIfInBounds_toArray, List.set_cons_zero, List.set_cons_succ, List.getElem_toArray, List.getElem_cons_zero]
   first
     | (refine wpAnyH_take (i := 2) (v := undef) rfl (by kernel_rfl) (by kernel_rfl) (by kernel_rfl) (fun _ _ _ h => h) (Or.inr ⟨by rfl, rfl⟩) (by assumption) ?_)
     | (refine wpAnyH_take (i := 2) (v := ?_) rfl (by kernel_rfl) (by kernel_rfl) (by kernel_rfl) (fun _ _ _ h => h) (Or.inl ⟨by rfl, ?_⟩) (by assumption) ?_; rotate_left; (· intro w hSw; (try dsimp only at hSw); go_simp; (try with_reducible rfl)))
     | fail "TK 2"
   try simp only [Act.put, List.setIfInBounds_toArray, List.set_cons_zero, List.set_cons_succ, List.getElem_toArray, List.getElem_cons_succ, List.getElem_cons_zero]
   have hK1 : ∀ w1 w2 : World, (w1.cell? ⟨w.heap.size, 0, none⟩ = some (.int .i64 a.k) ∧ w1.cell? ⟨w.heap.size, 1, none⟩ = some (.int .i64 a.n) ∧ w1.cell? ⟨w.heap.size, 2, none⟩ = some (.int .i64 a.q) ∧ w1.cell? ⟨w.heap.size, 3, none⟩ = some (.string a.s)) ∧ (w1.cell? ⟨w.heap.size + 1, 0, none⟩ = some (.int .i64 b.k) ∧ w1.cell? ⟨w.heap.size + 1, 1, none⟩ = some (.int .i64 b.n) ∧ w1.cell? ⟨w.heap.size + 1, 2, none⟩ = some (.int .i64 b.q) ∧ w1.cell? ⟨w.heap.size + 1, 3, none⟩ = some (.string b.s)) → Below w1.heap.size w1 w2 → (w2.cell? ⟨w.heap.size, 0, none⟩ = some (.int .i64 a.k) ∧ w2.cell? ⟨w.heap.size, 1, none⟩ = some (.int .i64 a.n) ∧ w2.cell? ⟨w.heap.size, 2, none⟩ = some (.int .i64 a.q) ∧ w2.cell? ⟨w.heap.size, 3, none⟩ = some (.string a.s)) ∧ (w2.cell? ⟨w.heap.size + 1, 0, none⟩ = some (.int .i64 b.k) ∧ w2.cell? ⟨w.heap.size + 1, 1, none⟩ = some (.int .i64 b.n) ∧ w2.cell? ⟨w.heap.size + 1, 2, none⟩ = some (.int .i64 b.q) ∧ w2.cell? ⟨w.heap.size + 1, 3, none⟩ = some (.string b.s)) := by
     rintro w1 w2 ⟨⟨s0, s1, s2, s3⟩, ⟨s4, s5, s6, s7⟩⟩ hb
     exact ⟨⟨cell_keep s0 hb, cell_keep s1 hb, cell_keep s2 hb, cell_keep s3 hb⟩, ⟨cell_keep s4 hb, cell_keep s5 hb, cell_keep s6 hb, cell_keep s7 hb⟩⟩
   have hB0 : Below W0.heap.size W0 W0.drew := (Below.refl _ W0).drew
   refine any2 (W0 := W0) (cs := #[.bool false, .slice none 0 0, .slice none 0 0]) (t := 52) 28 30 12 13 1 3 4 5 (fun c b1 b2 => #[true, decide (1 ≤ c), true, decide (2 ≤ c), b1, b2, false, false]) (RArgP (decide (a.n < 0)) a.num.natAbs a.den) (RArgP (decide (b.n < 0)) b.num.natAbs b.den) (by decide) (by decide) (by decide) (by decide) (by decide) (by decide) (RArgP.stays _ _ _) (RArgP.stays _ _ _) rfl rfl (by kernel_rfl) hB0 hHeld hK1 ?_
     rfl (fun _ => rfl) rfl (fun _ _ _ _ _ => by kernel_rfl) (fun W _ => HOA.out W) (fun _ _ => rfl)
     rfl (fun _ => rfl) rfl (fun _ _ _ _ _ => by kernel_rfl) (fun W _ => HOB.out W) (fun _ _ => rfl)
     rfl (fun _ => rfl) rfl (fun _ _ => by kernel_rfl) (fun _ _ => rfl)
     rfl (fun _ => rfl) rfl (fun _ _ => by kernel_rfl) (fun _ _ => rfl) ?_ ?_
   · intro c b1 b2 hn hc
     obtain rfl | rfl | rfl : c = 0 ∨ c = 1 ∨ c = 2 := by omega
     all_goals (cases b1 <;> cases b2)
     all_goals first
       | (exfalso; simp at hn; done)
       | kernel_rfl
   · intro c b1 b2 hc hl
     obtain rfl | rfl | rfl : c = 0 ∨ c = 1 ∨ c = 2 := by omega
     all_goals (cases b1 <;> cases b2 <;> simp at hl ⊢)
   intro r1 r2 n1 n2 wz hS hBz m1 m2 d12 X1 X2 g1 g2
   obtain ⟨y1, z1, rfl, D1n, D1d⟩ := g1
   obtain ⟨y2, z2, rfl, D2n, D2d⟩ := g2
   obtain ⟨p1, k1, rfl⟩ := D1n.sliceP
   obtain ⟨p4, k4, rfl⟩ := D1d.sliceP
   obtain ⟨p2, k2, rfl⟩ := D2n.sliceP
   obtain ⟨p5, k5, rfl⟩ := D2d.sliceP
   have RAz := RA.keep hBz
   have RBz := RB.keep hBz
   have lA := RA.lt
   have lB := RB.lt
   have s21 : ¬ n2 = n1 := fun e => d12 e.symm
   have pa1 : ¬ n1 = w.heap.size := by omega
   have pa2 : ¬ n2 = w.heap.size := by omega
   have pb1 : ¬ n1 = w.heap.size + 1 := by omega
   have pb2 : ¬ n2 = w.heap.size + 1 := by omega
   have A1 := RAz.set3 pa1 (.bool (decide (a.n < 0))) (.slice p1 (digs a.num.natAbs).length k1) (.slice p4 (digs a.den).length k4)
   have A2 := A1.set3 pa2 (.bool (decide (b.n < 0))) (.slice p2 (digs b.num.natAbs).length k2) (.slice p5 (digs b.den).length k5)
   have C1 := RBz.set3 pb1 (.bool (decide (a.n < 0))) (.slice p1 (digs a.num.natAbs).length k1) (.slice p4 (digs a.den).length k4)
   have C2 := C1.set3 pb2 (.bool (decide (b.n < 0))) (.slice p2 (digs b.num.natAbs).length k2) (.slice p5 (digs b.den).length k5)
   have Y11 := X1.pute (.bool (decide (a.n < 0))) (.slice p1 (digs a.num.natAbs).length k1) (.slice p4 (digs a.den).length k4)
   have Y21 := X2.set3 d12 (.bool (decide (a.n < 0))) (.slice p1 (digs a.num.natAbs).length k1) (.slice p4 (digs a.den).length k4)
   have Y12 := Y11.set3 s21 (.bool (decide (b.n < 0))) (.slice p2 (digs b.num.natAbs).length k2) (.slice p5 (digs b.den).length k5)
   have Y22 := Y21.pute (.bool (decide (b.n < 0))) (.slice p2 (digs b.num.natAbs).length k2) (.slice p5 (digs b.den).length k5)
   have SC : Same (Free W0.heap.size [some n1, some n2]) wz ((((((wz.setCell ⟨n1, 0, none⟩ (.bool (decide (a.n < 0)))).setCell ⟨n1, 1, none⟩ (.slice p1 (digs a.num.natAbs).length k1)).setCell ⟨n1, 2, none⟩ (.slice p4 (digs a.den).length k4)).setCell ⟨n2, 0, none⟩ (.bool (decide (b.n < 0)))).setCell ⟨n2, 1, none⟩ (.slice p2 (digs b.num.natAbs).length k2)).setCell ⟨n2, 2, none⟩ (.slice p5 (digs b.den).length k5)) :=
     (((((((Same.refl _ wz).set (a := ⟨n1, 0, none⟩) (not_free (by simp)) _).set (a := ⟨n1, 1, none⟩) (not_free (by simp)) _).set (a := ⟨n1, 2, none⟩) (not_free (by simp)) _).set (a := ⟨n2, 0, none⟩) (not_free (by simp)) _).set (a := ⟨n2, 1, none⟩) (not_free (by simp)) _).set (a := ⟨n2, 2, none⟩) (not_free (by simp)) _)
   have BC : Below W0.heap.size W0 ((((((wz.setCell ⟨n1, 0, none⟩ (.bool (decide (a.n < 0)))).setCell ⟨n1, 1, none⟩ (.slice p1 (digs a.num.natAbs).length k1)).setCell ⟨n1, 2, none⟩ (.slice p4 (digs a.den).length k4)).setCell ⟨n2, 0, none⟩ (.bool (decide (b.n < 0)))).setCell ⟨n2, 1, none⟩ (.slice p2 (digs b.num.natAbs).length k2)).setCell ⟨n2, 2, none⟩ (.slice p5 (digs b.den).length k5)) :=
     ((((((hBz.setCell (p := ⟨n1, 0, none⟩) m1 _).setCell (p := ⟨n1, 1, none⟩) m1 _).setCell (p := ⟨n1, 2, none⟩) m1 _).setCell (p := ⟨n2, 0, none⟩) m2 _).setCell (p := ⟨n2, 1, none⟩) m2 _).setCell (p := ⟨n2, 2, none⟩) m2 _)
   obtain ⟨h10, h11, h12⟩ := X1.three3
   have f10 := X1.free 0
   have f11 := X1.free 1
   have f12 := X1.free 2
   obtain ⟨h20, h21, h22⟩ := Y21.three3
   have f20 := Y21.free 0
   have f21 := Y21.free 1
   have f22 := Y21.free 2
   show wpAnyH _ _ _ _ _ 2 _ _ _
   simp only [act2, List.setIfInBounds_toArray, List.set_cons_zero, List.set_cons_succ]
   refine wpAnyH_ready (rs := [6]) (by kernel_rfl) (by simp) ?_
   refine AllReadyH.cons rfl (fun K hK => ?_) AllReadyH.nil
   try simp only [List.getElem_toArray, List.getElem_cons_succ, List.getElem_cons_zero]
   go_simp
   refine hK.out _ _ ⟨A1.four, C1.four⟩ (fun hHeld2 => ?_)
   clear hK K hHeld2
   refine wpAnyH_ready (rs := [7]) (by kernel_rfl) (by simp) ?_
   refine AllReadyH.cons rfl (fun K hK => ?_) AllReadyH.nil
   try simp only [List.getElem_toArray, List.getElem_cons_succ, List.getElem_cons_zero]
   clear h10 h11 h12 f10 f11 f12
   go_simp
   refine hK.out _ _ ⟨A2.four, C2.four⟩ (fun hHeld2 => ?_)
   clear hK K hHeld2
   clear h20 h21 h22 f20 f21 f22 A1 A2 C1 C2 Y11 Y21 RAz RBz X1 X2
   refine wpAnyH_done (by kernel_rfl) ?_ _
   go_wp2_with fail
   go_meet
   exact ⟨n1, n2, p1, k1, p4, k4, p2, k2, p5, k5, rfl, rfl, d12, m1, m2, Y12, Y22, (D1n.same SC).arg (fun _ _ => Nat.zero_le _), (D1d.same SC).arg (fun _ _ => Nat.zero_le _), (D2n.same SC).arg (fun _ _ => Nat.zero_le _), (D2d.same SC).arg (fun _ _ => Nat.zero_le _), BC⟩
 case rest =>
   obtain ⟨w5, rfl⟩ : ∃ w5 : World, w5 = wc := ⟨_, rfl⟩
   obtain ⟨n1, n2, p1, k1, p4, k4, p2, k2, p5, k5, rfl, rfl, d12, m1, m2, X1, X2, E1, E2, E3, E4, BC⟩ := hcut
   have RA5 := RA.keep BC
   have RT5 := RT.keep BC
   have RZ5 := RZ.keep BC
   have BW5 := Lib.hid (bl_then BW.out BC)
   have lT := RT.lt
   have BW7s := BW.out.size
   have lZ := RZ.lt
   have nt1 : ¬ n1 = w.heap.size + 1 + 1 := by omega
   have nt1' : ¬ w.heap.size + 1 + 1 = n1 := by omega
   have nz1 : ¬ n1 = w.heap.size + 1 + 1 + 1 := by omega
   have nz1' : ¬ w.heap.size + 1 + 1 + 1 = n1 := by omega
   have HAX : Hid (RArg 0 w5 (reV (decide (a.n < 0)) (.slice p1 (digs a.num.natAbs).length k1) (.slice p4 (digs a.den).length k4)) (decide (a.n < 0)) a.num.natAbs a.den) := Lib.hid ⟨_, _, rfl, E1, E2⟩
   have HBX : Hid (RArg 0 w5 (reV (decide (b.n < 0)) (.slice p2 (digs b.num.natAbs).length k2) (.slice p5 (digs b.den).length k5)) (decide (b.n < 0)) b.num.natAbs b.den) := Lib.hid ⟨_, _, rfl, E3, E4⟩
   clear E1 E2 E3 E4 BC RA RB RT RZ BW HOA HOB  a0 a1 a2 a3 b0 b1 b2 b3 RA5 _la _lb _da _db ra rb ka kb hT
   obtain ⟨y0, y1, y2⟩ := X2.ex
   obtain ⟨t0, t1, t2, t3, t4, t5⟩ := RT5.six
   go_upto_region 8 with (go_at_call 35; refine (HZ.out _).mono ?_; rintro e w8 ⟨rfl, hb⟩; have RV8 := Row.new w8 (vaC 0 0 0 ⟨#[]⟩) 23; have RV9 := Row.new w8 #[.int .i64 k, .int .i64 0, .int .i64 Zq, .string ⟨#[]⟩] 23; have RZ9 := (RZ5.keep hb).alloc (.cells #[.int .i64 k, .int .i64 0, .int .i64 Zq, .string ⟨#[]⟩] 23); have BW9 := Lib.hid ((bl_then BW5.out hb).alloc (bl_then BW5.out hb).size (.cells #[.int .i64 k, .int .i64 0, .int .i64 Zq, .string ⟨#[]⟩] 23)); have lZ8 := (RZ5.keep hb).lt; obtain ⟨v0, v1, v2, v3⟩ := RV8.four; have g0 := RV8.free 0; have g1 := RV8.free 1; have g2 := RV8.free 2; have g3 := RV8.free 3; clear hb)
   clear v0 v1 v2 v3 g0 g1 g2 g3 RV8
   obtain ⟨v0, v1, v2, v3⟩ := RV9.four
   obtain ⟨z0, z1, z2, z3⟩ := RZ9.four
   have g0 := RZ9.free 0
   have g1 := RZ9.free 1
   have g2 := RZ9.free 2
   have g3 := RZ9.free 3
   clear RV9 RZ9
   generalize w8.alloc (.cells #[.int .i64 k, .int .i64 0, .int .i64 Zq, .string ⟨#[]⟩] 23) = we at *
   iterate 90 (first | go_values | go_skip | go_guarded | go_step | go_upon | go_simp | skip)
   refine bodyPost_ret (v := .tuple #[valV k 0 Zq ⟨#[]⟩, .int .i64 9, .int .i64 0]) (by simp [results, Tryz.results30, go_sem, z0, z1, z2, z3]) rfl ⟨rfl, ?_⟩
   (repeat refine Below.setCell ?_ (by simp <;> omega) _)
   exact BW9.out
theorem times_sgn (na nb : Bool) (A C : Nat) : sgn (timesN na nb (A * C)) (A * C) = sgn na A * sgn nb C := by
 unfold timesN
 by_cases h : 0 < A * C
 · rw [decide_eq_true h]
   cases na <;> cases nb <;> simp [sgn, Int.neg_mul, Int.mul_neg]
 · have h0 : A * C = 0 := by omega
   rw [decide_eq_false h, h0]
   have h00 : (A : Int) * (C : Int) = 0 := by rw [← Int.natCast_mul, h0]; rfl
   cases na <;> cases nb <;> simp [sgn, Int.neg_mul, Int.mul_neg, h00]
theorem and_sgn (s : Bool) (A : Nat) : sgn (s && decide (0 < A)) A = sgn s A := by
 by_cases h : 0 < A
 · rw [decide_eq_true h, Bool.and_true]
 · have h0 : A = 0 := by omega
   rw [h0]
   cases s <;> rfl
theorem floor_sgn (s : Bool) (A D : Nat) (hD : 0 < D) : sgn s (flM s A D) = sgn s A / (D : Int) := by
 have e := Nat.div_add_mod A D
 have hr := Nat.mod_lt A hD
 unfold flM
 generalize A / D = q at *
 generalize A % D = r at *
 subst e
 have hD' : (D : Int) ≠ 0 := by omega
 cases s
 · rw [if_neg (by simp)]
   unfold sgn
   rw [if_neg (by decide), if_neg (by decide), Int.natCast_add, Int.natCast_mul, Int.add_comm, Int.add_mul_ediv_left _ _ hD', Int.ediv_eq_zero_of_lt (by omega) (by omega)]
   omega
 · by_cases h0 : r = 0
   · subst h0
     rw [if_neg (by simp)]
     unfold sgn
     rw [if_pos rfl, if_pos rfl, Nat.add_zero, Int.natCast_mul, ← Int.mul_neg, Int.mul_ediv_cancel_left _ hD']
   · rw [if_pos ⟨rfl, h0⟩]
     unfold sgn
     rw [if_pos rfl, if_pos rfl, show -(((D * q + r : Nat) : Int)) = ((D : Int) - r) + (D : Int) * (-((q : Int) + 1)) by rw [Int.natCast_add, Int.natCast_mul, Int.mul_neg, Int.mul_add]; omega, Int.add_mul_ediv_left _ _ hD', Int.ediv_eq_zero_of_lt (by omega) (by omega)]
     omega
theorem flM_le (s : Bool) (A D : Nat) : flM s A D ≤ A + 1 := by
 have := Nat.div_le_self A D
 unfold flM
 split <;> omega
theorem digs_len_one : (digs 1).length = 1 := by rw [digs_pos 1 (by decide), show 1 / 10 = 0 from rfl, digs_zero]; rfl
theorem mod_steps {a b : Va} (_ra : a.right) (_rb : b.right) (ka : a.number) (_kb : b.number) (la : (digs a.num.natAbs).length ≤ 120) (lb : (digs b.num.natAbs).length ≤ 120) (da : (digs a.den).length ≤ 120) (db : (digs b.den).length ≤ 120) (hb0 : 0 < b.num.natAbs) : ∃ OG ON OD FG FM TG TM TD NB NG NU DE,
       Hid (∀ (v1 v2 : Value) (W : World), RArg 0 W v1 (decide (a.n < 0)) a.num.natAbs a.den → RArg 0 W v2 (decide (b.n < 0)) b.num.natAbs b.den → Calls Tryz.prog 41 #[v1, v2] W (GivesR W OG ON OD)) ∧
       Hid (∀ (v : Value) (W : World), RArg 0 W v OG ON OD → Calls Tryz.prog 40 #[v] W (GivesR W FG FM 1)) ∧
       Hid (∀ (v1 v2 : Value) (W : World), RArg 0 W v1 (decide (b.n < 0)) b.num.natAbs b.den → RArg 0 W v2 FG FM 1 → Calls Tryz.prog 39 #[v1, v2] W (GivesR W TG TM TD)) ∧
       Hid (∀ (v : Value) (W : World), RArg 0 W v TG TM TD → Calls Tryz.prog 38 #[v] W fun e w' => ∃ v', e = .returned v' ∧ RArg 0 w' v' NB TM TD ∧ Below W.heap.size W w') ∧
       Hid (∀ (v1 v2 : Value) (W : World), RArg 0 W v1 (decide (a.n < 0)) a.num.natAbs a.den → RArg 0 W v2 NB TM TD → Calls Tryz.prog 37 #[v1, v2] W (GivesR W NG NU DE)) ∧ Reck NG NU DE (a.num * ((b.den * 1 : Nat) : Int) - b.num * (sgn (decide (a.n < 0) != decide (b.n < 0)) (a.num.natAbs * b.den) / ((a.den * b.num.natAbs : Nat) : Int)) * (a.den : Int)) (a.den * (b.den * 1)) := by
 have l1 := digs_len_mul a.num.natAbs b.den
 have l2 := digs_len_mul a.den b.num.natAbs
 obtain ⟨ON, hON⟩ : ∃ x, a.num.natAbs * b.den = x := ⟨_, rfl⟩
 obtain ⟨OD, hOD⟩ : ∃ x, a.den * b.num.natAbs = x := ⟨_, rfl⟩
 have hD : 0 < OD := by rw [← hOD]; exact Nat.mul_pos a.den_pos hb0
 rw [hON] at l1
 rw [hOD] at l2
 obtain ⟨OG, hOG⟩ : ∃ x, ((decide (a.n < 0) != decide (b.n < 0)) && decide (0 < ON)) = x := ⟨_, rfl⟩
 obtain ⟨FM, hFM⟩ : ∃ x, flM OG ON OD = x := ⟨_, rfl⟩
 have lF : (digs FM).length ≤ 242 := by
   rw [← hFM]
   have h1 := digs_len_add ON 1
   rw [digs_len_one] at h1
   exact Nat.le_trans (digs_len_mono (flM_le OG ON OD)) (by omega)
 obtain ⟨TM, hTM⟩ : ∃ x, b.num.natAbs * FM = x := ⟨_, rfl⟩
 have lT := digs_len_mul b.num.natAbs FM
 rw [hTM] at lT
 have lD := digs_len_mul b.den 1
 rw [digs_len_one] at lD
 obtain ⟨TG, hTG⟩ : ∃ x, timesN (decide (b.n < 0)) (OG && decide (0 < FM)) TM = x := ⟨_, rfl⟩
 obtain ⟨NB, hNB⟩ : ∃ x, (!TG && decide (0 < TM)) = x := ⟨_, rfl⟩
 have lA := digs_len_mul a.num.natAbs (b.den * 1)
 have lC := digs_len_mul TM a.den
 have lE := digs_len_mul a.den (b.den * 1)
 have pT : NB = true → 0 < TM := fun h => by rw [← hNB, Bool.and_eq_true] at h; exact of_decide_eq_true h.2
 have pD : 0 < b.den * 1 := by rw [Nat.mul_one]; exact b.den_pos
 refine ⟨OG, ON, OD, OG && decide (0 < FM), FM, TG, TM, b.den * 1, NB, _, _, _, Lib.hid fun v1 v2 W h1 h2 => ?_, Lib.hid fun v W h => ?_, Lib.hid fun v1 v2 W h1 h2 => ?_, Lib.hid fun v W h => ?_, Lib.hid fun v1 v2 W h1 h2 => both_d h1 h2 (by omega) (by omega) (by omega) (by omega) a.den_pos pD (num_pos ka) pT, ?_, rfl, Nat.mul_pos a.den_pos pD, fun h => both_pos h (fun hb => Nat.mul_pos (pT hb) a.den_pos), Nat.le_trans (both_len _ _ _ _ 600 (by omega) (by omega)) (by decide), by omega⟩
 · have h := over_d h1 h2 (by omega) (by omega) (by omega) (by omega)
   rw [hON, hOD, hOG] at h
   exact h
 · have h := floor_d h hD (by omega) (by omega)
   rw [hFM] at h
   exact h
 · have h := times_d h1 h2 (by omega) (by omega) (by omega) (by rw [digs_len_one]; decide)
   rw [hTM, hTG] at h
   exact h
 · have h := turn_d h
   rw [hNB] at h
   exact h
 · rw [both_sgn, sgn_mul, num_sgn, ← hNB, turn_sgn, sgn_mul, ← hTG, ← hTM, times_sgn, num_sgn, and_sgn, ← hFM, floor_sgn _ _ _ hD, ← hOG, and_sgn, hON, hOD]
   omega
set_option maxRecDepth 100000 in
set_option maxHeartbeats 16000000 in
theorem modulo_num {a b : Va} {k : Int} {P q : Nat} (hT : NumT k P q) (ra : a.right) (rb : b.right) (ka : a.number) (kb : b.number) (la : (digs a.num.natAbs).length ≤ 120) (lb : (digs b.num.natAbs).length ≤ 120) (da : (digs a.den).length ≤ 120) (db : (digs b.den).length ≤ 120) (hAS : ∀ (c cap : Nat) (W : World), VasAt W c 0 [a, b] → c < W.heap.size → Calls Tryz.prog 34 #[.slice (some ⟨c, 0, none⟩) 2 cap, tyV k (P : Int) (q : Int) 0 false ⟨#[]⟩] W fun e w' => e = .returned (.int .i64 0) ∧ Below W.heap.size W w') (hb0 : 0 < b.num.natAbs) (w : World) :
   Calls Tryz.prog 17 #[a.v, b.v, tyV k (P : Int) (q : Int) 0 false ⟨#[]⟩] w (DoPost w k P q 4 (a.num * ((b.den * 1 : Nat) : Int) - b.num * (sgn (decide (a.n < 0) != decide (b.n < 0)) (a.num.natAbs * b.den) / ((a.den * b.num.natAbs : Nat) : Int)) * (a.den : Int)) (a.den * (b.den * 1))) := by
 obtain ⟨OG, ON, OD, FG, FM, TG, TM, TD, NB, NG, NU, DE, H4, H5, H6, H7, H8, HRK⟩ : ∃ OG ON OD FG FM TG TM TD NB NG NU DE,
     Hid (∀ (v1 v2 : Value) (W : World), RArg 0 W v1 (decide (a.n < 0)) a.num.natAbs a.den → RArg 0 W v2 (decide (b.n < 0)) b.num.natAbs b.den → Calls Tryz.prog 41 #[v1, v2] W (GivesR W OG ON OD)) ∧
     Hid (∀ (v : Value) (W : World), RArg 0 W v OG ON OD → Calls Tryz.prog 40 #[v] W (GivesR W FG FM 1)) ∧
     Hid (∀ (v1 v2 : Value) (W : World), RArg 0 W v1 (decide (b.n < 0)) b.num.natAbs b.den → RArg 0 W v2 FG FM 1 → Calls Tryz.prog 39 #[v1, v2] W (GivesR W TG TM TD)) ∧
     Hid (∀ (v : Value) (W : World), RArg 0 W v TG TM TD → Calls Tryz.prog 38 #[v] W fun e w' => ∃ v', e = .returned v' ∧ RArg 0 w' v' NB TM TD ∧ Below W.heap.size W w') ∧
     Hid (∀ (v1 v2 : Value) (W : World), RArg 0 W v1 (decide (a.n < 0)) a.num.natAbs a.den → RArg 0 W v2 NB TM TD → Calls Tryz.prog 37 #[v1, v2] W (GivesR W NG NU DE)) ∧ Reck NG NU DE (a.num * ((b.den * 1 : Nat) : Int) - b.num * (sgn (decide (a.n < 0) != decide (b.n < 0)) (a.num.natAbs * b.den) / ((a.den * b.num.natAbs : Nat) : Int)) * (a.den : Int)) (a.den * (b.den * 1)) := mod_steps ra rb ka kb la lb da db hb0
 have HL := Lib.hid hb0
 obtain ⟨Z, hZ⟩ : ∃ Z : Int, (a.num * ((b.den * 1 : Nat) : Int) - b.num * (sgn (decide (a.n < 0) != decide (b.n < 0)) (a.num.natAbs * b.den) / ((a.den * b.num.natAbs : Nat) : Int)) * (a.den : Int)) = Z := ⟨_, rfl⟩
 obtain ⟨U, hU⟩ : ∃ U : Nat, (a.den * (b.den * 1)) = U := ⟨_, rfl⟩
 rw [hZ, hU] at HRK ⊢
 have HFIT : Hid (∀ (v : Value) (W : World), RArg 0 W v NG NU DE → Calls Tryz.prog 36 #[v, tyV k (P : Int) (q : Int) 0 false ⟨#[]⟩, .int .i64 4] W (FitPost W k P q 4 Z U)) := Lib.hid fun v W h => by
   obtain ⟨r1, r2, r3, r4, r5, r6⟩ := HRK
   rw [← r1, ← r2]
   exact fitTo_d hT h r3 r4 r5 r6
 clear hZ hU HRK
 clear hb0
 obtain ⟨an, hA⟩ : ∃ x, a.num.natAbs = x := ⟨_, rfl⟩
 have HOA : Hid (∀ W, Calls Tryz.prog 27 #[a.v] W (GivesG (RArgP (decide (a.n < 0)) a.num.natAbs a.den) W)) := Lib.hid fun W => (of_va a W ra ka).mono fun _ _ h => givesR_G h
 have HOB : Hid (∀ W, Calls Tryz.prog 27 #[b.v] W (GivesG (RArgP (decide (b.n < 0)) b.num.natAbs b.den) W)) := Lib.hid fun W => (of_va b W rb kb).mono fun _ _ h => givesR_G h
 have HAS : Hid (∀ (c cap : Nat) (W : World), VasAt W c 0 [a, b] → c < W.heap.size → Calls Tryz.prog 34 #[.slice (some ⟨c, 0, none⟩) 2 cap, tyV k (P : Int) (q : Int) 0 false ⟨#[]⟩] W fun e w' => e = .returned (.int .i64 0) ∧ Below W.heap.size W w') := Lib.hid hAS
 clear hA
 have RA := ((Row.new w (vaC a.k a.n a.q a.s) 23).alloc (.cells (vaC b.k b.n b.q b.s) 23)).alloc (.cells #[.int .i64 k, .int .i64 (P : Int), .int .i64 (q : Int), .int .i64 0, .bool false, .string ⟨#[]⟩] 25) |>.alloc (.cells (vaC 0 0 0 ⟨#[]⟩) 23)
 have RB := ((Row.new2 w (.cells (vaC a.k a.n a.q a.s) 23) (vaC b.k b.n b.q b.s) 23).alloc (.cells #[.int .i64 k, .int .i64 (P : Int), .int .i64 (q : Int), .int .i64 0, .bool false, .string ⟨#[]⟩] 25)).alloc (.cells (vaC 0 0 0 ⟨#[]⟩) 23)
 have RT := (Row.new3 w (.cells (vaC a.k a.n a.q a.s) 23) (.cells (vaC b.k b.n b.q b.s) 23) #[.int .i64 k, .int .i64 (P : Int), .int .i64 (q : Int), .int .i64 0, .bool false, .string ⟨#[]⟩] 25).alloc (.cells (vaC 0 0 0 ⟨#[]⟩) 23)
 have RZ := row_n3 w (.cells (vaC a.k a.n a.q a.s) 23) (.cells (vaC b.k b.n b.q b.s) 23) (.cells #[.int .i64 k, .int .i64 (P : Int), .int .i64 (q : Int), .int .i64 0, .bool false, .string ⟨#[]⟩] 25) (vaC 0 0 0 ⟨#[]⟩) 23
 go_enter Tryz.func17, Tryz.ntmps17
 go_upto_region 1 with (fail)
 generalize hw : (((w.alloc (.cells (vaC a.k a.n a.q a.s) 23)).alloc (.cells (vaC b.k b.n b.q b.s) 23)).alloc (.cells #[.int .i64 k, .int .i64 (P : Int), .int .i64 (q : Int), .int .i64 0, .bool false, .string ⟨#[]⟩] 25)).alloc (.cells (vaC 0 0 0 ⟨#[]⟩) 23) = W at *
 have B0 : Hid (Below w.heap.size w W) := by show Below _ _ _; rw [← hw]; go_grown
 clear hw
 obtain ⟨a0, a1, a2, a3⟩ := RA.four
 obtain ⟨b0, b1, b2, b3⟩ := RB.four
 obtain ⟨t0, t1, t2, t3, t4, t5⟩ := RT.six
 have RN := Row.new W #[.int .i64 a.k, .int .i64 a.n, .int .i64 a.q, .string a.s, .int .i64 b.k, .int .i64 b.n, .int .i64 b.q, .string b.s] 23
 obtain ⟨y0, y1, y2, y3, y4, y5⟩ := (RT.alloc (.cells #[.int .i64 a.k, .int .i64 a.n, .int .i64 a.q, .string a.s, .int .i64 b.k, .int .i64 b.n, .int .i64 b.q, .string b.s] 23)).six
 go_wp2_with (go_at_call 34; (refine (HAS.out _ _ _ (VasAt.two RN) RN.lt).mono ?_); rintro e W0 ⟨rfl, hb1⟩; have RA := RA.keep (bl_box (Below.refl _ W) hb1); have RB := RB.keep (bl_box (Below.refl _ W) hb1); have RT := RT.keep (bl_box (Below.refl _ W) hb1); have RZ := RZ.keep (bl_box (Below.refl _ W) hb1); have BW := Lib.hid (bl_box B0.out hb1); clear hb1)
 clear a0 a1 a2 a3 b0 b1 b2 b3 t0 t1 t2 t3 t4 t5 y0 y1 y2 y3 y4 y5 RN B0 HAS
 obtain ⟨a0, a1, a2, a3⟩ := RA.four
 obtain ⟨b0, b1, b2, b3⟩ := RB.four
 go_cut [10, 11] (fun s1 s2 wx => TwoR W0 (decide (a.n < 0)) a.num.natAbs a.den (decide (b.n < 0)) b.num.natAbs b.den s1 s2 wx)
 case first =>
   refine wp_region_held_drew (S := fun w' => (w'.cell? ⟨w.heap.size, 0, none⟩ = some (.int .i64 a.k) ∧ w'.cell? ⟨w.heap.size, 1, none⟩ = some (.int .i64 a.n) ∧ w'.cell? ⟨w.heap.size, 2, none⟩ = some (.int .i64 a.q) ∧ w'.cell? ⟨w.heap.size, 3, none⟩ = some (.string a.s)) ∧ (w'.cell? ⟨w.heap.size + 1, 0, none⟩ = some (.int .i64 b.k) ∧ w'.cell? ⟨w.heap.size + 1, 1, none⟩ = some (.int .i64 b.n) ∧ w'.cell? ⟨w.heap.size + 1, 2, none⟩ = some (.int .i64 b.q) ∧ w'.cell? ⟨w.heap.size + 1, 3, none⟩ = some (.string b.s))) (by kernel_rfl) ?_ (fun hHeld => ?_)
   · exact ⟨RA.four, RB.four⟩
   first
     | (refine wpAnyH_take (i := 0) (v := undef) rfl (by kernel_rfl) (by kernel_rfl) (by kernel_rfl) (fun _ _ _ h => h) (Or.inr ⟨by rfl, rfl⟩) (by assumption) ?_)
     | (refine wpAnyH_take (i := 0) (v := ?_) rfl (by kernel_rfl) (by kernel_rfl) (by kernel_rfl) (fun _ _ _ h => h) (Or.inl ⟨by rfl, ?_⟩) (by assumption) ?_; rotate_left; (· intro w hSw; (try dsimp only at hSw); go_simp; (try with_reducible rfl)))
     | fail "TK 0"
   try simp only [Act.put, List.setIfInBounds_toArray, List.set_cons_zero, List.set_cons_succ, List.getElem_toArray, List.getElem_cons_zero]
   first
     | (refine wpAnyH_take (i := 2) (v := undef) rfl (by kernel_rfl) (by kernel_rfl) (by kernel_rfl) (fun _ _ _ h => h) (Or.inr ⟨by rfl, rfl⟩) (by assumption) ?_)
     | (refine wpAnyH_take (i := 2) (v := ?_) rfl (by kernel_rfl) (by kernel_rfl) (by kernel_rfl) (fun _ _ _ h => h) (Or.inl ⟨by rfl, ?_⟩) (by assumption) ?_; rotate_left; (· intro w hSw; (try dsimp only at hSw); go_simp; (try with_reducible rfl)))
     | fail "TK 2"
   try simp only [Act.put, List.setIfInBounds_toArray, List.set_cons_zero, List.set_cons_succ, List.getElem_toArray, List.getElem_cons_succ, List.getElem_cons_zero]
   have hK1 : ∀ w1 w2 : World, (w1.cell? ⟨w.heap.size, 0, none⟩ = some (.int .i64 a.k) ∧ w1.cell? ⟨w.heap.size, 1, none⟩ = some (.int .i64 a.n) ∧ w1.cell? ⟨w.heap.size, 2, none⟩ = some (.int .i64 a.q) ∧ w1.cell? ⟨w.heap.size, 3, none⟩ = some (.string a.s)) ∧ (w1.cell? ⟨w.heap.size + 1, 0, none⟩ = some (.int .i64 b.k) ∧ w1.cell? ⟨w.heap.size + 1, 1, none⟩ = some (.int .i64 b.n) ∧ w1.cell? ⟨w.heap.size + 1, 2, none⟩ = some (.int .i64 b.q) ∧ w1.cell? ⟨w.heap.size + 1, 3, none⟩ = some (.string b.s)) → Below w1.heap.size w1 w2 → (w2.cell? ⟨w.heap.size, 0, none⟩ = some (.int .i64 a.k) ∧ w2.cell? ⟨w.heap.size, 1, none⟩ = some (.int .i64 a.n) ∧ w2.cell? ⟨w.heap.size, 2, none⟩ = some (.int .i64 a.q) ∧ w2.cell? ⟨w.heap.size, 3, none⟩ = some (.string a.s)) ∧ (w2.cell? ⟨w.heap.size + 1, 0, none⟩ = some (.int .i64 b.k) ∧ w2.cell? ⟨w.heap.size + 1, 1, none⟩ = some (.int .i64 b.n) ∧ w2.cell? ⟨w.heap.size + 1, 2, none⟩ = some (.int .i64 b.q) ∧ w2.cell? ⟨w.heap.size + 1, 3, none⟩ = some (.string b.s)) := by
     rintro w1 w2 ⟨⟨s0, s1, s2, s3⟩, ⟨s4, s5, s6, s7⟩⟩ hb
     exact ⟨⟨cell_keep s0 hb, cell_keep s1 hb, cell_keep s2 hb, cell_keep s3 hb⟩, ⟨cell_keep s4 hb, cell_keep s5 hb, cell_keep s6 hb, cell_keep s7 hb⟩⟩
   have hB0 : Below W0.heap.size W0 W0.drew := (Below.refl _ W0).drew
   refine any2 (W0 := W0) (cs := #[.bool false, .slice none 0 0, .slice none 0 0]) (t := 52) 26 28 10 11 1 3 4 5 (fun c b1 b2 => #[true, decide (1 ≤ c), true, decide (2 ≤ c), b1, b2, false, false]) (RArgP (decide (a.n < 0)) a.num.natAbs a.den) (RArgP (decide (b.n < 0)) b.num.natAbs b.den) (by decide) (by decide) (by decide) (by decide) (by decide) (by decide) (RArgP.stays _ _ _) (RArgP.stays _ _ _) rfl rfl (by kernel_rfl) hB0 hHeld hK1 ?_
     rfl (fun _ => rfl) rfl (fun _ _ _ _ _ => by kernel_rfl) (fun W _ => HOA.out W) (fun _ _ => rfl)
     rfl (fun _ => rfl) rfl (fun _ _ _ _ _ => by kernel_rfl) (fun W _ => HOB.out W) (fun _ _ => rfl)
     rfl (fun _ => rfl) rfl (fun _ _ => by kernel_rfl) (fun _ _ => rfl)
     rfl (fun _ => rfl) rfl (fun _ _ => by kernel_rfl) (fun _ _ => rfl) ?_ ?_
   · intro c b1 b2 hn hc
     obtain rfl | rfl | rfl : c = 0 ∨ c = 1 ∨ c = 2 := by omega
     all_goals (cases b1 <;> cases b2)
     all_goals first
       | (exfalso; simp at hn; done)
       | kernel_rfl
   · intro c b1 b2 hc hl
     obtain rfl | rfl | rfl : c = 0 ∨ c = 1 ∨ c = 2 := by omega
     all_goals (cases b1 <;> cases b2 <;> simp at hl ⊢)
   intro r1 r2 n1 n2 wz hS hBz m1 m2 d12 X1 X2 g1 g2
   obtain ⟨y1, z1, rfl, D1n, D1d⟩ := g1
   obtain ⟨y2, z2, rfl, D2n, D2d⟩ := g2
   obtain ⟨p1, k1, rfl⟩ := D1n.sliceP
   obtain ⟨p4, k4, rfl⟩ := D1d.sliceP
   obtain ⟨p2, k2, rfl⟩ := D2n.sliceP
   obtain ⟨p5, k5, rfl⟩ := D2d.sliceP
   have RAz := RA.keep hBz
   have RBz := RB.keep hBz
   have lA := RA.lt
   have lB := RB.lt
   have s21 : ¬ n2 = n1 := fun e => d12 e.symm
   have pa1 : ¬ n1 = w.heap.size := by omega
   have pa2 : ¬ n2 = w.heap.size := by omega
   have pb1 : ¬ n1 = w.heap.size + 1 := by omega
   have pb2 : ¬ n2 = w.heap.size + 1 := by omega
   have A1 := RAz.set3 pa1 (.bool (decide (a.n < 0))) (.slice p1 (digs a.num.natAbs).length k1) (.slice p4 (digs a.den).length k4)
   have A2 := A1.set3 pa2 (.bool (decide (b.n < 0))) (.slice p2 (digs b.num.natAbs).length k2) (.slice p5 (digs b.den).length k5)
   have C1 := RBz.set3 pb1 (.bool (decide (a.n < 0))) (.slice p1 (digs a.num.natAbs).length k1) (.slice p4 (digs a.den).length k4)
   have C2 := C1.set3 pb2 (.bool (decide (b.n < 0))) (.slice p2 (digs b.num.natAbs).length k2) (.slice p5 (digs b.den).length k5)
   have Y11 := X1.pute (.bool (decide (a.n < 0))) (.slice p1 (digs a.num.natAbs).length k1) (.slice p4 (digs a.den).length k4)
   have Y21 := X2.set3 d12 (.bool (decide (a.n < 0))) (.slice p1 (digs a.num.natAbs).length k1) (.slice p4 (digs a.den).length k4)
   have Y12 := Y11.set3 s21 (.bool (decide (b.n < 0))) (.slice p2 (digs b.num.natAbs).length k2) (.slice p5 (digs b.den).length k5)
   have Y22 := Y21.pute (.bool (decide (b.n < 0))) (.slice p2 (digs b.num.natAbs).length k2) (.slice p5 (digs b.den).length k5)
   have SC : Same (Free W0.heap.size [some n1, some n2]) wz ((((((wz.setCell ⟨n1, 0, none⟩ (.bool (decide (a.n < 0)))).setCell ⟨n1, 1, none⟩ (.slice p1 (digs a.num.natAbs).length k1)).setCell ⟨n1, 2, none⟩ (.slice p4 (digs a.den).length k4)).setCell ⟨n2, 0, none⟩ (.bool (decide (b.n < 0)))).setCell ⟨n2, 1, none⟩ (.slice p2 (digs b.num.natAbs).length k2)).setCell ⟨n2, 2, none⟩ (.slice p5 (digs b.den).length k5)) :=
     (((((((Same.refl _ wz).set (a := ⟨n1, 0, none⟩) (not_free (by simp)) _).set (a := ⟨n1, 1, none⟩) (not_free (by simp)) _).set (a := ⟨n1, 2, none⟩) (not_free (by simp)) _).set (a := ⟨n2, 0, none⟩) (not_free (by simp)) _).set (a := ⟨n2, 1, none⟩) (not_free (by simp)) _).set (a := ⟨n2, 2, none⟩) (not_free (by simp)) _)
   have BC : Below W0.heap.size W0 ((((((wz.setCell ⟨n1, 0, none⟩ (.bool (decide (a.n < 0)))).setCell ⟨n1, 1, none⟩ (.slice p1 (digs a.num.natAbs).length k1)).setCell ⟨n1, 2, none⟩ (.slice p4 (digs a.den).length k4)).setCell ⟨n2, 0, none⟩ (.bool (decide (b.n < 0)))).setCell ⟨n2, 1, none⟩ (.slice p2 (digs b.num.natAbs).length k2)).setCell ⟨n2, 2, none⟩ (.slice p5 (digs b.den).length k5)) :=
     ((((((hBz.setCell (p := ⟨n1, 0, none⟩) m1 _).setCell (p := ⟨n1, 1, none⟩) m1 _).setCell (p := ⟨n1, 2, none⟩) m1 _).setCell (p := ⟨n2, 0, none⟩) m2 _).setCell (p := ⟨n2, 1, none⟩) m2 _).setCell (p := ⟨n2, 2, none⟩) m2 _)
   obtain ⟨h10, h11, h12⟩ := X1.three3
   have f10 := X1.free 0
   have f11 := X1.free 1
   have f12 := X1.free 2
   obtain ⟨h20, h21, h22⟩ := Y21.three3
   have f20 := Y21.free 0
   have f21 := Y21.free 1
   have f22 := Y21.free 2
   show wpAnyH _ _ _ _ _ 2 _ _ _
   simp only [act2, List.setIfInBounds_toArray, List.set_cons_zero, List.set_cons_succ]
   refine wpAnyH_ready (rs := [6]) (by kernel_rfl) (by simp) ?_
   refine AllReadyH.cons rfl (fun K hK => ?_) AllReadyH.nil
   try simp only [List.getElem_toArray, List.getElem_cons_succ, List.getElem_cons_zero]
   go_simp
   refine hK.out _ _ ⟨A1.four, C1.four⟩ (fun hHeld2 => ?_)
   clear hK K hHeld2
   refine wpAnyH_ready (rs := [7]) (by kernel_rfl) (by simp) ?_
   refine AllReadyH.cons rfl (fun K hK => ?_) AllReadyH.nil
   try simp only [List.getElem_toArray, List.getElem_cons_succ, List.getElem_cons_zero]
   clear h10 h11 h12 f10 f11 f12
   go_simp
   refine hK.out _ _ ⟨A2.four, C2.four⟩ (fun hHeld2 => ?_)
   clear hK K hHeld2
   clear h20 h21 h22 f20 f21 f22 A1 A2 C1 C2 Y11 Y21 RAz RBz X1 X2
   refine wpAnyH_done (by kernel_rfl) ?_ _
   go_wp2_with fail
   go_meet
   exact ⟨n1, n2, p1, k1, p4, k4, p2, k2, p5, k5, rfl, rfl, d12, m1, m2, Y12, Y22, (D1n.same SC).arg (fun _ _ => Nat.zero_le _), (D1d.same SC).arg (fun _ _ => Nat.zero_le _), (D2n.same SC).arg (fun _ _ => Nat.zero_le _), (D2d.same SC).arg (fun _ _ => Nat.zero_le _), BC⟩
 case rest =>
   obtain ⟨w5, rfl⟩ : ∃ w5 : World, w5 = wc := ⟨_, rfl⟩
   obtain ⟨n1, n2, p1, k1, p4, k4, p2, k2, p5, k5, rfl, rfl, d12, m1, m2, X1, X2, E1, E2, E3, E4, BC⟩ := hcut
   have RA5 := RA.keep BC
   have RT5 := RT.keep BC
   have RZ5 := RZ.keep BC
   have BW5 := Lib.hid (bl_then BW.out BC)
   have lT := RT.lt
   have BW7s := BW.out.size
   have lZ := RZ.lt
   have nt1 : ¬ n1 = w.heap.size + 1 + 1 := by omega
   have nt1' : ¬ w.heap.size + 1 + 1 = n1 := by omega
   have nz1 : ¬ n1 = w.heap.size + 1 + 1 + 1 := by omega
   have nz1' : ¬ w.heap.size + 1 + 1 + 1 = n1 := by omega
   have HAX : Hid (RArg 0 w5 (reV (decide (a.n < 0)) (.slice p1 (digs a.num.natAbs).length k1) (.slice p4 (digs a.den).length k4)) (decide (a.n < 0)) a.num.natAbs a.den) := Lib.hid ⟨_, _, rfl, E1, E2⟩
   have HBX : Hid (RArg 0 w5 (reV (decide (b.n < 0)) (.slice p2 (digs b.num.natAbs).length k2) (.slice p5 (digs b.den).length k5)) (decide (b.n < 0)) b.num.natAbs b.den) := Lib.hid ⟨_, _, rfl, E3, E4⟩
   clear E1 E2 E3 E4 BC RA RB RT RZ BW HOA HOB  a0 a1 a2 a3 b0 b1 b2 b3 RA5 la lb da db ra rb ka kb hT
   have hl : ¬ (((digs b.num.natAbs).length : Int) = 0) := by have := digs_len_pos HL.out; omega
   obtain ⟨x0, x1, x2⟩ := X1.ex
   obtain ⟨y0, y1, y2⟩ := X2.ex
   have f0 := X1.free 0
   have f1 := X1.free 1
   have f2 := X1.free 2
   go_upto_region 8 with (fail)
   clear x0 x1 x2 y0 y1 y2 f0 f1 f2 hl HL
   have B : Hid (Below w5.heap.size w5 w5.drew) := Lib.hid (Below.refl _ w5).drew
   refine wp_region_held_drew (S := fun w' => (w'.cell? ⟨n1, 0, none⟩ = some (.bool (decide (a.n < 0))) ∧ w'.cell? ⟨n1, 1, none⟩ = some (.slice p1 (digs a.num.natAbs).length k1) ∧ w'.cell? ⟨n1, 2, none⟩ = some (.slice p4 (digs a.den).length k4)) ∧ (w'.cell? ⟨n2, 0, none⟩ = some (.bool (decide (b.n < 0))) ∧ w'.cell? ⟨n2, 1, none⟩ = some (.slice p2 (digs b.num.natAbs).length k2) ∧ w'.cell? ⟨n2, 2, none⟩ = some (.slice p5 (digs b.den).length k5)) ∧ (w'.cell? ⟨w.heap.size + 1 + 1, 0, none⟩ = some (.int .i64 k) ∧ w'.cell? ⟨w.heap.size + 1 + 1, 1, none⟩ = some (.int .i64 (P : Int)) ∧ w'.cell? ⟨w.heap.size + 1 + 1, 2, none⟩ = some (.int .i64 (q : Int)) ∧ w'.cell? ⟨w.heap.size + 1 + 1, 3, none⟩ = some (.int .i64 0) ∧ w'.cell? ⟨w.heap.size + 1 + 1, 4, none⟩ = some (.bool false) ∧ w'.cell? ⟨w.heap.size + 1 + 1, 5, none⟩ = some (.string ⟨#[]⟩))) (by kernel_rfl) ?_ (fun hHeld => ?_)
   · exact ⟨(X1.keep B.out).ex, (X2.keep B.out).ex, (RT5.keep B.out).six⟩
   first
     | (refine wpAnyH_take (i := 0) (v := undef) rfl (by kernel_rfl) (by kernel_rfl) (by kernel_rfl) (fun _ _ _ h => h) (Or.inr ⟨by rfl, rfl⟩) (by assumption) ?_)
     | (refine wpAnyH_take (i := 0) (v := ?_) rfl (by kernel_rfl) (by kernel_rfl) (by kernel_rfl) (fun _ _ _ h => h) (Or.inl ⟨by rfl, ?_⟩) (by assumption) ?_; rotate_left; (· intro w hSw; (try dsimp only at hSw); go_simp; (try with_reducible rfl)))
     | fail "TK 0"
   try simp only [Act.put, List.setIfInBounds_toArray, List.set_cons_zero, List.set_cons_succ, List.getElem_toArray, List.getElem_cons_zero]
   first
     | (refine wpAnyH_take (i := 1) (v := undef) rfl (by kernel_rfl) (by kernel_rfl) (by kernel_rfl) (fun _ _ _ h => h) (Or.inr ⟨by rfl, rfl⟩) (by assumption) ?_)
     | (refine wpAnyH_take (i := 1) (v := ?_) rfl (by kernel_rfl) (by kernel_rfl) (by kernel_rfl) (fun _ _ _ h => h) (Or.inl ⟨by rfl, ?_⟩) (by assumption) ?_; rotate_left; (· intro w hSw; (try dsimp only at hSw); go_simp; (try with_reducible rfl)))
     | fail "TK 1"
   try simp only [Act.put, List.setIfInBounds_toArray, List.set_cons_zero, List.set_cons_succ, List.getElem_toArray, List.getElem_cons_succ, List.getElem_cons_zero]
   first
     | (refine wpAnyH_take (i := 2) (v := undef) rfl (by kernel_rfl) (by kernel_rfl) (by kernel_rfl) (fun _ _ _ h => h) (Or.inr ⟨by rfl, rfl⟩) (by assumption) ?_)
     | (refine wpAnyH_take (i := 2) (v := ?_) rfl (by kernel_rfl) (by kernel_rfl) (by kernel_rfl) (fun _ _ _ h => h) (Or.inl ⟨by rfl, ?_⟩) (by assumption) ?_; rotate_left; (· intro w hSw; (try dsimp only at hSw); go_simp; (try with_reducible rfl)))
     | fail "TK 2"
   try simp only [Act.put, List.setIfInBounds_toArray, List.set_cons_zero, List.set_cons_succ, List.getElem_toArray, List.getElem_cons_succ, List.getElem_cons_zero]
   first
     | (refine wpAnyH_take (i := 3) (v := undef) rfl (by kernel_rfl) (by kernel_rfl) (by kernel_rfl) (fun _ _ _ h => h) (Or.inr ⟨by rfl, rfl⟩) (by assumption) ?_)
     | (refine wpAnyH_take (i := 3) (v := ?_) rfl (by kernel_rfl) (by kernel_rfl) (by kernel_rfl) (fun _ _ _ h => h) (Or.inl ⟨by rfl, ?_⟩) (by assumption) ?_; rotate_left; (· intro w hSw; (try dsimp only at hSw); go_simp; (try with_reducible rfl)))
     | fail "TK 3"
   try simp only [Act.put, List.setIfInBounds_toArray, List.set_cons_zero, List.set_cons_succ, List.getElem_toArray, List.getElem_cons_succ, List.getElem_cons_zero]
   first
     | (refine wpAnyH_take (i := 9) (v := undef) rfl (by kernel_rfl) (by kernel_rfl) (by kernel_rfl) (fun _ _ _ h => h) (Or.inr ⟨by rfl, rfl⟩) (by assumption) ?_)
     | (refine wpAnyH_take (i := 9) (v := ?_) rfl (by kernel_rfl) (by kernel_rfl) (by kernel_rfl) (fun _ _ _ h => h) (Or.inl ⟨by rfl, ?_⟩) (by assumption) ?_; rotate_left; (· intro w hSw; (try dsimp only at hSw); go_simp; (try with_reducible rfl)))
     | fail "TK 9"
   try simp only [Act.put, List.setIfInBounds_toArray, List.set_cons_zero, List.set_cons_succ, List.getElem_toArray, List.getElem_cons_succ, List.getElem_cons_zero]
   refine wpAnyH_ready (rs := [4, 14]) (by kernel_rfl) (by simp) ?_
   refine AllReadyH.cons rfl (fun K hK => ?_) (AllReadyH.cons rfl (fun K hK => ?_) (AllReadyH.nil))
   · try simp only [List.getElem_toArray, List.getElem_cons_succ, List.getElem_cons_zero]
     first
       | (go_at_call 41; refine (H4.out _ _ _ (HAX.out.keep B.out (Nat.le_refl _)) (HBX.out.keep B.out (Nat.le_refl _))).mono ?_; rintro e v4 ⟨y4, rfl, R4, hb⟩; have B := Lib.hid (B.out.trans (hb.mono B.out.size)); obtain ⟨pp4, kk4, qq4, ll4, rfl⟩ := R4.open; have RR := Lib.hid (R4.base (Nat.zero_le _)); clear hb R4)
       | (go_simp; (go_at_call 41; refine (H4.out _ _ _ (HAX.out.keep B.out (Nat.le_refl _)) (HBX.out.keep B.out (Nat.le_refl _))).mono ?_; rintro e v4 ⟨y4, rfl, R4, hb⟩; have B := Lib.hid (B.out.trans (hb.mono B.out.size)); obtain ⟨pp4, kk4, qq4, ll4, rfl⟩ := R4.open; have RR := Lib.hid (R4.base (Nat.zero_le _)); clear hb R4))
       | fail "CALL"
     try go_wp2_with fail
     refine hK.out _ _ ?_ (fun hHeld2 => ?_)
     · exact ⟨(X1.keep B.out).ex, (X2.keep B.out).ex, (RT5.keep B.out).six⟩
     clear hK K hHeld
     have hHeld := hHeld2
     clear hHeld2
     try simp only [Act.put, List.setIfInBounds_toArray, List.set_cons_zero, List.set_cons_succ, List.getElem_toArray, List.getElem_cons_succ, List.getElem_cons_zero]
     refine wpAnyH_ready (rs := [5, 14]) (by kernel_rfl) (by simp) ?_
     refine AllReadyH.cons rfl (fun K hK => ?_) (AllReadyH.cons rfl (fun K hK => ?_) (AllReadyH.nil))
     · try simp only [List.getElem_toArray, List.getElem_cons_succ, List.getElem_cons_zero]
       first
         | (go_at_call 40; refine (H5.out _ _ RR.out).mono ?_; rintro e v5 ⟨y5, rfl, R5, hb⟩; have B := Lib.hid (B.out.trans (hb.mono B.out.size)); obtain ⟨pp5, kk5, qq5, ll5, rfl⟩ := R5.open; have RR := Lib.hid (R5.base (Nat.zero_le _)); clear hb R5)
         | (go_simp; (go_at_call 40; refine (H5.out _ _ RR.out).mono ?_; rintro e v5 ⟨y5, rfl, R5, hb⟩; have B := Lib.hid (B.out.trans (hb.mono B.out.size)); obtain ⟨pp5, kk5, qq5, ll5, rfl⟩ := R5.open; have RR := Lib.hid (R5.base (Nat.zero_le _)); clear hb R5))
         | fail "CALL"
       try go_wp2_with fail
       refine hK.out _ _ ?_ (fun hHeld2 => ?_)
       · exact ⟨(X1.keep B.out).ex, (X2.keep B.out).ex, (RT5.keep B.out).six⟩
       clear hK K hHeld
       have hHeld := hHeld2
       clear hHeld2
       try simp only [Act.put, List.setIfInBounds_toArray, List.set_cons_zero, List.set_cons_succ, List.getElem_toArray, List.getElem_cons_succ, List.getElem_cons_zero]
       refine wpAnyH_ready (rs := [6, 14]) (by kernel_rfl) (by simp) ?_
       refine AllReadyH.cons rfl (fun K hK => ?_) (AllReadyH.cons rfl (fun K hK => ?_) (AllReadyH.nil))
       · try simp only [List.getElem_toArray, List.getElem_cons_succ, List.getElem_cons_zero]
         first
           | (go_at_call 39; refine (H6.out _ _ _ (HBX.out.keep B.out (Nat.le_refl _)) RR.out).mono ?_; rintro e v6 ⟨y6, rfl, R6, hb⟩; have B := Lib.hid (B.out.trans (hb.mono B.out.size)); obtain ⟨pp6, kk6, qq6, ll6, rfl⟩ := R6.open; have RR := Lib.hid (R6.base (Nat.zero_le _)); clear hb R6)
           | (go_simp; (go_at_call 39; refine (H6.out _ _ _ (HBX.out.keep B.out (Nat.le_refl _)) RR.out).mono ?_; rintro e v6 ⟨y6, rfl, R6, hb⟩; have B := Lib.hid (B.out.trans (hb.mono B.out.size)); obtain ⟨pp6, kk6, qq6, ll6, rfl⟩ := R6.open; have RR := Lib.hid (R6.base (Nat.zero_le _)); clear hb R6))
           | fail "CALL"
         try go_wp2_with fail
         refine hK.out _ _ ?_ (fun hHeld2 => ?_)
         · exact ⟨(X1.keep B.out).ex, (X2.keep B.out).ex, (RT5.keep B.out).six⟩
         clear hK K hHeld
         have hHeld := hHeld2
         clear hHeld2
         try simp only [Act.put, List.setIfInBounds_toArray, List.set_cons_zero, List.set_cons_succ, List.getElem_toArray, List.getElem_cons_succ, List.getElem_cons_zero]
         refine wpAnyH_ready (rs := [7, 14]) (by kernel_rfl) (by simp) ?_
         refine AllReadyH.cons rfl (fun K hK => ?_) (AllReadyH.cons rfl (fun K hK => ?_) (AllReadyH.nil))
         · try simp only [List.getElem_toArray, List.getElem_cons_succ, List.getElem_cons_zero]
           first
             | (go_at_call 38; refine (H7.out _ _ RR.out).mono ?_; rintro e v7 ⟨y7, rfl, R7, hb⟩; have B := Lib.hid (B.out.trans (hb.mono B.out.size)); obtain ⟨pp7, kk7, qq7, ll7, rfl⟩ := R7.open; have RR := Lib.hid (R7.base (Nat.zero_le _)); clear hb R7)
             | (go_simp; (go_at_call 38; refine (H7.out _ _ RR.out).mono ?_; rintro e v7 ⟨y7, rfl, R7, hb⟩; have B := Lib.hid (B.out.trans (hb.mono B.out.size)); obtain ⟨pp7, kk7, qq7, ll7, rfl⟩ := R7.open; have RR := Lib.hid (R7.base (Nat.zero_le _)); clear hb R7))
             | fail "CALL"
           try go_wp2_with fail
           refine hK.out _ _ ?_ (fun hHeld2 => ?_)
           · exact ⟨(X1.keep B.out).ex, (X2.keep B.out).ex, (RT5.keep B.out).six⟩
           clear hK K hHeld
           have hHeld := hHeld2
           clear hHeld2
           try simp only [Act.put, List.setIfInBounds_toArray, List.set_cons_zero, List.set_cons_succ, List.getElem_toArray, List.getElem_cons_succ, List.getElem_cons_zero]
           refine wpAnyH_ready (rs := [8, 14]) (by kernel_rfl) (by simp) ?_
           refine AllReadyH.cons rfl (fun K hK => ?_) (AllReadyH.cons rfl (fun K hK => ?_) (AllReadyH.nil))
           · try simp only [List.getElem_toArray, List.getElem_cons_succ, List.getElem_cons_zero]
             first
               | (go_at_call 37; refine (H8.out _ _ _ (HAX.out.keep B.out (Nat.le_refl _)) RR.out).mono ?_; rintro e v8 ⟨y8, rfl, R8, hb⟩; have B := Lib.hid (B.out.trans (hb.mono B.out.size)); obtain ⟨pp8, kk8, qq8, ll8, rfl⟩ := R8.open; have RR := Lib.hid (R8.base (Nat.zero_le _)); clear hb R8)
               | (go_simp; (go_at_call 37; refine (H8.out _ _ _ (HAX.out.keep B.out (Nat.le_refl _)) RR.out).mono ?_; rintro e v8 ⟨y8, rfl, R8, hb⟩; have B := Lib.hid (B.out.trans (hb.mono B.out.size)); obtain ⟨pp8, kk8, qq8, ll8, rfl⟩ := R8.open; have RR := Lib.hid (R8.base (Nat.zero_le _)); clear hb R8))
               | fail "CALL"
             try go_wp2_with fail
             refine hK.out _ _ ?_ (fun hHeld2 => ?_)
             · exact ⟨(X1.keep B.out).ex, (X2.keep B.out).ex, (RT5.keep B.out).six⟩
             clear hK K hHeld
             have hHeld := hHeld2
             clear hHeld2
             try simp only [Act.put, List.setIfInBounds_toArray, List.set_cons_zero, List.set_cons_succ, List.getElem_toArray, List.getElem_cons_succ, List.getElem_cons_zero]
             refine wpAnyH_ready (rs := [10, 14]) (by kernel_rfl) (by simp) ?_
             refine AllReadyH.cons rfl (fun K hK => ?_) (AllReadyH.cons rfl (fun K hK => ?_) (AllReadyH.nil))
             · try simp only [List.getElem_toArray, List.getElem_cons_succ, List.getElem_cons_zero]
               first
                 | (go_at_call 36; refine (HFIT.out _ _ RR.out).mono ?_; rintro e v10 ⟨N, Q, c, ⟨rfl, hb⟩, hf⟩; have hf := Lib.hid hf; have B := Lib.hid (B.out.trans (hb.mono B.out.size)); clear hb RR)
                 | (go_simp; (go_at_call 36; refine (HFIT.out _ _ RR.out).mono ?_; rintro e v10 ⟨N, Q, c, ⟨rfl, hb⟩, hf⟩; have hf := Lib.hid hf; have B := Lib.hid (B.out.trans (hb.mono B.out.size)); clear hb RR))
                 | fail "CALL"
               try go_wp2_with fail
               refine hK.out _ _ ?_ (fun hHeld2 => ?_)
               · exact ⟨(X1.keep B.out).ex, (X2.keep B.out).ex, (RT5.keep B.out).six⟩
               clear hK K hHeld
               have hHeld := hHeld2
               clear hHeld2
               try simp only [Act.put, List.setIfInBounds_toArray, List.set_cons_zero, List.set_cons_succ, List.getElem_toArray, List.getElem_cons_succ, List.getElem_cons_zero]
               first
                 | (refine wpAnyH_take (i := 11) (v := undef) rfl (by kernel_rfl) (by kernel_rfl) (by kernel_rfl) (fun _ _ _ h => h) (Or.inr ⟨by rfl, rfl⟩) (by assumption) ?_)
                 | (refine wpAnyH_take (i := 11) (v := ?_) rfl (by kernel_rfl) (by kernel_rfl) (by kernel_rfl) (fun _ _ _ h => h) (Or.inl ⟨by rfl, ?_⟩) (by assumption) ?_; rotate_left; (· intro w hSw; (try dsimp only at hSw); go_simp; (try with_reducible rfl)))
                 | fail "TK 11"
               try simp only [Act.put, List.setIfInBounds_toArray, List.set_cons_zero, List.set_cons_succ, List.getElem_toArray, List.getElem_cons_succ, List.getElem_cons_zero]
               first
                 | (refine wpAnyH_take (i := 12) (v := undef) rfl (by kernel_rfl) (by kernel_rfl) (by kernel_rfl) (fun _ _ _ h => h) (Or.inr ⟨by rfl, rfl⟩) (by assumption) ?_)
                 | (refine wpAnyH_take (i := 12) (v := ?_) rfl (by kernel_rfl) (by kernel_rfl) (by kernel_rfl) (fun _ _ _ h => h) (Or.inl ⟨by rfl, ?_⟩) (by assumption) ?_; rotate_left; (· intro w hSw; (try dsimp only at hSw); go_simp; (try with_reducible rfl)))
                 | fail "TK 12"
               try simp only [Act.put, List.setIfInBounds_toArray, List.set_cons_zero, List.set_cons_succ, List.getElem_toArray, List.getElem_cons_succ, List.getElem_cons_zero]
               first
                 | (refine wpAnyH_take (i := 13) (v := undef) rfl (by kernel_rfl) (by kernel_rfl) (by kernel_rfl) (fun _ _ _ h => h) (Or.inr ⟨by rfl, rfl⟩) (by assumption) ?_)
                 | (refine wpAnyH_take (i := 13) (v := ?_) rfl (by kernel_rfl) (by kernel_rfl) (by kernel_rfl) (fun _ _ _ h => h) (Or.inl ⟨by rfl, ?_⟩) (by assumption) ?_; rotate_left; (· intro w hSw; (try dsimp only at hSw); go_simp; (try with_reducible rfl)))
                 | fail "TK 13"
               try simp only [Act.put, List.setIfInBounds_toArray, List.set_cons_zero, List.set_cons_succ, List.getElem_toArray, List.getElem_cons_succ, List.getElem_cons_zero]
               refine wpAnyH_ready (rs := [14]) (by kernel_rfl) (by simp) ?_
               refine AllReadyH.cons rfl (fun K hK => ?_) AllReadyH.nil
               try simp only [List.getElem_toArray, List.getElem_cons_succ, List.getElem_cons_zero]
               go_simp
               refine hK.out _ _ ?_ (fun hHeld2 => ?_)
               · exact ⟨((X1.keep B.out).alloc (.cells (vaC 0 0 0 ⟨#[]⟩) 23)).ex, ((X2.keep B.out).alloc (.cells (vaC 0 0 0 ⟨#[]⟩) 23)).ex, ((RT5.keep B.out).alloc (.cells (vaC 0 0 0 ⟨#[]⟩) 23)).six⟩
               clear hK K hHeld
               have hHeld := hHeld2
               clear hHeld2
               try simp only [Act.put, List.setIfInBounds_toArray, List.set_cons_zero, List.set_cons_succ, List.getElem_toArray, List.getElem_cons_succ, List.getElem_cons_zero]
               have hbz := B.out.size
               have RV : Row _ v10.heap.size (vaC 0 0 0 ⟨#[]⟩) 23 := Row.new v10 (vaC 0 0 0 ⟨#[]⟩) 23
               have B := Lib.hid (B.out.alloc B.out.size (.cells (vaC 0 0 0 ⟨#[]⟩) 23))
               generalize (v10).alloc (.cells (vaC 0 0 0 ⟨#[]⟩) 23) = wa at *
               have lX5 := X1.lt
               have lY5 := X2.lt
               have lT5 := RT5.lt
               have lZ5 := RZ5.lt
               have pvx : ¬ v10.heap.size = n1 := by omega
               have pvy : ¬ v10.heap.size = n2 := by omega
               have pvt : ¬ v10.heap.size = w.heap.size + 1 + 1 := by omega
               have pvz : ¬ v10.heap.size = w.heap.size + 1 + 1 + 1 := by omega
               have pvw : w.heap.size ≤ v10.heap.size := by omega
               have BW8 := Lib.hid (bl_then BW5.out B.out)
               have RZ9 := (RZ5.keep B.out).setf pvz (.int .i64 k) (.int .i64 N) (.int .i64 Q) (.string ⟨#[]⟩)
               have RV9 := RV.putf (.int .i64 k) (.int .i64 N) (.int .i64 Q) (.string ⟨#[]⟩)
               have BW9 := Lib.hid ((((BW8.out.setCell (p := ⟨v10.heap.size, 0, none⟩) pvw (.int .i64 k)).setCell (p := ⟨v10.heap.size, 1, none⟩) pvw (.int .i64 N)).setCell (p := ⟨v10.heap.size, 2, none⟩) pvw (.int .i64 Q)).setCell (p := ⟨v10.heap.size, 3, none⟩) pvw (.string ⟨#[]⟩))
               obtain ⟨v0, v1, v2, v3⟩ := RV.four
               have g0 := RV.free 0
               have g1 := RV.free 1
               have g2 := RV.free 2
               have g3 := RV.free 3
               refine wpAnyH_ready (rs := [15]) (by kernel_rfl) (by simp) ?_
               refine AllReadyH.cons rfl (fun K hK => ?_) AllReadyH.nil
               try simp only [List.getElem_toArray, List.getElem_cons_succ, List.getElem_cons_zero]
               go_simp
               refine hK.out _ _ ?_ (fun hHeld2 => ?_)
               · exact ⟨((X1.keep B.out).setf pvx (.int .i64 k) (.int .i64 N) (.int .i64 Q) (.string ⟨#[]⟩)).ex, ((X2.keep B.out).setf pvy (.int .i64 k) (.int .i64 N) (.int .i64 Q) (.string ⟨#[]⟩)).ex, ((RT5.keep B.out).setf pvt (.int .i64 k) (.int .i64 N) (.int .i64 Q) (.string ⟨#[]⟩)).six⟩
               clear hK K hHeld
               have hHeld := hHeld2
               clear hHeld2
               try simp only [Act.put, List.setIfInBounds_toArray, List.set_cons_zero, List.set_cons_succ, List.getElem_toArray, List.getElem_cons_succ, List.getElem_cons_zero]
               first
                 | (refine wpAnyH_take (i := 16) (v := undef) rfl (by kernel_rfl) (by kernel_rfl) (by kernel_rfl) (fun _ _ _ h => h) (Or.inr ⟨by rfl, rfl⟩) (by assumption) ?_)
                 | (refine wpAnyH_take (i := 16) (v := ?_) rfl (by kernel_rfl) (by kernel_rfl) (by kernel_rfl) (fun _ _ _ h => h) (Or.inl ⟨by rfl, ?_⟩) (by assumption) ?_; rotate_left; (· intro w hSw; (try dsimp only at hSw); go_simp; (try with_reducible rfl)))
                 | fail "TK 16"
               try simp only [Act.put, List.setIfInBounds_toArray, List.set_cons_zero, List.set_cons_succ, List.getElem_toArray, List.getElem_cons_succ, List.getElem_cons_zero]
               refine wpAnyH_done (by kernel_rfl) ?_ _
               clear v0 v1 v2 v3 g0 g1 g2 g3 RV B BW8 X1 X2 RT5 RZ5 HAX HBX H4 H5 H6 H7 H8 HFIT hHeld
               obtain ⟨v0, v1, v2, v3⟩ := RV9.four
               obtain ⟨z0, z1, z2, z3⟩ := RZ9.four
               have g0 := RZ9.free 0
               have g1 := RZ9.free 1
               have g2 := RZ9.free 2
               have g3 := RZ9.free 3
               clear RV9 RZ9
               generalize ((((wa.setCell ⟨v10.heap.size, 0, none⟩ (.int .i64 k)).setCell ⟨v10.heap.size, 1, none⟩ (.int .i64 N)).setCell ⟨v10.heap.size, 2, none⟩ (.int .i64 Q)).setCell ⟨v10.heap.size, 3, none⟩ (.string ⟨#[]⟩)) = we at *
               iterate 60 (first | go_values | go_skip | go_guarded | go_step | go_upon | go_simp | skip)
               refine bodyPost_ret (v := .tuple #[valV k N Q ⟨#[]⟩, .int .i64 c, .int .i64 0]) (by simp [results, Tryz.results17, go_sem, z0, z1, z2, z3]) rfl ⟨N, Q, c, ⟨rfl, ?_⟩, hf.out⟩
               (repeat refine Below.setCell ?_ (by simp <;> omega) _)
               exact BW9.out
             · try simp only [List.getElem_toArray, List.getElem_cons_succ, List.getElem_cons_zero]
               go_simp
               refine hK.out _ _ ?_ (fun hHeld2 => ?_)
               · exact ⟨((X1.keep B.out).alloc (.cells (vaC 0 0 0 ⟨#[]⟩) 23)).ex, ((X2.keep B.out).alloc (.cells (vaC 0 0 0 ⟨#[]⟩) 23)).ex, ((RT5.keep B.out).alloc (.cells (vaC 0 0 0 ⟨#[]⟩) 23)).six⟩
               clear hK K hHeld
               have hHeld := hHeld2
               clear hHeld2
               try simp only [Act.put, List.setIfInBounds_toArray, List.set_cons_zero, List.set_cons_succ, List.getElem_toArray, List.getElem_cons_succ, List.getElem_cons_zero]
               have hbz := B.out.size
               have RV : Row _ v8.heap.size (vaC 0 0 0 ⟨#[]⟩) 23 := Row.new v8 (vaC 0 0 0 ⟨#[]⟩) 23
               have B := Lib.hid (B.out.alloc B.out.size (.cells (vaC 0 0 0 ⟨#[]⟩) 23))
               have RR := Lib.hid (RR.out.keep (Below.alloc (Below.refl _ v8) (Nat.le_refl _) (.cells (vaC 0 0 0 ⟨#[]⟩) 23)) (Nat.le_refl _))
               generalize (v8).alloc (.cells (vaC 0 0 0 ⟨#[]⟩) 23) = wa at *
               refine wpAnyH_ready (rs := [10]) (by kernel_rfl) (by simp) ?_
               refine AllReadyH.cons rfl (fun K hK => ?_) AllReadyH.nil
               try simp only [List.getElem_toArray, List.getElem_cons_succ, List.getElem_cons_zero]
               first
                 | (go_at_call 36; refine (HFIT.out _ _ RR.out).mono ?_; rintro e v10 ⟨N, Q, c, ⟨rfl, hb⟩, hf⟩; have hf := Lib.hid hf; have B := Lib.hid (B.out.trans (hb.mono B.out.size)); have RV := RV.keep hb; clear hb RR)
                 | (go_simp; (go_at_call 36; refine (HFIT.out _ _ RR.out).mono ?_; rintro e v10 ⟨N, Q, c, ⟨rfl, hb⟩, hf⟩; have hf := Lib.hid hf; have B := Lib.hid (B.out.trans (hb.mono B.out.size)); have RV := RV.keep hb; clear hb RR))
                 | fail "CALL"
               try go_wp2_with fail
               refine hK.out _ _ ?_ (fun hHeld2 => ?_)
               · exact ⟨(X1.keep B.out).ex, (X2.keep B.out).ex, (RT5.keep B.out).six⟩
               clear hK K hHeld
               have hHeld := hHeld2
               clear hHeld2
               try simp only [Act.put, List.setIfInBounds_toArray, List.set_cons_zero, List.set_cons_succ, List.getElem_toArray, List.getElem_cons_succ, List.getElem_cons_zero]
               first
                 | (refine wpAnyH_take (i := 11) (v := undef) rfl (by kernel_rfl) (by kernel_rfl) (by kernel_rfl) (fun _ _ _ h => h) (Or.inr ⟨by rfl, rfl⟩) (by assumption) ?_)
                 | (refine wpAnyH_take (i := 11) (v := ?_) rfl (by kernel_rfl) (by kernel_rfl) (by kernel_rfl) (fun _ _ _ h => h) (Or.inl ⟨by rfl, ?_⟩) (by assumption) ?_; rotate_left; (· intro w hSw; (try dsimp only at hSw); go_simp; (try with_reducible rfl)))
                 | fail "TK 11"
               try simp only [Act.put, List.setIfInBounds_toArray, List.set_cons_zero, List.set_cons_succ, List.getElem_toArray, List.getElem_cons_succ, List.getElem_cons_zero]
               first
                 | (refine wpAnyH_take (i := 12) (v := undef) rfl (by kernel_rfl) (by kernel_rfl) (by kernel_rfl) (fun _ _ _ h => h) (Or.inr ⟨by rfl, rfl⟩) (by assumption) ?_)
                 | (refine wpAnyH_take (i := 12) (v := ?_) rfl (by kernel_rfl) (by kernel_rfl) (by kernel_rfl) (fun _ _ _ h => h) (Or.inl ⟨by rfl, ?_⟩) (by assumption) ?_; rotate_left; (· intro w hSw; (try dsimp only at hSw); go_simp; (try with_reducible rfl)))
                 | fail "TK 12"
               try simp only [Act.put, List.setIfInBounds_toArray, List.set_cons_zero, List.set_cons_succ, List.getElem_toArray, List.getElem_cons_succ, List.getElem_cons_zero]
               first
                 | (refine wpAnyH_take (i := 13) (v := undef) rfl (by kernel_rfl) (by kernel_rfl) (by kernel_rfl) (fun _ _ _ h => h) (Or.inr ⟨by rfl, rfl⟩) (by assumption) ?_)
                 | (refine wpAnyH_take (i := 13) (v := ?_) rfl (by kernel_rfl) (by kernel_rfl) (by kernel_rfl) (fun _ _ _ h => h) (Or.inl ⟨by rfl, ?_⟩) (by assumption) ?_; rotate_left; (· intro w hSw; (try dsimp only at hSw); go_simp; (try with_reducible rfl)))
                 | fail "TK 13"
               try simp only [Act.put, List.setIfInBounds_toArray, List.set_cons_zero, List.set_cons_succ, List.getElem_toArray, List.getElem_cons_succ, List.getElem_cons_zero]
               have lX5 := X1.lt
               have lY5 := X2.lt
               have lT5 := RT5.lt
               have lZ5 := RZ5.lt
               have pvx : ¬ v8.heap.size = n1 := by omega
               have pvy : ¬ v8.heap.size = n2 := by omega
               have pvt : ¬ v8.heap.size = w.heap.size + 1 + 1 := by omega
               have pvz : ¬ v8.heap.size = w.heap.size + 1 + 1 + 1 := by omega
               have pvw : w.heap.size ≤ v8.heap.size := by omega
               have BW8 := Lib.hid (bl_then BW5.out B.out)
               have RZ9 := (RZ5.keep B.out).setf pvz (.int .i64 k) (.int .i64 N) (.int .i64 Q) (.string ⟨#[]⟩)
               have RV9 := RV.putf (.int .i64 k) (.int .i64 N) (.int .i64 Q) (.string ⟨#[]⟩)
               have BW9 := Lib.hid ((((BW8.out.setCell (p := ⟨v8.heap.size, 0, none⟩) pvw (.int .i64 k)).setCell (p := ⟨v8.heap.size, 1, none⟩) pvw (.int .i64 N)).setCell (p := ⟨v8.heap.size, 2, none⟩) pvw (.int .i64 Q)).setCell (p := ⟨v8.heap.size, 3, none⟩) pvw (.string ⟨#[]⟩))
               obtain ⟨v0, v1, v2, v3⟩ := RV.four
               have g0 := RV.free 0
               have g1 := RV.free 1
               have g2 := RV.free 2
               have g3 := RV.free 3
               refine wpAnyH_ready (rs := [15]) (by kernel_rfl) (by simp) ?_
               refine AllReadyH.cons rfl (fun K hK => ?_) AllReadyH.nil
               try simp only [List.getElem_toArray, List.getElem_cons_succ, List.getElem_cons_zero]
               go_simp
               refine hK.out _ _ ?_ (fun hHeld2 => ?_)
               · exact ⟨((X1.keep B.out).setf pvx (.int .i64 k) (.int .i64 N) (.int .i64 Q) (.string ⟨#[]⟩)).ex, ((X2.keep B.out).setf pvy (.int .i64 k) (.int .i64 N) (.int .i64 Q) (.string ⟨#[]⟩)).ex, ((RT5.keep B.out).setf pvt (.int .i64 k) (.int .i64 N) (.int .i64 Q) (.string ⟨#[]⟩)).six⟩
               clear hK K hHeld
               have hHeld := hHeld2
               clear hHeld2
               try simp only [Act.put, List.setIfInBounds_toArray, List.set_cons_zero, List.set_cons_succ, List.getElem_toArray, List.getElem_cons_succ, List.getElem_cons_zero]
               first
                 | (refine wpAnyH_take (i := 16) (v := undef) rfl (by kernel_rfl) (by kernel_rfl) (by kernel_rfl) (fun _ _ _ h => h) (Or.inr ⟨by rfl, rfl⟩) (by assumption) ?_)
                 | (refine wpAnyH_take (i := 16) (v := ?_) rfl (by kernel_rfl) (by kernel_rfl) (by kernel_rfl) (fun _ _ _ h => h) (Or.inl ⟨by rfl, ?_⟩) (by assumption) ?_; rotate_left; (· intro w hSw; (try dsimp only at hSw); go_simp; (try with_reducible rfl)))
                 | fail "TK 16"
               try simp only [Act.put, List.setIfInBounds_toArray, List.set_cons_zero, List.set_cons_succ, List.getElem_toArray, List.getElem_cons_succ, List.getElem_cons_zero]
               refine wpAnyH_done (by kernel_rfl) ?_ _
               clear v0 v1 v2 v3 g0 g1 g2 g3 RV B BW8 X1 X2 RT5 RZ5 HAX HBX H4 H5 H6 H7 H8 HFIT hHeld
               obtain ⟨v0, v1, v2, v3⟩ := RV9.four
               obtain ⟨z0, z1, z2, z3⟩ := RZ9.four
               have g0 := RZ9.free 0
               have g1 := RZ9.free 1
               have g2 := RZ9.free 2
               have g3 := RZ9.free 3
               clear RV9 RZ9
               generalize ((((v10.setCell ⟨v8.heap.size, 0, none⟩ (.int .i64 k)).setCell ⟨v8.heap.size, 1, none⟩ (.int .i64 N)).setCell ⟨v8.heap.size, 2, none⟩ (.int .i64 Q)).setCell ⟨v8.heap.size, 3, none⟩ (.string ⟨#[]⟩)) = we at *
               iterate 60 (first | go_values | go_skip | go_guarded | go_step | go_upon | go_simp | skip)
               refine bodyPost_ret (v := .tuple #[valV k N Q ⟨#[]⟩, .int .i64 c, .int .i64 0]) (by simp [results, Tryz.results17, go_sem, z0, z1, z2, z3]) rfl ⟨N, Q, c, ⟨rfl, ?_⟩, hf.out⟩
               (repeat refine Below.setCell ?_ (by simp <;> omega) _)
               exact BW9.out
           · try simp only [List.getElem_toArray, List.getElem_cons_succ, List.getElem_cons_zero]
             go_simp
             refine hK.out _ _ ?_ (fun hHeld2 => ?_)
             · exact ⟨((X1.keep B.out).alloc (.cells (vaC 0 0 0 ⟨#[]⟩) 23)).ex, ((X2.keep B.out).alloc (.cells (vaC 0 0 0 ⟨#[]⟩) 23)).ex, ((RT5.keep B.out).alloc (.cells (vaC 0 0 0 ⟨#[]⟩) 23)).six⟩
             clear hK K hHeld
             have hHeld := hHeld2
             clear hHeld2
             try simp only [Act.put, List.setIfInBounds_toArray, List.set_cons_zero, List.set_cons_succ, List.getElem_toArray, List.getElem_cons_succ, List.getElem_cons_zero]
             have hbz := B.out.size
             have RV : Row _ v7.heap.size (vaC 0 0 0 ⟨#[]⟩) 23 := Row.new v7 (vaC 0 0 0 ⟨#[]⟩) 23
             have B := Lib.hid (B.out.alloc B.out.size (.cells (vaC 0 0 0 ⟨#[]⟩) 23))
             have RR := Lib.hid (RR.out.keep (Below.alloc (Below.refl _ v7) (Nat.le_refl _) (.cells (vaC 0 0 0 ⟨#[]⟩) 23)) (Nat.le_refl _))
             generalize (v7).alloc (.cells (vaC 0 0 0 ⟨#[]⟩) 23) = wa at *
             refine wpAnyH_ready (rs := [8]) (by kernel_rfl) (by simp) ?_
             refine AllReadyH.cons rfl (fun K hK => ?_) AllReadyH.nil
             try simp only [List.getElem_toArray, List.getElem_cons_succ, List.getElem_cons_zero]
             first
               | (go_at_call 37; refine (H8.out _ _ _ (HAX.out.keep B.out (Nat.le_refl _)) RR.out).mono ?_; rintro e v8 ⟨y8, rfl, R8, hb⟩; have B := Lib.hid (B.out.trans (hb.mono B.out.size)); obtain ⟨pp8, kk8, qq8, ll8, rfl⟩ := R8.open; have RR := Lib.hid (R8.base (Nat.zero_le _)); have RV := RV.keep hb; clear hb R8)
               | (go_simp; (go_at_call 37; refine (H8.out _ _ _ (HAX.out.keep B.out (Nat.le_refl _)) RR.out).mono ?_; rintro e v8 ⟨y8, rfl, R8, hb⟩; have B := Lib.hid (B.out.trans (hb.mono B.out.size)); obtain ⟨pp8, kk8, qq8, ll8, rfl⟩ := R8.open; have RR := Lib.hid (R8.base (Nat.zero_le _)); have RV := RV.keep hb; clear hb R8))
               | fail "CALL"
             try go_wp2_with fail
             refine hK.out _ _ ?_ (fun hHeld2 => ?_)
             · exact ⟨(X1.keep B.out).ex, (X2.keep B.out).ex, (RT5.keep B.out).six⟩
             clear hK K hHeld
             have hHeld := hHeld2
             clear hHeld2
             try simp only [Act.put, List.setIfInBounds_toArray, List.set_cons_zero, List.set_cons_succ, List.getElem_toArray, List.getElem_cons_succ, List.getElem_cons_zero]
             refine wpAnyH_ready (rs := [10]) (by kernel_rfl) (by simp) ?_
             refine AllReadyH.cons rfl (fun K hK => ?_) AllReadyH.nil
             try simp only [List.getElem_toArray, List.getElem_cons_succ, List.getElem_cons_zero]
             first
               | (go_at_call 36; refine (HFIT.out _ _ RR.out).mono ?_; rintro e v10 ⟨N, Q, c, ⟨rfl, hb⟩, hf⟩; have hf := Lib.hid hf; have B := Lib.hid (B.out.trans (hb.mono B.out.size)); have RV := RV.keep hb; clear hb RR)
               | (go_simp; (go_at_call 36; refine (HFIT.out _ _ RR.out).mono ?_; rintro e v10 ⟨N, Q, c, ⟨rfl, hb⟩, hf⟩; have hf := Lib.hid hf; have B := Lib.hid (B.out.trans (hb.mono B.out.size)); have RV := RV.keep hb; clear hb RR))
               | fail "CALL"
             try go_wp2_with fail
             refine hK.out _ _ ?_ (fun hHeld2 => ?_)
             · exact ⟨(X1.keep B.out).ex, (X2.keep B.out).ex, (RT5.keep B.out).six⟩
             clear hK K hHeld
             have hHeld := hHeld2
             clear hHeld2
             try simp only [Act.put, List.setIfInBounds_toArray, List.set_cons_zero, List.set_cons_succ, List.getElem_toArray, List.getElem_cons_succ, List.getElem_cons_zero]
             first
               | (refine wpAnyH_take (i := 11) (v := undef) rfl (by kernel_rfl) (by kernel_rfl) (by kernel_rfl) (fun _ _ _ h => h) (Or.inr ⟨by rfl, rfl⟩) (by assumption) ?_)
               | (refine wpAnyH_take (i := 11) (v := ?_) rfl (by kernel_rfl) (by kernel_rfl) (by kernel_rfl) (fun _ _ _ h => h) (Or.inl ⟨by rfl, ?_⟩) (by assumption) ?_; rotate_left; (· intro w hSw; (try dsimp only at hSw); go_simp; (try with_reducible rfl)))
               | fail "TK 11"
             try simp only [Act.put, List.setIfInBounds_toArray, List.set_cons_zero, List.set_cons_succ, List.getElem_toArray, List.getElem_cons_succ, List.getElem_cons_zero]
             first
               | (refine wpAnyH_take (i := 12) (v := undef) rfl (by kernel_rfl) (by kernel_rfl) (by kernel_rfl) (fun _ _ _ h => h) (Or.inr ⟨by rfl, rfl⟩) (by assumption) ?_)
               | (refine wpAnyH_take (i := 12) (v := ?_) rfl (by kernel_rfl) (by kernel_rfl) (by kernel_rfl) (fun _ _ _ h => h) (Or.inl ⟨by rfl, ?_⟩) (by assumption) ?_; rotate_left; (· intro w hSw; (try dsimp only at hSw); go_simp; (try with_reducible rfl)))
               | fail "TK 12"
             try simp only [Act.put, List.setIfInBounds_toArray, List.set_cons_zero, List.set_cons_succ, List.getElem_toArray, List.getElem_cons_succ, List.getElem_cons_zero]
             first
               | (refine wpAnyH_take (i := 13) (v := undef) rfl (by kernel_rfl) (by kernel_rfl) (by kernel_rfl) (fun _ _ _ h => h) (Or.inr ⟨by rfl, rfl⟩) (by assumption) ?_)
               | (refine wpAnyH_take (i := 13) (v := ?_) rfl (by kernel_rfl) (by kernel_rfl) (by kernel_rfl) (fun _ _ _ h => h) (Or.inl ⟨by rfl, ?_⟩) (by assumption) ?_; rotate_left; (· intro w hSw; (try dsimp only at hSw); go_simp; (try with_reducible rfl)))
               | fail "TK 13"
             try simp only [Act.put, List.setIfInBounds_toArray, List.set_cons_zero, List.set_cons_succ, List.getElem_toArray, List.getElem_cons_succ, List.getElem_cons_zero]
             have lX5 := X1.lt
             have lY5 := X2.lt
             have lT5 := RT5.lt
             have lZ5 := RZ5.lt
             have pvx : ¬ v7.heap.size = n1 := by omega
             have pvy : ¬ v7.heap.size = n2 := by omega
             have pvt : ¬ v7.heap.size = w.heap.size + 1 + 1 := by omega
             have pvz : ¬ v7.heap.size = w.heap.size + 1 + 1 + 1 := by omega
             have pvw : w.heap.size ≤ v7.heap.size := by omega
             have BW8 := Lib.hid (bl_then BW5.out B.out)
             have RZ9 := (RZ5.keep B.out).setf pvz (.int .i64 k) (.int .i64 N) (.int .i64 Q) (.string ⟨#[]⟩)
             have RV9 := RV.putf (.int .i64 k) (.int .i64 N) (.int .i64 Q) (.string ⟨#[]⟩)
             have BW9 := Lib.hid ((((BW8.out.setCell (p := ⟨v7.heap.size, 0, none⟩) pvw (.int .i64 k)).setCell (p := ⟨v7.heap.size, 1, none⟩) pvw (.int .i64 N)).setCell (p := ⟨v7.heap.size, 2, none⟩) pvw (.int .i64 Q)).setCell (p := ⟨v7.heap.size, 3, none⟩) pvw (.string ⟨#[]⟩))
             obtain ⟨v0, v1, v2, v3⟩ := RV.four
             have g0 := RV.free 0
             have g1 := RV.free 1
             have g2 := RV.free 2
             have g3 := RV.free 3
             refine wpAnyH_ready (rs := [15]) (by kernel_rfl) (by simp) ?_
             refine AllReadyH.cons rfl (fun K hK => ?_) AllReadyH.nil
             try simp only [List.getElem_toArray, List.getElem_cons_succ, List.getElem_cons_zero]
             go_simp
             refine hK.out _ _ ?_ (fun hHeld2 => ?_)
             · exact ⟨((X1.keep B.out).setf pvx (.int .i64 k) (.int .i64 N) (.int .i64 Q) (.string ⟨#[]⟩)).ex, ((X2.keep B.out).setf pvy (.int .i64 k) (.int .i64 N) (.int .i64 Q) (.string ⟨#[]⟩)).ex, ((RT5.keep B.out).setf pvt (.int .i64 k) (.int .i64 N) (.int .i64 Q) (.string ⟨#[]⟩)).six⟩
             clear hK K hHeld
             have hHeld := hHeld2
             clear hHeld2
             try simp only [Act.put, List.setIfInBounds_toArray, List.set_cons_zero, List.set_cons_succ, List.getElem_toArray, List.getElem_cons_succ, List.getElem_cons_zero]
             first
               | (refine wpAnyH_take (i := 16) (v := undef) rfl (by kernel_rfl) (by kernel_rfl) (by kernel_rfl) (fun _ _ _ h => h) (Or.inr ⟨by rfl, rfl⟩) (by assumption) ?_)
               | (refine wpAnyH_take (i := 16) (v := ?_) rfl (by kernel_rfl) (by kernel_rfl) (by kernel_rfl) (fun _ _ _ h => h) (Or.inl ⟨by rfl, ?_⟩) (by assumption) ?_; rotate_left; (· intro w hSw; (try dsimp only at hSw); go_simp; (try with_reducible rfl)))
               | fail "TK 16"
             try simp only [Act.put, List.setIfInBounds_toArray, List.set_cons_zero, List.set_cons_succ, List.getElem_toArray, List.getElem_cons_succ, List.getElem_cons_zero]
             refine wpAnyH_done (by kernel_rfl) ?_ _
             clear v0 v1 v2 v3 g0 g1 g2 g3 RV B BW8 X1 X2 RT5 RZ5 HAX HBX H4 H5 H6 H7 H8 HFIT hHeld
             obtain ⟨v0, v1, v2, v3⟩ := RV9.four
             obtain ⟨z0, z1, z2, z3⟩ := RZ9.four
             have g0 := RZ9.free 0
             have g1 := RZ9.free 1
             have g2 := RZ9.free 2
             have g3 := RZ9.free 3
             clear RV9 RZ9
             generalize ((((v10.setCell ⟨v7.heap.size, 0, none⟩ (.int .i64 k)).setCell ⟨v7.heap.size, 1, none⟩ (.int .i64 N)).setCell ⟨v7.heap.size, 2, none⟩ (.int .i64 Q)).setCell ⟨v7.heap.size, 3, none⟩ (.string ⟨#[]⟩)) = we at *
             iterate 60 (first | go_values | go_skip | go_guarded | go_step | go_upon | go_simp | skip)
             refine bodyPost_ret (v := .tuple #[valV k N Q ⟨#[]⟩, .int .i64 c, .int .i64 0]) (by simp [results, Tryz.results17, go_sem, z0, z1, z2, z3]) rfl ⟨N, Q, c, ⟨rfl, ?_⟩, hf.out⟩
             (repeat refine Below.setCell ?_ (by simp <;> omega) _)
             exact BW9.out
         · try simp only [List.getElem_toArray, List.getElem_cons_succ, List.getElem_cons_zero]
           go_simp
           refine hK.out _ _ ?_ (fun hHeld2 => ?_)
           · exact ⟨((X1.keep B.out).alloc (.cells (vaC 0 0 0 ⟨#[]⟩) 23)).ex, ((X2.keep B.out).alloc (.cells (vaC 0 0 0 ⟨#[]⟩) 23)).ex, ((RT5.keep B.out).alloc (.cells (vaC 0 0 0 ⟨#[]⟩) 23)).six⟩
           clear hK K hHeld
           have hHeld := hHeld2
           clear hHeld2
           try simp only [Act.put, List.setIfInBounds_toArray, List.set_cons_zero, List.set_cons_succ, List.getElem_toArray, List.getElem_cons_succ, List.getElem_cons_zero]
           have hbz := B.out.size
           have RV : Row _ v6.heap.size (vaC 0 0 0 ⟨#[]⟩) 23 := Row.new v6 (vaC 0 0 0 ⟨#[]⟩) 23
           have B := Lib.hid (B.out.alloc B.out.size (.cells (vaC 0 0 0 ⟨#[]⟩) 23))
           have RR := Lib.hid (RR.out.keep (Below.alloc (Below.refl _ v6) (Nat.le_refl _) (.cells (vaC 0 0 0 ⟨#[]⟩) 23)) (Nat.le_refl _))
           generalize (v6).alloc (.cells (vaC 0 0 0 ⟨#[]⟩) 23) = wa at *
           refine wpAnyH_ready (rs := [7]) (by kernel_rfl) (by simp) ?_
           refine AllReadyH.cons rfl (fun K hK => ?_) AllReadyH.nil
           try simp only [List.getElem_toArray, List.getElem_cons_succ, List.getElem_cons_zero]
           first
             | (go_at_call 38; refine (H7.out _ _ RR.out).mono ?_; rintro e v7 ⟨y7, rfl, R7, hb⟩; have B := Lib.hid (B.out.trans (hb.mono B.out.size)); obtain ⟨pp7, kk7, qq7, ll7, rfl⟩ := R7.open; have RR := Lib.hid (R7.base (Nat.zero_le _)); have RV := RV.keep hb; clear hb R7)
             | (go_simp; (go_at_call 38; refine (H7.out _ _ RR.out).mono ?_; rintro e v7 ⟨y7, rfl, R7, hb⟩; have B := Lib.hid (B.out.trans (hb.mono B.out.size)); obtain ⟨pp7, kk7, qq7, ll7, rfl⟩ := R7.open; have RR := Lib.hid (R7.base (Nat.zero_le _)); have RV := RV.keep hb; clear hb R7))
             | fail "CALL"
           try go_wp2_with fail
           refine hK.out _ _ ?_ (fun hHeld2 => ?_)
           · exact ⟨(X1.keep B.out).ex, (X2.keep B.out).ex, (RT5.keep B.out).six⟩
           clear hK K hHeld
           have hHeld := hHeld2
           clear hHeld2
           try simp only [Act.put, List.setIfInBounds_toArray, List.set_cons_zero, List.set_cons_succ, List.getElem_toArray, List.getElem_cons_succ, List.getElem_cons_zero]
           refine wpAnyH_ready (rs := [8]) (by kernel_rfl) (by simp) ?_
           refine AllReadyH.cons rfl (fun K hK => ?_) AllReadyH.nil
           try simp only [List.getElem_toArray, List.getElem_cons_succ, List.getElem_cons_zero]
           first
             | (go_at_call 37; refine (H8.out _ _ _ (HAX.out.keep B.out (Nat.le_refl _)) RR.out).mono ?_; rintro e v8 ⟨y8, rfl, R8, hb⟩; have B := Lib.hid (B.out.trans (hb.mono B.out.size)); obtain ⟨pp8, kk8, qq8, ll8, rfl⟩ := R8.open; have RR := Lib.hid (R8.base (Nat.zero_le _)); have RV := RV.keep hb; clear hb R8)
             | (go_simp; (go_at_call 37; refine (H8.out _ _ _ (HAX.out.keep B.out (Nat.le_refl _)) RR.out).mono ?_; rintro e v8 ⟨y8, rfl, R8, hb⟩; have B := Lib.hid (B.out.trans (hb.mono B.out.size)); obtain ⟨pp8, kk8, qq8, ll8, rfl⟩ := R8.open; have RR := Lib.hid (R8.base (Nat.zero_le _)); have RV := RV.keep hb; clear hb R8))
             | fail "CALL"
           try go_wp2_with fail
           refine hK.out _ _ ?_ (fun hHeld2 => ?_)
           · exact ⟨(X1.keep B.out).ex, (X2.keep B.out).ex, (RT5.keep B.out).six⟩
           clear hK K hHeld
           have hHeld := hHeld2
           clear hHeld2
           try simp only [Act.put, List.setIfInBounds_toArray, List.set_cons_zero, List.set_cons_succ, List.getElem_toArray, List.getElem_cons_succ, List.getElem_cons_zero]
           refine wpAnyH_ready (rs := [10]) (by kernel_rfl) (by simp) ?_
           refine AllReadyH.cons rfl (fun K hK => ?_) AllReadyH.nil
           try simp only [List.getElem_toArray, List.getElem_cons_succ, List.getElem_cons_zero]
           first
             | (go_at_call 36; refine (HFIT.out _ _ RR.out).mono ?_; rintro e v10 ⟨N, Q, c, ⟨rfl, hb⟩, hf⟩; have hf := Lib.hid hf; have B := Lib.hid (B.out.trans (hb.mono B.out.size)); have RV := RV.keep hb; clear hb RR)
             | (go_simp; (go_at_call 36; refine (HFIT.out _ _ RR.out).mono ?_; rintro e v10 ⟨N, Q, c, ⟨rfl, hb⟩, hf⟩; have hf := Lib.hid hf; have B := Lib.hid (B.out.trans (hb.mono B.out.size)); have RV := RV.keep hb; clear hb RR))
             | fail "CALL"
           try go_wp2_with fail
           refine hK.out _ _ ?_ (fun hHeld2 => ?_)
           · exact ⟨(X1.keep B.out).ex, (X2.keep B.out).ex, (RT5.keep B.out).six⟩
           clear hK K hHeld
           have hHeld := hHeld2
           clear hHeld2
           try simp only [Act.put, List.setIfInBounds_toArray, List.set_cons_zero, List.set_cons_succ, List.getElem_toArray, List.getElem_cons_succ, List.getElem_cons_zero]
           first
             | (refine wpAnyH_take (i := 11) (v := undef) rfl (by kernel_rfl) (by kernel_rfl) (by kernel_rfl) (fun _ _ _ h => h) (Or.inr ⟨by rfl, rfl⟩) (by assumption) ?_)
             | (refine wpAnyH_take (i := 11) (v := ?_) rfl (by kernel_rfl) (by kernel_rfl) (by kernel_rfl) (fun _ _ _ h => h) (Or.inl ⟨by rfl, ?_⟩) (by assumption) ?_; rotate_left; (· intro w hSw; (try dsimp only at hSw); go_simp; (try with_reducible rfl)))
             | fail "TK 11"
           try simp only [Act.put, List.setIfInBounds_toArray, List.set_cons_zero, List.set_cons_succ, List.getElem_toArray, List.getElem_cons_succ, List.getElem_cons_zero]
           first
             | (refine wpAnyH_take (i := 12) (v := undef) rfl (by kernel_rfl) (by kernel_rfl) (by kernel_rfl) (fun _ _ _ h => h) (Or.inr ⟨by rfl, rfl⟩) (by assumption) ?_)
             | (refine wpAnyH_take (i := 12) (v := ?_) rfl (by kernel_rfl) (by kernel_rfl) (by kernel_rfl) (fun _ _ _ h => h) (Or.inl ⟨by rfl, ?_⟩) (by assumption) ?_; rotate_left; (· intro w hSw; (try dsimp only at hSw); go_simp; (try with_reducible rfl)))
             | fail "TK 12"
           try simp only [Act.put, List.setIfInBounds_toArray, List.set_cons_zero, List.set_cons_succ, List.getElem_toArray, List.getElem_cons_succ, List.getElem_cons_zero]
           first
             | (refine wpAnyH_take (i := 13) (v := undef) rfl (by kernel_rfl) (by kernel_rfl) (by kernel_rfl) (fun _ _ _ h => h) (Or.inr ⟨by rfl, rfl⟩) (by assumption) ?_)
             | (refine wpAnyH_take (i := 13) (v := ?_) rfl (by kernel_rfl) (by kernel_rfl) (by kernel_rfl) (fun _ _ _ h => h) (Or.inl ⟨by rfl, ?_⟩) (by assumption) ?_; rotate_left; (· intro w hSw; (try dsimp only at hSw); go_simp; (try with_reducible rfl)))
             | fail "TK 13"
           try simp only [Act.put, List.setIfInBounds_toArray, List.set_cons_zero, List.set_cons_succ, List.getElem_toArray, List.getElem_cons_succ, List.getElem_cons_zero]
           have lX5 := X1.lt
           have lY5 := X2.lt
           have lT5 := RT5.lt
           have lZ5 := RZ5.lt
           have pvx : ¬ v6.heap.size = n1 := by omega
           have pvy : ¬ v6.heap.size = n2 := by omega
           have pvt : ¬ v6.heap.size = w.heap.size + 1 + 1 := by omega
           have pvz : ¬ v6.heap.size = w.heap.size + 1 + 1 + 1 := by omega
           have pvw : w.heap.size ≤ v6.heap.size := by omega
           have BW8 := Lib.hid (bl_then BW5.out B.out)
           have RZ9 := (RZ5.keep B.out).setf pvz (.int .i64 k) (.int .i64 N) (.int .i64 Q) (.string ⟨#[]⟩)
           have RV9 := RV.putf (.int .i64 k) (.int .i64 N) (.int .i64 Q) (.string ⟨#[]⟩)
           have BW9 := Lib.hid ((((BW8.out.setCell (p := ⟨v6.heap.size, 0, none⟩) pvw (.int .i64 k)).setCell (p := ⟨v6.heap.size, 1, none⟩) pvw (.int .i64 N)).setCell (p := ⟨v6.heap.size, 2, none⟩) pvw (.int .i64 Q)).setCell (p := ⟨v6.heap.size, 3, none⟩) pvw (.string ⟨#[]⟩))
           obtain ⟨v0, v1, v2, v3⟩ := RV.four
           have g0 := RV.free 0
           have g1 := RV.free 1
           have g2 := RV.free 2
           have g3 := RV.free 3
           refine wpAnyH_ready (rs := [15]) (by kernel_rfl) (by simp) ?_
           refine AllReadyH.cons rfl (fun K hK => ?_) AllReadyH.nil
           try simp only [List.getElem_toArray, List.getElem_cons_succ, List.getElem_cons_zero]
           go_simp
           refine hK.out _ _ ?_ (fun hHeld2 => ?_)
           · exact ⟨((X1.keep B.out).setf pvx (.int .i64 k) (.int .i64 N) (.int .i64 Q) (.string ⟨#[]⟩)).ex, ((X2.keep B.out).setf pvy (.int .i64 k) (.int .i64 N) (.int .i64 Q) (.string ⟨#[]⟩)).ex, ((RT5.keep B.out).setf pvt (.int .i64 k) (.int .i64 N) (.int .i64 Q) (.string ⟨#[]⟩)).six⟩
           clear hK K hHeld
           have hHeld := hHeld2
           clear hHeld2
           try simp only [Act.put, List.setIfInBounds_toArray, List.set_cons_zero, List.set_cons_succ, List.getElem_toArray, List.getElem_cons_succ, List.getElem_cons_zero]
           first
             | (refine wpAnyH_take (i := 16) (v := undef) rfl (by kernel_rfl) (by kernel_rfl) (by kernel_rfl) (fun _ _ _ h => h) (Or.inr ⟨by rfl, rfl⟩) (by assumption) ?_)
             | (refine wpAnyH_take (i := 16) (v := ?_) rfl (by kernel_rfl) (by kernel_rfl) (by kernel_rfl) (fun _ _ _ h => h) (Or.inl ⟨by rfl, ?_⟩) (by assumption) ?_; rotate_left; (· intro w hSw; (try dsimp only at hSw); go_simp; (try with_reducible rfl)))
             | fail "TK 16"
           try simp only [Act.put, List.setIfInBounds_toArray, List.set_cons_zero, List.set_cons_succ, List.getElem_toArray, List.getElem_cons_succ, List.getElem_cons_zero]
           refine wpAnyH_done (by kernel_rfl) ?_ _
           clear v0 v1 v2 v3 g0 g1 g2 g3 RV B BW8 X1 X2 RT5 RZ5 HAX HBX H4 H5 H6 H7 H8 HFIT hHeld
           obtain ⟨v0, v1, v2, v3⟩ := RV9.four
           obtain ⟨z0, z1, z2, z3⟩ := RZ9.four
           have g0 := RZ9.free 0
           have g1 := RZ9.free 1
           have g2 := RZ9.free 2
           have g3 := RZ9.free 3
           clear RV9 RZ9
           generalize ((((v10.setCell ⟨v6.heap.size, 0, none⟩ (.int .i64 k)).setCell ⟨v6.heap.size, 1, none⟩ (.int .i64 N)).setCell ⟨v6.heap.size, 2, none⟩ (.int .i64 Q)).setCell ⟨v6.heap.size, 3, none⟩ (.string ⟨#[]⟩)) = we at *
           iterate 60 (first | go_values | go_skip | go_guarded | go_step | go_upon | go_simp | skip)
           refine bodyPost_ret (v := .tuple #[valV k N Q ⟨#[]⟩, .int .i64 c, .int .i64 0]) (by simp [results, Tryz.results17, go_sem, z0, z1, z2, z3]) rfl ⟨N, Q, c, ⟨rfl, ?_⟩, hf.out⟩
           (repeat refine Below.setCell ?_ (by simp <;> omega) _)
           exact BW9.out
       · try simp only [List.getElem_toArray, List.getElem_cons_succ, List.getElem_cons_zero]
         go_simp
         refine hK.out _ _ ?_ (fun hHeld2 => ?_)
         · exact ⟨((X1.keep B.out).alloc (.cells (vaC 0 0 0 ⟨#[]⟩) 23)).ex, ((X2.keep B.out).alloc (.cells (vaC 0 0 0 ⟨#[]⟩) 23)).ex, ((RT5.keep B.out).alloc (.cells (vaC 0 0 0 ⟨#[]⟩) 23)).six⟩
         clear hK K hHeld
         have hHeld := hHeld2
         clear hHeld2
         try simp only [Act.put, List.setIfInBounds_toArray, List.set_cons_zero, List.set_cons_succ, List.getElem_toArray, List.getElem_cons_succ, List.getElem_cons_zero]
         have hbz := B.out.size
         have RV : Row _ v5.heap.size (vaC 0 0 0 ⟨#[]⟩) 23 := Row.new v5 (vaC 0 0 0 ⟨#[]⟩) 23
         have B := Lib.hid (B.out.alloc B.out.size (.cells (vaC 0 0 0 ⟨#[]⟩) 23))
         have RR := Lib.hid (RR.out.keep (Below.alloc (Below.refl _ v5) (Nat.le_refl _) (.cells (vaC 0 0 0 ⟨#[]⟩) 23)) (Nat.le_refl _))
         generalize (v5).alloc (.cells (vaC 0 0 0 ⟨#[]⟩) 23) = wa at *
         refine wpAnyH_ready (rs := [6]) (by kernel_rfl) (by simp) ?_
         refine AllReadyH.cons rfl (fun K hK => ?_) AllReadyH.nil
         try simp only [List.getElem_toArray, List.getElem_cons_succ, List.getElem_cons_zero]
         first
           | (go_at_call 39; refine (H6.out _ _ _ (HBX.out.keep B.out (Nat.le_refl _)) RR.out).mono ?_; rintro e v6 ⟨y6, rfl, R6, hb⟩; have B := Lib.hid (B.out.trans (hb.mono B.out.size)); obtain ⟨pp6, kk6, qq6, ll6, rfl⟩ := R6.open; have RR := Lib.hid (R6.base (Nat.zero_le _)); have RV := RV.keep hb; clear hb R6)
           | (go_simp; (go_at_call 39; refine (H6.out _ _ _ (HBX.out.keep B.out (Nat.le_refl _)) RR.out).mono ?_; rintro e v6 ⟨y6, rfl, R6, hb⟩; have B := Lib.hid (B.out.trans (hb.mono B.out.size)); obtain ⟨pp6, kk6, qq6, ll6, rfl⟩ := R6.open; have RR := Lib.hid (R6.base (Nat.zero_le _)); have RV := RV.keep hb; clear hb R6))
           | fail "CALL"
         try go_wp2_with fail
         refine hK.out _ _ ?_ (fun hHeld2 => ?_)
         · exact ⟨(X1.keep B.out).ex, (X2.keep B.out).ex, (RT5.keep B.out).six⟩
         clear hK K hHeld
         have hHeld := hHeld2
         clear hHeld2
         try simp only [Act.put, List.setIfInBounds_toArray, List.set_cons_zero, List.set_cons_succ, List.getElem_toArray, List.getElem_cons_succ, List.getElem_cons_zero]
         refine wpAnyH_ready (rs := [7]) (by kernel_rfl) (by simp) ?_
         refine AllReadyH.cons rfl (fun K hK => ?_) AllReadyH.nil
         try simp only [List.getElem_toArray, List.getElem_cons_succ, List.getElem_cons_zero]
         first
           | (go_at_call 38; refine (H7.out _ _ RR.out).mono ?_; rintro e v7 ⟨y7, rfl, R7, hb⟩; have B := Lib.hid (B.out.trans (hb.mono B.out.size)); obtain ⟨pp7, kk7, qq7, ll7, rfl⟩ := R7.open; have RR := Lib.hid (R7.base (Nat.zero_le _)); have RV := RV.keep hb; clear hb R7)
           | (go_simp; (go_at_call 38; refine (H7.out _ _ RR.out).mono ?_; rintro e v7 ⟨y7, rfl, R7, hb⟩; have B := Lib.hid (B.out.trans (hb.mono B.out.size)); obtain ⟨pp7, kk7, qq7, ll7, rfl⟩ := R7.open; have RR := Lib.hid (R7.base (Nat.zero_le _)); have RV := RV.keep hb; clear hb R7))
           | fail "CALL"
         try go_wp2_with fail
         refine hK.out _ _ ?_ (fun hHeld2 => ?_)
         · exact ⟨(X1.keep B.out).ex, (X2.keep B.out).ex, (RT5.keep B.out).six⟩
         clear hK K hHeld
         have hHeld := hHeld2
         clear hHeld2
         try simp only [Act.put, List.setIfInBounds_toArray, List.set_cons_zero, List.set_cons_succ, List.getElem_toArray, List.getElem_cons_succ, List.getElem_cons_zero]
         refine wpAnyH_ready (rs := [8]) (by kernel_rfl) (by simp) ?_
         refine AllReadyH.cons rfl (fun K hK => ?_) AllReadyH.nil
         try simp only [List.getElem_toArray, List.getElem_cons_succ, List.getElem_cons_zero]
         first
           | (go_at_call 37; refine (H8.out _ _ _ (HAX.out.keep B.out (Nat.le_refl _)) RR.out).mono ?_; rintro e v8 ⟨y8, rfl, R8, hb⟩; have B := Lib.hid (B.out.trans (hb.mono B.out.size)); obtain ⟨pp8, kk8, qq8, ll8, rfl⟩ := R8.open; have RR := Lib.hid (R8.base (Nat.zero_le _)); have RV := RV.keep hb; clear hb R8)
           | (go_simp; (go_at_call 37; refine (H8.out _ _ _ (HAX.out.keep B.out (Nat.le_refl _)) RR.out).mono ?_; rintro e v8 ⟨y8, rfl, R8, hb⟩; have B := Lib.hid (B.out.trans (hb.mono B.out.size)); obtain ⟨pp8, kk8, qq8, ll8, rfl⟩ := R8.open; have RR := Lib.hid (R8.base (Nat.zero_le _)); have RV := RV.keep hb; clear hb R8))
           | fail "CALL"
         try go_wp2_with fail
         refine hK.out _ _ ?_ (fun hHeld2 => ?_)
         · exact ⟨(X1.keep B.out).ex, (X2.keep B.out).ex, (RT5.keep B.out).six⟩
         clear hK K hHeld
         have hHeld := hHeld2
         clear hHeld2
         try simp only [Act.put, List.setIfInBounds_toArray, List.set_cons_zero, List.set_cons_succ, List.getElem_toArray, List.getElem_cons_succ, List.getElem_cons_zero]
         refine wpAnyH_ready (rs := [10]) (by kernel_rfl) (by simp) ?_
         refine AllReadyH.cons rfl (fun K hK => ?_) AllReadyH.nil
         try simp only [List.getElem_toArray, List.getElem_cons_succ, List.getElem_cons_zero]
         first
           | (go_at_call 36; refine (HFIT.out _ _ RR.out).mono ?_; rintro e v10 ⟨N, Q, c, ⟨rfl, hb⟩, hf⟩; have hf := Lib.hid hf; have B := Lib.hid (B.out.trans (hb.mono B.out.size)); have RV := RV.keep hb; clear hb RR)
           | (go_simp; (go_at_call 36; refine (HFIT.out _ _ RR.out).mono ?_; rintro e v10 ⟨N, Q, c, ⟨rfl, hb⟩, hf⟩; have hf := Lib.hid hf; have B := Lib.hid (B.out.trans (hb.mono B.out.size)); have RV := RV.keep hb; clear hb RR))
           | fail "CALL"
         try go_wp2_with fail
         refine hK.out _ _ ?_ (fun hHeld2 => ?_)
         · exact ⟨(X1.keep B.out).ex, (X2.keep B.out).ex, (RT5.keep B.out).six⟩
         clear hK K hHeld
         have hHeld := hHeld2
         clear hHeld2
         try simp only [Act.put, List.setIfInBounds_toArray, List.set_cons_zero, List.set_cons_succ, List.getElem_toArray, List.getElem_cons_succ, List.getElem_cons_zero]
         first
           | (refine wpAnyH_take (i := 11) (v := undef) rfl (by kernel_rfl) (by kernel_rfl) (by kernel_rfl) (fun _ _ _ h => h) (Or.inr ⟨by rfl, rfl⟩) (by assumption) ?_)
           | (refine wpAnyH_take (i := 11) (v := ?_) rfl (by kernel_rfl) (by kernel_rfl) (by kernel_rfl) (fun _ _ _ h => h) (Or.inl ⟨by rfl, ?_⟩) (by assumption) ?_; rotate_left; (· intro w hSw; (try dsimp only at hSw); go_simp; (try with_reducible rfl)))
           | fail "TK 11"
         try simp only [Act.put, List.setIfInBounds_toArray, List.set_cons_zero, List.set_cons_succ, List.getElem_toArray, List.getElem_cons_succ, List.getElem_cons_zero]
         first
           | (refine wpAnyH_take (i := 12) (v := undef) rfl (by kernel_rfl) (by kernel_rfl) (by kernel_rfl) (fun _ _ _ h => h) (Or.inr ⟨by rfl, rfl⟩) (by assumption) ?_)
           | (refine wpAnyH_take (i := 12) (v := ?_) rfl (by kernel_rfl) (by kernel_rfl) (by kernel_rfl) (fun _ _ _ h => h) (Or.inl ⟨by rfl, ?_⟩) (by assumption) ?_; rotate_left; (· intro w hSw; (try dsimp only at hSw); go_simp; (try with_reducible rfl)))
           | fail "TK 12"
         try simp only [Act.put, List.setIfInBounds_toArray, List.set_cons_zero, List.set_cons_succ, List.getElem_toArray, List.getElem_cons_succ, List.getElem_cons_zero]
         first
           | (refine wpAnyH_take (i := 13) (v := undef) rfl (by kernel_rfl) (by kernel_rfl) (by kernel_rfl) (fun _ _ _ h => h) (Or.inr ⟨by rfl, rfl⟩) (by assumption) ?_)
           | (refine wpAnyH_take (i := 13) (v := ?_) rfl (by kernel_rfl) (by kernel_rfl) (by kernel_rfl) (fun _ _ _ h => h) (Or.inl ⟨by rfl, ?_⟩) (by assumption) ?_; rotate_left; (· intro w hSw; (try dsimp only at hSw); go_simp; (try with_reducible rfl)))
           | fail "TK 13"
         try simp only [Act.put, List.setIfInBounds_toArray, List.set_cons_zero, List.set_cons_succ, List.getElem_toArray, List.getElem_cons_succ, List.getElem_cons_zero]
         have lX5 := X1.lt
         have lY5 := X2.lt
         have lT5 := RT5.lt
         have lZ5 := RZ5.lt
         have pvx : ¬ v5.heap.size = n1 := by omega
         have pvy : ¬ v5.heap.size = n2 := by omega
         have pvt : ¬ v5.heap.size = w.heap.size + 1 + 1 := by omega
         have pvz : ¬ v5.heap.size = w.heap.size + 1 + 1 + 1 := by omega
         have pvw : w.heap.size ≤ v5.heap.size := by omega
         have BW8 := Lib.hid (bl_then BW5.out B.out)
         have RZ9 := (RZ5.keep B.out).setf pvz (.int .i64 k) (.int .i64 N) (.int .i64 Q) (.string ⟨#[]⟩)
         have RV9 := RV.putf (.int .i64 k) (.int .i64 N) (.int .i64 Q) (.string ⟨#[]⟩)
         have BW9 := Lib.hid ((((BW8.out.setCell (p := ⟨v5.heap.size, 0, none⟩) pvw (.int .i64 k)).setCell (p := ⟨v5.heap.size, 1, none⟩) pvw (.int .i64 N)).setCell (p := ⟨v5.heap.size, 2, none⟩) pvw (.int .i64 Q)).setCell (p := ⟨v5.heap.size, 3, none⟩) pvw (.string ⟨#[]⟩))
         obtain ⟨v0, v1, v2, v3⟩ := RV.four
         have g0 := RV.free 0
         have g1 := RV.free 1
         have g2 := RV.free 2
         have g3 := RV.free 3
         refine wpAnyH_ready (rs := [15]) (by kernel_rfl) (by simp) ?_
         refine AllReadyH.cons rfl (fun K hK => ?_) AllReadyH.nil
         try simp only [List.getElem_toArray, List.getElem_cons_succ, List.getElem_cons_zero]
         go_simp
         refine hK.out _ _ ?_ (fun hHeld2 => ?_)
         · exact ⟨((X1.keep B.out).setf pvx (.int .i64 k) (.int .i64 N) (.int .i64 Q) (.string ⟨#[]⟩)).ex, ((X2.keep B.out).setf pvy (.int .i64 k) (.int .i64 N) (.int .i64 Q) (.string ⟨#[]⟩)).ex, ((RT5.keep B.out).setf pvt (.int .i64 k) (.int .i64 N) (.int .i64 Q) (.string ⟨#[]⟩)).six⟩
         clear hK K hHeld
         have hHeld := hHeld2
         clear hHeld2
         try simp only [Act.put, List.setIfInBounds_toArray, List.set_cons_zero, List.set_cons_succ, List.getElem_toArray, List.getElem_cons_succ, List.getElem_cons_zero]
         first
           | (refine wpAnyH_take (i := 16) (v := undef) rfl (by kernel_rfl) (by kernel_rfl) (by kernel_rfl) (fun _ _ _ h => h) (Or.inr ⟨by rfl, rfl⟩) (by assumption) ?_)
           | (refine wpAnyH_take (i := 16) (v := ?_) rfl (by kernel_rfl) (by kernel_rfl) (by kernel_rfl) (fun _ _ _ h => h) (Or.inl ⟨by rfl, ?_⟩) (by assumption) ?_; rotate_left; (· intro w hSw; (try dsimp only at hSw); go_simp; (try with_reducible rfl)))
           | fail "TK 16"
         try simp only [Act.put, List.setIfInBounds_toArray, List.set_cons_zero, List.set_cons_succ, List.getElem_toArray, List.getElem_cons_succ, List.getElem_cons_zero]
         refine wpAnyH_done (by kernel_rfl) ?_ _
         clear v0 v1 v2 v3 g0 g1 g2 g3 RV B BW8 X1 X2 RT5 RZ5 HAX HBX H4 H5 H6 H7 H8 HFIT hHeld
         obtain ⟨v0, v1, v2, v3⟩ := RV9.four
         obtain ⟨z0, z1, z2, z3⟩ := RZ9.four
         have g0 := RZ9.free 0
         have g1 := RZ9.free 1
         have g2 := RZ9.free 2
         have g3 := RZ9.free 3
         clear RV9 RZ9
         generalize ((((v10.setCell ⟨v5.heap.size, 0, none⟩ (.int .i64 k)).setCell ⟨v5.heap.size, 1, none⟩ (.int .i64 N)).setCell ⟨v5.heap.size, 2, none⟩ (.int .i64 Q)).setCell ⟨v5.heap.size, 3, none⟩ (.string ⟨#[]⟩)) = we at *
         iterate 60 (first | go_values | go_skip | go_guarded | go_step | go_upon | go_simp | skip)
         refine bodyPost_ret (v := .tuple #[valV k N Q ⟨#[]⟩, .int .i64 c, .int .i64 0]) (by simp [results, Tryz.results17, go_sem, z0, z1, z2, z3]) rfl ⟨N, Q, c, ⟨rfl, ?_⟩, hf.out⟩
         (repeat refine Below.setCell ?_ (by simp <;> omega) _)
         exact BW9.out
     · try simp only [List.getElem_toArray, List.getElem_cons_succ, List.getElem_cons_zero]
       go_simp
       refine hK.out _ _ ?_ (fun hHeld2 => ?_)
       · exact ⟨((X1.keep B.out).alloc (.cells (vaC 0 0 0 ⟨#[]⟩) 23)).ex, ((X2.keep B.out).alloc (.cells (vaC 0 0 0 ⟨#[]⟩) 23)).ex, ((RT5.keep B.out).alloc (.cells (vaC 0 0 0 ⟨#[]⟩) 23)).six⟩
       clear hK K hHeld
       have hHeld := hHeld2
       clear hHeld2
       try simp only [Act.put, List.setIfInBounds_toArray, List.set_cons_zero, List.set_cons_succ, List.getElem_toArray, List.getElem_cons_succ, List.getElem_cons_zero]
       have hbz := B.out.size
       have RV : Row _ v4.heap.size (vaC 0 0 0 ⟨#[]⟩) 23 := Row.new v4 (vaC 0 0 0 ⟨#[]⟩) 23
       have B := Lib.hid (B.out.alloc B.out.size (.cells (vaC 0 0 0 ⟨#[]⟩) 23))
       have RR := Lib.hid (RR.out.keep (Below.alloc (Below.refl _ v4) (Nat.le_refl _) (.cells (vaC 0 0 0 ⟨#[]⟩) 23)) (Nat.le_refl _))
       generalize (v4).alloc (.cells (vaC 0 0 0 ⟨#[]⟩) 23) = wa at *
       refine wpAnyH_ready (rs := [5]) (by kernel_rfl) (by simp) ?_
       refine AllReadyH.cons rfl (fun K hK => ?_) AllReadyH.nil
       try simp only [List.getElem_toArray, List.getElem_cons_succ, List.getElem_cons_zero]
       first
         | (go_at_call 40; refine (H5.out _ _ RR.out).mono ?_; rintro e v5 ⟨y5, rfl, R5, hb⟩; have B := Lib.hid (B.out.trans (hb.mono B.out.size)); obtain ⟨pp5, kk5, qq5, ll5, rfl⟩ := R5.open; have RR := Lib.hid (R5.base (Nat.zero_le _)); have RV := RV.keep hb; clear hb R5)
         | (go_simp; (go_at_call 40; refine (H5.out _ _ RR.out).mono ?_; rintro e v5 ⟨y5, rfl, R5, hb⟩; have B := Lib.hid (B.out.trans (hb.mono B.out.size)); obtain ⟨pp5, kk5, qq5, ll5, rfl⟩ := R5.open; have RR := Lib.hid (R5.base (Nat.zero_le _)); have RV := RV.keep hb; clear hb R5))
         | fail "CALL"
       try go_wp2_with fail
       refine hK.out _ _ ?_ (fun hHeld2 => ?_)
       · exact ⟨(X1.keep B.out).ex, (X2.keep B.out).ex, (RT5.keep B.out).six⟩
       clear hK K hHeld
       have hHeld := hHeld2
       clear hHeld2
       try simp only [Act.put, List.setIfInBounds_toArray, List.set_cons_zero, List.set_cons_succ, List.getElem_toArray, List.getElem_cons_succ, List.getElem_cons_zero]
       refine wpAnyH_ready (rs := [6]) (by kernel_rfl) (by simp) ?_
       refine AllReadyH.cons rfl (fun K hK => ?_) AllReadyH.nil
       try simp only [List.getElem_toArray, List.getElem_cons_succ, List.getElem_cons_zero]
       first
         | (go_at_call 39; refine (H6.out _ _ _ (HBX.out.keep B.out (Nat.le_refl _)) RR.out).mono ?_; rintro e v6 ⟨y6, rfl, R6, hb⟩; have B := Lib.hid (B.out.trans (hb.mono B.out.size)); obtain ⟨pp6, kk6, qq6, ll6, rfl⟩ := R6.open; have RR := Lib.hid (R6.base (Nat.zero_le _)); have RV := RV.keep hb; clear hb R6)
         | (go_simp; (go_at_call 39; refine (H6.out _ _ _ (HBX.out.keep B.out (Nat.le_refl _)) RR.out).mono ?_; rintro e v6 ⟨y6, rfl, R6, hb⟩; have B := Lib.hid (B.out.trans (hb.mono B.out.size)); obtain ⟨pp6, kk6, qq6, ll6, rfl⟩ := R6.open; have RR := Lib.hid (R6.base (Nat.zero_le _)); have RV := RV.keep hb; clear hb R6))
         | fail "CALL"
       try go_wp2_with fail
       refine hK.out _ _ ?_ (fun hHeld2 => ?_)
       · exact ⟨(X1.keep B.out).ex, (X2.keep B.out).ex, (RT5.keep B.out).six⟩
       clear hK K hHeld
       have hHeld := hHeld2
       clear hHeld2
       try simp only [Act.put, List.setIfInBounds_toArray, List.set_cons_zero, List.set_cons_succ, List.getElem_toArray, List.getElem_cons_succ, List.getElem_cons_zero]
       refine wpAnyH_ready (rs := [7]) (by kernel_rfl) (by simp) ?_
       refine AllReadyH.cons rfl (fun K hK => ?_) AllReadyH.nil
       try simp only [List.getElem_toArray, List.getElem_cons_succ, List.getElem_cons_zero]
       first
         | (go_at_call 38; refine (H7.out _ _ RR.out).mono ?_; rintro e v7 ⟨y7, rfl, R7, hb⟩; have B := Lib.hid (B.out.trans (hb.mono B.out.size)); obtain ⟨pp7, kk7, qq7, ll7, rfl⟩ := R7.open; have RR := Lib.hid (R7.base (Nat.zero_le _)); have RV := RV.keep hb; clear hb R7)
         | (go_simp; (go_at_call 38; refine (H7.out _ _ RR.out).mono ?_; rintro e v7 ⟨y7, rfl, R7, hb⟩; have B := Lib.hid (B.out.trans (hb.mono B.out.size)); obtain ⟨pp7, kk7, qq7, ll7, rfl⟩ := R7.open; have RR := Lib.hid (R7.base (Nat.zero_le _)); have RV := RV.keep hb; clear hb R7))
         | fail "CALL"
       try go_wp2_with fail
       refine hK.out _ _ ?_ (fun hHeld2 => ?_)
       · exact ⟨(X1.keep B.out).ex, (X2.keep B.out).ex, (RT5.keep B.out).six⟩
       clear hK K hHeld
       have hHeld := hHeld2
       clear hHeld2
       try simp only [Act.put, List.setIfInBounds_toArray, List.set_cons_zero, List.set_cons_succ, List.getElem_toArray, List.getElem_cons_succ, List.getElem_cons_zero]
       refine wpAnyH_ready (rs := [8]) (by kernel_rfl) (by simp) ?_
       refine AllReadyH.cons rfl (fun K hK => ?_) AllReadyH.nil
       try simp only [List.getElem_toArray, List.getElem_cons_succ, List.getElem_cons_zero]
       first
         | (go_at_call 37; refine (H8.out _ _ _ (HAX.out.keep B.out (Nat.le_refl _)) RR.out).mono ?_; rintro e v8 ⟨y8, rfl, R8, hb⟩; have B := Lib.hid (B.out.trans (hb.mono B.out.size)); obtain ⟨pp8, kk8, qq8, ll8, rfl⟩ := R8.open; have RR := Lib.hid (R8.base (Nat.zero_le _)); have RV := RV.keep hb; clear hb R8)
         | (go_simp; (go_at_call 37; refine (H8.out _ _ _ (HAX.out.keep B.out (Nat.le_refl _)) RR.out).mono ?_; rintro e v8 ⟨y8, rfl, R8, hb⟩; have B := Lib.hid (B.out.trans (hb.mono B.out.size)); obtain ⟨pp8, kk8, qq8, ll8, rfl⟩ := R8.open; have RR := Lib.hid (R8.base (Nat.zero_le _)); have RV := RV.keep hb; clear hb R8))
         | fail "CALL"
       try go_wp2_with fail
       refine hK.out _ _ ?_ (fun hHeld2 => ?_)
       · exact ⟨(X1.keep B.out).ex, (X2.keep B.out).ex, (RT5.keep B.out).six⟩
       clear hK K hHeld
       have hHeld := hHeld2
       clear hHeld2
       try simp only [Act.put, List.setIfInBounds_toArray, List.set_cons_zero, List.set_cons_succ, List.getElem_toArray, List.getElem_cons_succ, List.getElem_cons_zero]
       refine wpAnyH_ready (rs := [10]) (by kernel_rfl) (by simp) ?_
       refine AllReadyH.cons rfl (fun K hK => ?_) AllReadyH.nil
       try simp only [List.getElem_toArray, List.getElem_cons_succ, List.getElem_cons_zero]
       first
         | (go_at_call 36; refine (HFIT.out _ _ RR.out).mono ?_; rintro e v10 ⟨N, Q, c, ⟨rfl, hb⟩, hf⟩; have hf := Lib.hid hf; have B := Lib.hid (B.out.trans (hb.mono B.out.size)); have RV := RV.keep hb; clear hb RR)
         | (go_simp; (go_at_call 36; refine (HFIT.out _ _ RR.out).mono ?_; rintro e v10 ⟨N, Q, c, ⟨rfl, hb⟩, hf⟩; have hf := Lib.hid hf; have B := Lib.hid (B.out.trans (hb.mono B.out.size)); have RV := RV.keep hb; clear hb RR))
         | fail "CALL"
       try go_wp2_with fail
       refine hK.out _ _ ?_ (fun hHeld2 => ?_)
       · exact ⟨(X1.keep B.out).ex, (X2.keep B.out).ex, (RT5.keep B.out).six⟩
       clear hK K hHeld
       have hHeld := hHeld2
       clear hHeld2
       try simp only [Act.put, List.setIfInBounds_toArray, List.set_cons_zero, List.set_cons_succ, List.getElem_toArray, List.getElem_cons_succ, List.getElem_cons_zero]
       first
         | (refine wpAnyH_take (i := 11) (v := undef) rfl (by kernel_rfl) (by kernel_rfl) (by kernel_rfl) (fun _ _ _ h => h) (Or.inr ⟨by rfl, rfl⟩) (by assumption) ?_)
         | (refine wpAnyH_take (i := 11) (v := ?_) rfl (by kernel_rfl) (by kernel_rfl) (by kernel_rfl) (fun _ _ _ h => h) (Or.inl ⟨by rfl, ?_⟩) (by assumption) ?_; rotate_left; (· intro w hSw; (try dsimp only at hSw); go_simp; (try with_reducible rfl)))
         | fail "TK 11"
       try simp only [Act.put, List.setIfInBounds_toArray, List.set_cons_zero, List.set_cons_succ, List.getElem_toArray, List.getElem_cons_succ, List.getElem_cons_zero]
       first
         | (refine wpAnyH_take (i := 12) (v := undef) rfl (by kernel_rfl) (by kernel_rfl) (by kernel_rfl) (fun _ _ _ h => h) (Or.inr ⟨by rfl, rfl⟩) (by assumption) ?_)
         | (refine wpAnyH_take (i := 12) (v := ?_) rfl (by kernel_rfl) (by kernel_rfl) (by kernel_rfl) (fun _ _ _ h => h) (Or.inl ⟨by rfl, ?_⟩) (by assumption) ?_; rotate_left; (· intro w hSw; (try dsimp only at hSw); go_simp; (try with_reducible rfl)))
         | fail "TK 12"
       try simp only [Act.put, List.setIfInBounds_toArray, List.set_cons_zero, List.set_cons_succ, List.getElem_toArray, List.getElem_cons_succ, List.getElem_cons_zero]
       first
         | (refine wpAnyH_take (i := 13) (v := undef) rfl (by kernel_rfl) (by kernel_rfl) (by kernel_rfl) (fun _ _ _ h => h) (Or.inr ⟨by rfl, rfl⟩) (by assumption) ?_)
         | (refine wpAnyH_take (i := 13) (v := ?_) rfl (by kernel_rfl) (by kernel_rfl) (by kernel_rfl) (fun _ _ _ h => h) (Or.inl ⟨by rfl, ?_⟩) (by assumption) ?_; rotate_left; (· intro w hSw; (try dsimp only at hSw); go_simp; (try with_reducible rfl)))
         | fail "TK 13"
       try simp only [Act.put, List.setIfInBounds_toArray, List.set_cons_zero, List.set_cons_succ, List.getElem_toArray, List.getElem_cons_succ, List.getElem_cons_zero]
       have lX5 := X1.lt
       have lY5 := X2.lt
       have lT5 := RT5.lt
       have lZ5 := RZ5.lt
       have pvx : ¬ v4.heap.size = n1 := by omega
       have pvy : ¬ v4.heap.size = n2 := by omega
       have pvt : ¬ v4.heap.size = w.heap.size + 1 + 1 := by omega
       have pvz : ¬ v4.heap.size = w.heap.size + 1 + 1 + 1 := by omega
       have pvw : w.heap.size ≤ v4.heap.size := by omega
       have BW8 := Lib.hid (bl_then BW5.out B.out)
       have RZ9 := (RZ5.keep B.out).setf pvz (.int .i64 k) (.int .i64 N) (.int .i64 Q) (.string ⟨#[]⟩)
       have RV9 := RV.putf (.int .i64 k) (.int .i64 N) (.int .i64 Q) (.string ⟨#[]⟩)
       have BW9 := Lib.hid ((((BW8.out.setCell (p := ⟨v4.heap.size, 0, none⟩) pvw (.int .i64 k)).setCell (p := ⟨v4.heap.size, 1, none⟩) pvw (.int .i64 N)).setCell (p := ⟨v4.heap.size, 2, none⟩) pvw (.int .i64 Q)).setCell (p := ⟨v4.heap.size, 3, none⟩) pvw (.string ⟨#[]⟩))
       obtain ⟨v0, v1, v2, v3⟩ := RV.four
       have g0 := RV.free 0
       have g1 := RV.free 1
       have g2 := RV.free 2
       have g3 := RV.free 3
       refine wpAnyH_ready (rs := [15]) (by kernel_rfl) (by simp) ?_
       refine AllReadyH.cons rfl (fun K hK => ?_) AllReadyH.nil
       try simp only [List.getElem_toArray, List.getElem_cons_succ, List.getElem_cons_zero]
       go_simp
       refine hK.out _ _ ?_ (fun hHeld2 => ?_)
       · exact ⟨((X1.keep B.out).setf pvx (.int .i64 k) (.int .i64 N) (.int .i64 Q) (.string ⟨#[]⟩)).ex, ((X2.keep B.out).setf pvy (.int .i64 k) (.int .i64 N) (.int .i64 Q) (.string ⟨#[]⟩)).ex, ((RT5.keep B.out).setf pvt (.int .i64 k) (.int .i64 N) (.int .i64 Q) (.string ⟨#[]⟩)).six⟩
       clear hK K hHeld
       have hHeld := hHeld2
       clear hHeld2
       try simp only [Act.put, List.setIfInBounds_toArray, List.set_cons_zero, List.set_cons_succ, List.getElem_toArray, List.getElem_cons_succ, List.getElem_cons_zero]
       first
         | (refine wpAnyH_take (i := 16) (v := undef) rfl (by kernel_rfl) (by kernel_rfl) (by kernel_rfl) (fun _ _ _ h => h) (Or.inr ⟨by rfl, rfl⟩) (by assumption) ?_)
         | (refine wpAnyH_take (i := 16) (v := ?_) rfl (by kernel_rfl) (by kernel_rfl) (by kernel_rfl) (fun _ _ _ h => h) (Or.inl ⟨by rfl, ?_⟩) (by assumption) ?_; rotate_left; (· intro w hSw; (try dsimp only at hSw); go_simp; (try with_reducible rfl)))
         | fail "TK 16"
       try simp only [Act.put, List.setIfInBounds_toArray, List.set_cons_zero, List.set_cons_succ, List.getElem_toArray, List.getElem_cons_succ, List.getElem_cons_zero]
       refine wpAnyH_done (by kernel_rfl) ?_ _
       clear v0 v1 v2 v3 g0 g1 g2 g3 RV B BW8 X1 X2 RT5 RZ5 HAX HBX H4 H5 H6 H7 H8 HFIT hHeld
       obtain ⟨v0, v1, v2, v3⟩ := RV9.four
       obtain ⟨z0, z1, z2, z3⟩ := RZ9.four
       have g0 := RZ9.free 0
       have g1 := RZ9.free 1
       have g2 := RZ9.free 2
       have g3 := RZ9.free 3
       clear RV9 RZ9
       generalize ((((v10.setCell ⟨v4.heap.size, 0, none⟩ (.int .i64 k)).setCell ⟨v4.heap.size, 1, none⟩ (.int .i64 N)).setCell ⟨v4.heap.size, 2, none⟩ (.int .i64 Q)).setCell ⟨v4.heap.size, 3, none⟩ (.string ⟨#[]⟩)) = we at *
       iterate 60 (first | go_values | go_skip | go_guarded | go_step | go_upon | go_simp | skip)
       refine bodyPost_ret (v := .tuple #[valV k N Q ⟨#[]⟩, .int .i64 c, .int .i64 0]) (by simp [results, Tryz.results17, go_sem, z0, z1, z2, z3]) rfl ⟨N, Q, c, ⟨rfl, ?_⟩, hf.out⟩
       (repeat refine Below.setCell ?_ (by simp <;> omega) _)
       exact BW9.out
   · try simp only [List.getElem_toArray, List.getElem_cons_succ, List.getElem_cons_zero]
     go_simp
     refine hK.out _ _ ?_ (fun hHeld2 => ?_)
     · exact ⟨((X1.keep B.out).alloc (.cells (vaC 0 0 0 ⟨#[]⟩) 23)).ex, ((X2.keep B.out).alloc (.cells (vaC 0 0 0 ⟨#[]⟩) 23)).ex, ((RT5.keep B.out).alloc (.cells (vaC 0 0 0 ⟨#[]⟩) 23)).six⟩
     clear hK K hHeld
     have hHeld := hHeld2
     clear hHeld2
     try simp only [Act.put, List.setIfInBounds_toArray, List.set_cons_zero, List.set_cons_succ, List.getElem_toArray, List.getElem_cons_succ, List.getElem_cons_zero]
     have hbz : w5.heap.size ≤ w5.heap.size := Nat.le_refl _
     have RV : Row (w5.alloc (.cells (vaC 0 0 0 ⟨#[]⟩) 23)).drew w5.heap.size (vaC 0 0 0 ⟨#[]⟩) 23 := Row.newd w5 (vaC 0 0 0 ⟨#[]⟩) 23
     have B : Hid (Below w5.heap.size w5 (w5.alloc (.cells (vaC 0 0 0 ⟨#[]⟩) 23)).drew) := Lib.hid ((Below.refl _ w5).alloc (Nat.le_refl _) (.cells (vaC 0 0 0 ⟨#[]⟩) 23)).drew
     generalize (w5.alloc (.cells (vaC 0 0 0 ⟨#[]⟩) 23)).drew = wa at *
     refine wpAnyH_ready (rs := [4]) (by kernel_rfl) (by simp) ?_
     refine AllReadyH.cons rfl (fun K hK => ?_) AllReadyH.nil
     try simp only [List.getElem_toArray, List.getElem_cons_succ, List.getElem_cons_zero]
     first
       | (go_at_call 41; refine (H4.out _ _ _ (HAX.out.keep B.out (Nat.le_refl _)) (HBX.out.keep B.out (Nat.le_refl _))).mono ?_; rintro e v4 ⟨y4, rfl, R4, hb⟩; have B := Lib.hid (B.out.trans (hb.mono B.out.size)); obtain ⟨pp4, kk4, qq4, ll4, rfl⟩ := R4.open; have RR := Lib.hid (R4.base (Nat.zero_le _)); have RV := RV.keep hb; clear hb R4)
       | (go_simp; (go_at_call 41; refine (H4.out _ _ _ (HAX.out.keep B.out (Nat.le_refl _)) (HBX.out.keep B.out (Nat.le_refl _))).mono ?_; rintro e v4 ⟨y4, rfl, R4, hb⟩; have B := Lib.hid (B.out.trans (hb.mono B.out.size)); obtain ⟨pp4, kk4, qq4, ll4, rfl⟩ := R4.open; have RR := Lib.hid (R4.base (Nat.zero_le _)); have RV := RV.keep hb; clear hb R4))
       | fail "CALL"
     try go_wp2_with fail
     refine hK.out _ _ ?_ (fun hHeld2 => ?_)
     · exact ⟨(X1.keep B.out).ex, (X2.keep B.out).ex, (RT5.keep B.out).six⟩
     clear hK K hHeld
     have hHeld := hHeld2
     clear hHeld2
     try simp only [Act.put, List.setIfInBounds_toArray, List.set_cons_zero, List.set_cons_succ, List.getElem_toArray, List.getElem_cons_succ, List.getElem_cons_zero]
     refine wpAnyH_ready (rs := [5]) (by kernel_rfl) (by simp) ?_
     refine AllReadyH.cons rfl (fun K hK => ?_) AllReadyH.nil
     try simp only [List.getElem_toArray, List.getElem_cons_succ, List.getElem_cons_zero]
     first
       | (go_at_call 40; refine (H5.out _ _ RR.out).mono ?_; rintro e v5 ⟨y5, rfl, R5, hb⟩; have B := Lib.hid (B.out.trans (hb.mono B.out.size)); obtain ⟨pp5, kk5, qq5, ll5, rfl⟩ := R5.open; have RR := Lib.hid (R5.base (Nat.zero_le _)); have RV := RV.keep hb; clear hb R5)
       | (go_simp; (go_at_call 40; refine (H5.out _ _ RR.out).mono ?_; rintro e v5 ⟨y5, rfl, R5, hb⟩; have B := Lib.hid (B.out.trans (hb.mono B.out.size)); obtain ⟨pp5, kk5, qq5, ll5, rfl⟩ := R5.open; have RR := Lib.hid (R5.base (Nat.zero_le _)); have RV := RV.keep hb; clear hb R5))
       | fail "CALL"
     try go_wp2_with fail
     refine hK.out _ _ ?_ (fun hHeld2 => ?_)
     · exact ⟨(X1.keep B.out).ex, (X2.keep B.out).ex, (RT5.keep B.out).six⟩
     clear hK K hHeld
     have hHeld := hHeld2
     clear hHeld2
     try simp only [Act.put, List.setIfInBounds_toArray, List.set_cons_zero, List.set_cons_succ, List.getElem_toArray, List.getElem_cons_succ, List.getElem_cons_zero]
     refine wpAnyH_ready (rs := [6]) (by kernel_rfl) (by simp) ?_
     refine AllReadyH.cons rfl (fun K hK => ?_) AllReadyH.nil
     try simp only [List.getElem_toArray, List.getElem_cons_succ, List.getElem_cons_zero]
     first
       | (go_at_call 39; refine (H6.out _ _ _ (HBX.out.keep B.out (Nat.le_refl _)) RR.out).mono ?_; rintro e v6 ⟨y6, rfl, R6, hb⟩; have B := Lib.hid (B.out.trans (hb.mono B.out.size)); obtain ⟨pp6, kk6, qq6, ll6, rfl⟩ := R6.open; have RR := Lib.hid (R6.base (Nat.zero_le _)); have RV := RV.keep hb; clear hb R6)
       | (go_simp; (go_at_call 39; refine (H6.out _ _ _ (HBX.out.keep B.out (Nat.le_refl _)) RR.out).mono ?_; rintro e v6 ⟨y6, rfl, R6, hb⟩; have B := Lib.hid (B.out.trans (hb.mono B.out.size)); obtain ⟨pp6, kk6, qq6, ll6, rfl⟩ := R6.open; have RR := Lib.hid (R6.base (Nat.zero_le _)); have RV := RV.keep hb; clear hb R6))
       | fail "CALL"
     try go_wp2_with fail
     refine hK.out _ _ ?_ (fun hHeld2 => ?_)
     · exact ⟨(X1.keep B.out).ex, (X2.keep B.out).ex, (RT5.keep B.out).six⟩
     clear hK K hHeld
     have hHeld := hHeld2
     clear hHeld2
     try simp only [Act.put, List.setIfInBounds_toArray, List.set_cons_zero, List.set_cons_succ, List.getElem_toArray, List.getElem_cons_succ, List.getElem_cons_zero]
     refine wpAnyH_ready (rs := [7]) (by kernel_rfl) (by simp) ?_
     refine AllReadyH.cons rfl (fun K hK => ?_) AllReadyH.nil
     try simp only [List.getElem_toArray, List.getElem_cons_succ, List.getElem_cons_zero]
     first
       | (go_at_call 38; refine (H7.out _ _ RR.out).mono ?_; rintro e v7 ⟨y7, rfl, R7, hb⟩; have B := Lib.hid (B.out.trans (hb.mono B.out.size)); obtain ⟨pp7, kk7, qq7, ll7, rfl⟩ := R7.open; have RR := Lib.hid (R7.base (Nat.zero_le _)); have RV := RV.keep hb; clear hb R7)
       | (go_simp; (go_at_call 38; refine (H7.out _ _ RR.out).mono ?_; rintro e v7 ⟨y7, rfl, R7, hb⟩; have B := Lib.hid (B.out.trans (hb.mono B.out.size)); obtain ⟨pp7, kk7, qq7, ll7, rfl⟩ := R7.open; have RR := Lib.hid (R7.base (Nat.zero_le _)); have RV := RV.keep hb; clear hb R7))
       | fail "CALL"
     try go_wp2_with fail
     refine hK.out _ _ ?_ (fun hHeld2 => ?_)
     · exact ⟨(X1.keep B.out).ex, (X2.keep B.out).ex, (RT5.keep B.out).six⟩
     clear hK K hHeld
     have hHeld := hHeld2
     clear hHeld2
     try simp only [Act.put, List.setIfInBounds_toArray, List.set_cons_zero, List.set_cons_succ, List.getElem_toArray, List.getElem_cons_succ, List.getElem_cons_zero]
     refine wpAnyH_ready (rs := [8]) (by kernel_rfl) (by simp) ?_
     refine AllReadyH.cons rfl (fun K hK => ?_) AllReadyH.nil
     try simp only [List.getElem_toArray, List.getElem_cons_succ, List.getElem_cons_zero]
     first
       | (go_at_call 37; refine (H8.out _ _ _ (HAX.out.keep B.out (Nat.le_refl _)) RR.out).mono ?_; rintro e v8 ⟨y8, rfl, R8, hb⟩; have B := Lib.hid (B.out.trans (hb.mono B.out.size)); obtain ⟨pp8, kk8, qq8, ll8, rfl⟩ := R8.open; have RR := Lib.hid (R8.base (Nat.zero_le _)); have RV := RV.keep hb; clear hb R8)
       | (go_simp; (go_at_call 37; refine (H8.out _ _ _ (HAX.out.keep B.out (Nat.le_refl _)) RR.out).mono ?_; rintro e v8 ⟨y8, rfl, R8, hb⟩; have B := Lib.hid (B.out.trans (hb.mono B.out.size)); obtain ⟨pp8, kk8, qq8, ll8, rfl⟩ := R8.open; have RR := Lib.hid (R8.base (Nat.zero_le _)); have RV := RV.keep hb; clear hb R8))
       | fail "CALL"
     try go_wp2_with fail
     refine hK.out _ _ ?_ (fun hHeld2 => ?_)
     · exact ⟨(X1.keep B.out).ex, (X2.keep B.out).ex, (RT5.keep B.out).six⟩
     clear hK K hHeld
     have hHeld := hHeld2
     clear hHeld2
     try simp only [Act.put, List.setIfInBounds_toArray, List.set_cons_zero, List.set_cons_succ, List.getElem_toArray, List.getElem_cons_succ, List.getElem_cons_zero]
     refine wpAnyH_ready (rs := [10]) (by kernel_rfl) (by simp) ?_
     refine AllReadyH.cons rfl (fun K hK => ?_) AllReadyH.nil
     try simp only [List.getElem_toArray, List.getElem_cons_succ, List.getElem_cons_zero]
     first
       | (go_at_call 36; refine (HFIT.out _ _ RR.out).mono ?_; rintro e v10 ⟨N, Q, c, ⟨rfl, hb⟩, hf⟩; have hf := Lib.hid hf; have B := Lib.hid (B.out.trans (hb.mono B.out.size)); have RV := RV.keep hb; clear hb RR)
       | (go_simp; (go_at_call 36; refine (HFIT.out _ _ RR.out).mono ?_; rintro e v10 ⟨N, Q, c, ⟨rfl, hb⟩, hf⟩; have hf := Lib.hid hf; have B := Lib.hid (B.out.trans (hb.mono B.out.size)); have RV := RV.keep hb; clear hb RR))
       | fail "CALL"
     try go_wp2_with fail
     refine hK.out _ _ ?_ (fun hHeld2 => ?_)
     · exact ⟨(X1.keep B.out).ex, (X2.keep B.out).ex, (RT5.keep B.out).six⟩
     clear hK K hHeld
     have hHeld := hHeld2
     clear hHeld2
     try simp only [Act.put, List.setIfInBounds_toArray, List.set_cons_zero, List.set_cons_succ, List.getElem_toArray, List.getElem_cons_succ, List.getElem_cons_zero]
     first
       | (refine wpAnyH_take (i := 11) (v := undef) rfl (by kernel_rfl) (by kernel_rfl) (by kernel_rfl) (fun _ _ _ h => h) (Or.inr ⟨by rfl, rfl⟩) (by assumption) ?_)
       | (refine wpAnyH_take (i := 11) (v := ?_) rfl (by kernel_rfl) (by kernel_rfl) (by kernel_rfl) (fun _ _ _ h => h) (Or.inl ⟨by rfl, ?_⟩) (by assumption) ?_; rotate_left; (· intro w hSw; (try dsimp only at hSw); go_simp; (try with_reducible rfl)))
       | fail "TK 11"
     try simp only [Act.put, List.setIfInBounds_toArray, List.set_cons_zero, List.set_cons_succ, List.getElem_toArray, List.getElem_cons_succ, List.getElem_cons_zero]
     first
       | (refine wpAnyH_take (i := 12) (v := undef) rfl (by kernel_rfl) (by kernel_rfl) (by kernel_rfl) (fun _ _ _ h => h) (Or.inr ⟨by rfl, rfl⟩) (by assumption) ?_)
       | (refine wpAnyH_take (i := 12) (v := ?_) rfl (by kernel_rfl) (by kernel_rfl) (by kernel_rfl) (fun _ _ _ h => h) (Or.inl ⟨by rfl, ?_⟩) (by assumption) ?_; rotate_left; (· intro w hSw; (try dsimp only at hSw); go_simp; (try with_reducible rfl)))
       | fail "TK 12"
     try simp only [Act.put, List.setIfInBounds_toArray, List.set_cons_zero, List.set_cons_succ, List.getElem_toArray, List.getElem_cons_succ, List.getElem_cons_zero]
     first
       | (refine wpAnyH_take (i := 13) (v := undef) rfl (by kernel_rfl) (by kernel_rfl) (by kernel_rfl) (fun _ _ _ h => h) (Or.inr ⟨by rfl, rfl⟩) (by assumption) ?_)
       | (refine wpAnyH_take (i := 13) (v := ?_) rfl (by kernel_rfl) (by kernel_rfl) (by kernel_rfl) (fun _ _ _ h => h) (Or.inl ⟨by rfl, ?_⟩) (by assumption) ?_; rotate_left; (· intro w hSw; (try dsimp only at hSw); go_simp; (try with_reducible rfl)))
       | fail "TK 13"
     try simp only [Act.put, List.setIfInBounds_toArray, List.set_cons_zero, List.set_cons_succ, List.getElem_toArray, List.getElem_cons_succ, List.getElem_cons_zero]
     have lX5 := X1.lt
     have lY5 := X2.lt
     have lT5 := RT5.lt
     have lZ5 := RZ5.lt
     have pvx : ¬ w5.heap.size = n1 := by omega
     have pvy : ¬ w5.heap.size = n2 := by omega
     have pvt : ¬ w5.heap.size = w.heap.size + 1 + 1 := by omega
     have pvz : ¬ w5.heap.size = w.heap.size + 1 + 1 + 1 := by omega
     have pvw : w.heap.size ≤ w5.heap.size := by omega
     have BW8 := Lib.hid (bl_then BW5.out B.out)
     have RZ9 := (RZ5.keep B.out).setf pvz (.int .i64 k) (.int .i64 N) (.int .i64 Q) (.string ⟨#[]⟩)
     have RV9 := RV.putf (.int .i64 k) (.int .i64 N) (.int .i64 Q) (.string ⟨#[]⟩)
     have BW9 := Lib.hid ((((BW8.out.setCell (p := ⟨w5.heap.size, 0, none⟩) pvw (.int .i64 k)).setCell (p := ⟨w5.heap.size, 1, none⟩) pvw (.int .i64 N)).setCell (p := ⟨w5.heap.size, 2, none⟩) pvw (.int .i64 Q)).setCell (p := ⟨w5.heap.size, 3, none⟩) pvw (.string ⟨#[]⟩))
     obtain ⟨v0, v1, v2, v3⟩ := RV.four
     have g0 := RV.free 0
     have g1 := RV.free 1
     have g2 := RV.free 2
     have g3 := RV.free 3
     refine wpAnyH_ready (rs := [15]) (by kernel_rfl) (by simp) ?_
     refine AllReadyH.cons rfl (fun K hK => ?_) AllReadyH.nil
     try simp only [List.getElem_toArray, List.getElem_cons_succ, List.getElem_cons_zero]
     go_simp
     refine hK.out _ _ ?_ (fun hHeld2 => ?_)
     · exact ⟨((X1.keep B.out).setf pvx (.int .i64 k) (.int .i64 N) (.int .i64 Q) (.string ⟨#[]⟩)).ex, ((X2.keep B.out).setf pvy (.int .i64 k) (.int .i64 N) (.int .i64 Q) (.string ⟨#[]⟩)).ex, ((RT5.keep B.out).setf pvt (.int .i64 k) (.int .i64 N) (.int .i64 Q) (.string ⟨#[]⟩)).six⟩
     clear hK K hHeld
     have hHeld := hHeld2
     clear hHeld2
     try simp only [Act.put, List.setIfInBounds_toArray, List.set_cons_zero, List.set_cons_succ, List.getElem_toArray, List.getElem_cons_succ, List.getElem_cons_zero]
     first
       | (refine wpAnyH_take (i := 16) (v := undef) rfl (by kernel_rfl) (by kernel_rfl) (by kernel_rfl) (fun _ _ _ h => h) (Or.inr ⟨by rfl, rfl⟩) (by assumption) ?_)
       | (refine wpAnyH_take (i := 16) (v := ?_) rfl (by kernel_rfl) (by kernel_rfl) (by kernel_rfl) (fun _ _ _ h => h) (Or.inl ⟨by rfl, ?_⟩) (by assumption) ?_; rotate_left; (· intro w hSw; (try dsimp only at hSw); go_simp; (try with_reducible rfl)))
       | fail "TK 16"
     try simp only [Act.put, List.setIfInBounds_toArray, List.set_cons_zero, List.set_cons_succ, List.getElem_toArray, List.getElem_cons_succ, List.getElem_cons_zero]
     refine wpAnyH_done (by kernel_rfl) ?_ _
     clear v0 v1 v2 v3 g0 g1 g2 g3 RV B BW8 X1 X2 RT5 RZ5 HAX HBX H4 H5 H6 H7 H8 HFIT hHeld
     obtain ⟨v0, v1, v2, v3⟩ := RV9.four
     obtain ⟨z0, z1, z2, z3⟩ := RZ9.four
     have g0 := RZ9.free 0
     have g1 := RZ9.free 1
     have g2 := RZ9.free 2
     have g3 := RZ9.free 3
     clear RV9 RZ9
     generalize ((((v10.setCell ⟨w5.heap.size, 0, none⟩ (.int .i64 k)).setCell ⟨w5.heap.size, 1, none⟩ (.int .i64 N)).setCell ⟨w5.heap.size, 2, none⟩ (.int .i64 Q)).setCell ⟨w5.heap.size, 3, none⟩ (.string ⟨#[]⟩)) = we at *
     iterate 60 (first | go_values | go_skip | go_guarded | go_step | go_upon | go_simp | skip)
     refine bodyPost_ret (v := .tuple #[valV k N Q ⟨#[]⟩, .int .i64 c, .int .i64 0]) (by simp [results, Tryz.results17, go_sem, z0, z1, z2, z3]) rfl ⟨N, Q, c, ⟨rfl, ?_⟩, hf.out⟩
     (repeat refine Below.setCell ?_ (by simp <;> omega) _)
     exact BW9.out
end Go.Proofs.YtpdoddhieblooaaGreatDoor
