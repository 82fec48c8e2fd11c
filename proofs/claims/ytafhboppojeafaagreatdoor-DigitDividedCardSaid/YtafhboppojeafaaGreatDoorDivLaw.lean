/- The law DigitDivided, where both are right numbers, the type is a fixed one and the divisor is not 0. -/
import Derived.Test.YtafhboppojeafaaGreatDoorDivAny
import Derived.Test.YtafhboppojeafaaGreatDoorGoodDig
import Derived.Test.YtafhboppojeafaaGreatDoorWrdAwake
namespace Go.Proofs.YtafhboppojeafaaGreatDoor
open Go.RowKit

/-- Blocks of P are as they were. -/
def Same (P : Nat → Prop) (w w' : World) : Prop := w.heap.size ≤ w'.heap.size ∧ ∀ c, P c → w'.heap[c]? = w.heap[c]?
theorem Same.refl (P : Nat → Prop) (w : World) : Same P w w := ⟨Nat.le_refl _, fun _ _ => rfl⟩
theorem Same.set {P : Nat → Prop} {w w' : World} (h : Same P w w') {a : Addr} (ha : ¬ P a.block) (v : Value) : Same P w (w'.setCell a v) :=
  ⟨by simpa using h.1, fun c hc => (Below.heap_setCell w' a v c (by rintro rfl; exact ha hc)).trans (h.2 c hc)⟩
theorem DArgP.same {P : Nat → Prop} {w w' : World} {v : Value} {n : Nat} (h : DArgP P w v n) (hs : Same P w w') : DArgP P w' v n := by
  rcases h with h | ⟨b, cap, rfl, h1, h2, h3, h4⟩
  · exact .inl h
  · refine .inr ⟨b, cap, rfl, h1, h2, Nat.lt_of_lt_of_le h3 hs.1, fun j hj => ?_⟩
    rw [← h4 j hj]
    simp only [World.cell?, hs.2 b h2]
theorem cell_keep {w w' : World} {a : Addr} {v : Value} (h : w.cell? a = some v) (hb : Below w.heap.size w w') : w'.cell? a = some v := (hb.cell (p := a) (World.block_lt_of_cell? w a h)).trans h
theorem Row.set3 {w : World} {b n : Nat} {cs : Array Value} {t : TypeId} (h : Row w b cs t) (hne : ¬ n = b) (y0 y1 y2 : Value) : Row (((w.setCell ⟨n, 0, none⟩ y0).setCell ⟨n, 1, none⟩ y1).setCell ⟨n, 2, none⟩ y2) b cs t :=
  ((h.set (a := ⟨n, 0, none⟩) hne).set (a := ⟨n, 1, none⟩) hne).set (a := ⟨n, 2, none⟩) hne
theorem Row.three3 {w : World} {b : Nat} {a0 a1 a2 : Value} {t : TypeId} (h : Row w b #[a0, a1, a2] t) :
    w.cell? ⟨b, 0, none⟩ = some a0 ∧ w.cell? ⟨b, 1, none⟩ = some a1 ∧ w.cell? ⟨b, 2, none⟩ = some a2 := ⟨h.at 0, h.at 1, h.at 2⟩
theorem DArgP.sliceP {P : Nat → Prop} {w : World} {v : Value} {n : Nat} (h : DArgP P w v n) : ∃ p cap, v = .slice p (digs n).length cap := (h.arg (B := 0) (fun _ _ => Nat.zero_le _)).slice
theorem Row.put0 {w : World} {b : Nat} {a0 a1 a2 : Value} {t : TypeId} (h : Row w b #[a0, a1, a2] t) (y0 : Value) : Row (w.setCell ⟨b, 0, none⟩ y0) b #[y0, a1, a2] t := heap_setCell_same w b 0 _ t y0 h
theorem succ_digs (M k : Nat) (h : (digs M).length ≤ k) : (digs (M + 1)).length ≤ k + 1 := by
  have h1 : M < 10 ^ k := Nat.lt_of_lt_of_le (digs_lt M) (Nat.pow_le_pow_right (by decide) h)
  have h2 : 10 ^ k < 10 ^ (k + 1) := Nat.pow_lt_pow_right (by decide) (Nat.lt_succ_self k)
  exact digs_length _ _ (by omega)
theorem not_free {B : Nat} {os : List (Option Nat)} {n : Nat} (h : some n ∈ os) : ¬ Free B os n := fun hf => hf.2 _ h rfl
theorem right_of_good (t : Va) (h : GoodP t.k t.n t.q t.s) : t.right := by
  obtain ⟨k, n, q, s⟩ := t
  refine ⟨fun e => ?_, fun e => ?_, fun e => ?_⟩
  · obtain rfl : k = 1 := e
    have h' : GoodP 1 n q s := h
    rw [good_1] at h'
    exact ⟨h'.1, h'.2.1, h'.2.2.1, h'.2.2.2.1⟩
  · obtain rfl : k = 2 := e
    have h' : GoodP 2 n q s := h
    rw [good_2] at h'
    exact ⟨h'.1, h'.2.1, h'.2.2.1, h'.2.2.2.1⟩
  · obtain rfl : k = 3 := e
    have h' : GoodP 3 n q s := h
    rw [good_3] at h'
    rcases h'.1 with h1 | h1
    · obtain ⟨rfl, rfl⟩ := h1
      show -1000000000000000 < (0 : Int) ∧ (0 : Int) < 1000000000000000 ∧ -1000 ≤ (0 : Int) ∧ (0 : Int) ≤ 1000
      decide
    · have hl := digs_length n.natAbs 15 (by omega)
      show -1000000000000000 < n ∧ n < 1000000000000000 ∧ -1000 ≤ q ∧ q ≤ 1000
      omega
theorem num_ne (t : Va) (h : t.n ≠ 0) : t.num ≠ 0 := by
  unfold Va.num shN
  split
  · split
    · exact h
    · intro e
      rcases Int.mul_eq_zero.1 e with e | e
      · exact h e
      · have : 0 < 10 ^ t.q.toNat := Nat.pow_pos (by decide)
        omega
  · exact h
theorem fixed_right {k N : Int} {β P q : Nat} (h : KindP k β P) (hq : q ≤ 31) (hN : N.natAbs < β ^ P) : (Va.mk k N q emp).right ∧ (Va.mk k N q emp).number ∧ (Va.mk k N q emp).num = N ∧ (Va.mk k N q emp).den = β ^ q := by
  rcases h with ⟨rfl, rfl, h1, h2⟩ | ⟨rfl, rfl, h1, h2⟩
  · have hp : (2 : Nat) ^ P ≤ 2 ^ 31 := Nat.pow_le_pow_right (by decide) h2
    have hb : N.natAbs < 2147483648 := Nat.lt_of_lt_of_le hN hp
    refine ⟨⟨fun _ => ?_, fun e => ?_, fun e => ?_⟩, .inl rfl, ?_, ?_⟩
    · show -2147483648 < N ∧ N < 2147483648 ∧ 0 ≤ (q : Int) ∧ (q : Int) ≤ 31
      omega
    · exact absurd e (show (1 : Int) ≠ 2 by decide)
    · exact absurd e (show (1 : Int) ≠ 3 by decide)
    · show (if (1 : Int) = 3 then shN N q else N) = N
      rw [if_neg (by decide)]
    · show (if (1 : Int) = 3 then _ else if (1 : Int) = 2 then _ else 2 ^ (q : Int).toNat) = 2 ^ q
      rw [if_neg (by decide), if_neg (by decide), Int.toNat_natCast]
  · have hp : (10 : Nat) ^ P ≤ 10 ^ 15 := Nat.pow_le_pow_right (by decide) h2
    have hb : N.natAbs < 1000000000000000 := Nat.lt_of_lt_of_le hN hp
    refine ⟨⟨fun e => ?_, fun _ => ?_, fun e => ?_⟩, .inr (.inl rfl), ?_, ?_⟩
    · exact absurd e (show (2 : Int) ≠ 1 by decide)
    · show -1000000000000000 < N ∧ N < 1000000000000000 ∧ 0 ≤ (q : Int) ∧ (q : Int) ≤ 31
      omega
    · exact absurd e (show (2 : Int) ≠ 3 by decide)
    · show (if (2 : Int) = 3 then shN N q else N) = N
      rw [if_neg (by decide)]
    · show (if (2 : Int) = 3 then _ else if (2 : Int) = 2 then 10 ^ (q : Int).toNat else _) = 10 ^ q
      rw [if_neg (by decide), if_pos rfl, Int.toNat_natCast]
theorem one_lt_bound {k : Int} {β P : Nat} (h : KindP k β P) : (1 : Int).natAbs < β ^ P := by
  rcases h with ⟨rfl, rfl, h1, h2⟩ | ⟨rfl, rfl, h1, h2⟩
  · exact Nat.lt_of_lt_of_le (by decide) (Nat.pow_le_pow_right (by decide) h1 : 2 ^ 1 ≤ 2 ^ P)
  · exact Nat.lt_of_lt_of_le (by decide) (Nat.pow_le_pow_right (by decide) h1 : 10 ^ 1 ≤ 10 ^ P)

set_option maxRecDepth 100000 in
set_option maxHeartbeats 8000000 in
theorem div_in {k : Int} {β P q : Nat} (h : KindP k β P) (hq : q ≤ 31) (ka na qa : Int) (sa : ByteArray) (kb nb qb : Int) (sb : ByteArray) (w : World) (hsa : sa.size ≤ maxLen) (hsb : sb.size ≤ maxLen)
    (ga : GoodP ka na qa sa) (gb : GoodP kb nb qb sb) (ha : (Va.mk ka na qa sa).number) (hb : (Va.mk kb nb qb sb).number) (hn : nb ≠ 0) (hv : validS k (P : Int) (q : Int) 0 false emp = true) :
    Calls Tryz.prog 3 #[vaV ka na qa sa, vaV kb nb qb sb, tyV k (P : Int) (q : Int) 0 false emp] w fun e w' => e = .returned (.bool true) ∧ Below w.heap.size w w' := by
  have ra := right_of_good ⟨ka, na, qa, sa⟩ ga
  have rb := right_of_good ⟨kb, nb, qb, sb⟩ gb
  have HRA : Hid (∀ W, Calls Tryz.prog 4 #[vaV ka na qa sa] W fun e w' => e = .returned (.bool true) ∧ Below W.heap.size W w') := Lib.hid fun W => (gRef ka na qa sa W hsa).mono fun e w' ⟨r, he, hr, hb⟩ => ⟨he.trans (ret_bool (hr.2 ga)), hb⟩
  have HRB : Hid (∀ W, Calls Tryz.prog 4 #[vaV kb nb qb sb] W fun e w' => e = .returned (.bool true) ∧ Below W.heap.size W w') := Lib.hid fun W => (gRef kb nb qb sb W hsb).mono fun e w' ⟨r, he, hr, hb⟩ => ⟨he.trans (ret_bool (hr.2 gb)), hb⟩
  have HVT : Hid (∀ W, Calls Tryz.prog 5 #[tyV k (P : Int) (q : Int) 0 false emp] W fun e w' => e = .returned (.bool true) ∧ Below W.heap.size W w') := Lib.hid fun W => by
    have := refValid_any k (P : Int) (q : Int) 0 false emp W (by decide)
    rwa [hv] at this
  have na3 : 1 ≤ ka ∧ ka ≤ 3 := by rcases ha with e | e | e <;> (have e' : ka = _ := e; omega)
  have nb3 : 1 ≤ kb ∧ kb ≤ 3 := by rcases hb with e | e | e <;> (have e' : kb = _ := e; omega)
  have HNA : Hid (∀ W, Calls Tryz.prog 6 #[.int .i64 ka] W fun e w' => e = .returned (.bool true) ∧ W = w') := Lib.hid fun W => numericB ka true W (by simp [na3])
  have HNB : Hid (∀ W, Calls Tryz.prog 6 #[.int .i64 kb] W fun e w' => e = .returned (.bool true) ∧ W = w') := Lib.hid fun W => numericB kb true W (by simp [nb3])
  have HAW : Hid (∀ W, Calls Tryz.prog 7 #[] W fun e w' => e = .returned (.bool true) ∧ Below W.heap.size W w') := Lib.hid awake_1
  have HDV : Hid (∀ W, Calls Tryz.prog 8 #[vaV ka na qa sa, vaV kb nb qb sb, tyV k (P : Int) (q : Int) 0 false emp] W fun e w' => ∃ N c : Int, (e = .returned (.tuple #[vaV k N (q : Int) emp, .int .i64 c, .int .i64 0]) ∧ Below W.heap.size W w') ∧ QuoP ⟨ka, na, qa, sa⟩ ⟨kb, nb, qb, sb⟩ (β ^ q) (β ^ P) N c) := Lib.hid fun W =>
    divide_w ⟨ka, na, qa, sa⟩ ⟨kb, nb, qb, sb⟩ W fun W' => by
      obtain ⟨N, c, hQ, hC⟩ := rec_div h hq ⟨ka, na, qa, sa⟩ ⟨kb, nb, qb, sb⟩ ra rb ha hb (num_ne _ hn) (fun W => (gDig ka na qa sa W).mono fun e w' ⟨r, he, hr, hb⟩ => ⟨he.trans (ret_bool (hr.2 ga)), hb⟩) (fun W => (gDig kb nb qb sb W).mono fun e w' ⟨r, he, hr, hb⟩ => ⟨he.trans (ret_bool (hr.2 gb)), hb⟩) W'
      exact hC.mono fun e w' ⟨he, hb⟩ => ⟨N, c, ⟨he, hb⟩, hQ⟩
  have hnb : (nb == 0) = false := by simpa using hn
  have hk12 : k = 1 ∨ k = 2 := by rcases h with ⟨h, _⟩ | ⟨h, _⟩ <;> omega
  have RA := ((Row.new w (vaC ka na qa sa) 23).alloc (.cells (vaC kb nb qb sb) 23)).alloc (.cells #[.int .i64 k, .int .i64 (P : Int), .int .i64 (q : Int), .int .i64 0, .bool false, .string emp] 25)
  have RB := (Row.new2 w (.cells (vaC ka na qa sa) 23) (vaC kb nb qb sb) 23).alloc (.cells #[.int .i64 k, .int .i64 (P : Int), .int .i64 (q : Int), .int .i64 0, .bool false, .string emp] 25)
  have RT := Row.new3 w (.cells (vaC ka na qa sa) 23) (.cells (vaC kb nb qb sb) 23) #[.int .i64 k, .int .i64 (P : Int), .int .i64 (q : Int), .int .i64 0, .bool false, .string emp] 25
  have hkk : Hid (k = 1 ∨ k = 2) := Lib.hid hk12
  have hd1 : ((k != 1) = true ∧ (k != 2) = false) ∨ (k != 1) = false := by rcases hk12 with rfl | rfl; exact .inr (by decide); exact .inl ⟨by decide, by decide⟩
  clear hk12 na3 nb3 hsa hsb hv
  rcases hd1 with ⟨e1, e2⟩ | e1
  all_goals
    go_enter Tryz.func3, Tryz.ntmps3
    go_wp2_with fail
    generalize hw : ((w.alloc (.cells (vaC ka na qa sa) 23)).alloc (.cells (vaC kb nb qb sb) 23)).alloc (.cells #[.int .i64 k, .int .i64 (P : Int), .int .i64 (q : Int), .int .i64 0, .bool false, .string emp] 25) = W1 at *
    have B0 : Hid (Below w.heap.size w W1) := by show Below _ _ _; rw [← hw]; go_grown
    clear hw
    obtain ⟨a0, a1, a2, a3⟩ := RA.four
    obtain ⟨b0, b1, b2, b3⟩ := RB.four
    obtain ⟨t0, t1, t2, t3, t4, t5⟩ := RT.six
    go_wp2_with (first
      | (go_at_call 4; (with_reducible refine (HRA.out _).mono ?_); rintro e w1 ⟨rfl, hb⟩; have RA := RA.keep hb; have RB := RB.keep hb; have RT := RT.keep hb; have B0 := Lib.hid (bl_then B0.out hb); clear hb; obtain ⟨a0, a1, a2, a3⟩ := RA.four; obtain ⟨b0, b1, b2, b3⟩ := RB.four; obtain ⟨t0, t1, t2, t3, t4, t5⟩ := RT.six)
      | (go_at_call 4; (with_reducible refine (HRB.out _).mono ?_); rintro e w1 ⟨rfl, hb⟩; have RA := RA.keep hb; have RB := RB.keep hb; have RT := RT.keep hb; have B0 := Lib.hid (bl_then B0.out hb); clear hb; obtain ⟨a0, a1, a2, a3⟩ := RA.four; obtain ⟨b0, b1, b2, b3⟩ := RB.four; obtain ⟨t0, t1, t2, t3, t4, t5⟩ := RT.six)
      | (go_at_call 5; (with_reducible refine (HVT.out _).mono ?_); rintro e w1 ⟨rfl, hb⟩; have RA := RA.keep hb; have RB := RB.keep hb; have RT := RT.keep hb; have B0 := Lib.hid (bl_then B0.out hb); clear hb; obtain ⟨a0, a1, a2, a3⟩ := RA.four; obtain ⟨b0, b1, b2, b3⟩ := RB.four; obtain ⟨t0, t1, t2, t3, t4, t5⟩ := RT.six)
      | (go_at_call 6; (with_reducible refine (HNA.out _).mono ?_); rintro e w1 ⟨rfl, rfl⟩)
      | (go_at_call 6; (with_reducible refine (HNB.out _).mono ?_); rintro e w1 ⟨rfl, rfl⟩)
      | (go_at_call 8; (with_reducible refine (HDV.out _).mono ?_); rintro e w2 ⟨N, c, ⟨rfl, hb⟩, hQ⟩; have HQ := Lib.hid hQ; have RA := RA.keep hb; have RB := RB.keep hb; have RT := RT.keep hb; have B2 := Lib.hid (bl_then B0.out hb); clear hb; have hc : (c = 0 ∧ (c != 0) = false) ∨ (c = 2) := (by rcases hQ with ⟨e, _⟩ | ⟨e, _⟩; exact .inl ⟨e, by rw [e]; rfl⟩; exact .inr e); clear hQ; rcases hc with ⟨rfl, hc0⟩ | rfl)
      | (go_at_call 7; (with_reducible refine (HAW.out _).mono ?_); rintro e w9 ⟨rfl, hb⟩; have B9 := Lib.hid (bl_box B2.out hb); clear hb))
    · have lT := RT.lt
      have RV := Row.new w2 (vaC k N (q : Int) emp) 23
      have RA := RA.alloc (.cells (vaC k N (q : Int) emp) 23)
      have RB := RB.alloc (.cells (vaC k N (q : Int) emp) 23)
      have RT := RT.alloc (.cells (vaC k N (q : Int) emp) 23)
      have B3 := Lib.hid (B2.out.alloc B2.out.size (.cells (vaC k N (q : Int) emp) 23))
      have hQ2 : quoN ⟨ka, na, qa, sa⟩ ⟨kb, nb, qb, sb⟩ (β ^ q) < β ^ P ∧ N.natAbs = quoN ⟨ka, na, qa, sa⟩ ⟨kb, nb, qb, sb⟩ (β ^ q) := by
        rcases HQ.out with ⟨_, h1, h2⟩ | ⟨h1, _⟩
        · exact ⟨h1, h2⟩
        · exact absurd h1 (by decide)
      obtain ⟨fr, fk, fn, fd⟩ := fixed_right h hq (N := N) (by rw [hQ2.2]; exact hQ2.1)
      obtain ⟨gr, gk, gn, gd⟩ := fixed_right h hq (N := 1) (one_lt_bound h)
      have HOV : Hid (∀ W, Calls Tryz.prog 9 #[vaV k N (q : Int) emp] W (GivesG (RArgP (decide (N < 0)) N.natAbs (β ^ q)) W)) := Lib.hid fun W => (of_va ⟨k, N, q, emp⟩ W fr fk).mono fun e w' hh => by
        have := givesR_G hh
        rw [fn, fd] at this
        exact this
      have HOU : Hid (∀ W, Calls Tryz.prog 9 #[vaV k 1 (q : Int) emp] W (GivesR W false 1 (β ^ q))) := Lib.hid fun W => by
        have := of_va ⟨k, 1, q, emp⟩ W gr gk
        rw [gn, gd] at this
        exact this
      have HOA : Hid (∀ W, Calls Tryz.prog 9 #[vaV ka na qa sa] W (GivesG (RArgP (decide (na < 0)) (Va.mk ka na qa sa).num.natAbs (Va.mk ka na qa sa).den) W)) := Lib.hid fun W => (of_va ⟨ka, na, qa, sa⟩ W ra ha).mono fun e w' hh => givesR_G hh
      have HOB : Hid (∀ W, Calls Tryz.prog 9 #[vaV kb nb qb sb] W (GivesG (RArgP (decide (nb < 0)) (Va.mk kb nb qb sb).num.natAbs (Va.mk kb nb qb sb).den) W)) := Lib.hid fun W => (of_va ⟨kb, nb, qb, sb⟩ W rb hb).mono fun e w' hh => givesR_G hh
      have lx := Va.num_digs ⟨ka, na, qa, sa⟩ ra ha
      have lxd := Va.den_digs ⟨ka, na, qa, sa⟩ ra ha
      have ly := Va.num_digs ⟨kb, nb, qb, sb⟩ rb hb
      have lyd := Va.den_digs ⟨kb, nb, qb, sb⟩ rb hb
      have px := Va.den_pos ⟨ka, na, qa, sa⟩
      have py := Va.den_pos ⟨kb, nb, qb, sb⟩
      have pyn : 0 < (Va.mk kb nb qb sb).num.natAbs := Int.natAbs_pos.2 (num_ne _ hn)
      have lS : (digs (β ^ q)).length ≤ 1100 := by rw [← fd]; exact Va.den_digs _ fr fk
      have lM : (digs N.natAbs).length ≤ 1100 := by have := Va.num_digs _ fr fk; rwa [fn] at this
      have lM2 : (digs N.natAbs).length ≤ 1099 := by
        have hNb := hQ2.1
        rw [← hQ2.2] at hNb
        have hB := h.bound.2
        exact Nat.le_trans (digs_length N.natAbs 15 (by omega)) (by decide)
      have pS : 0 < β ^ q := by rw [← fd]; exact Va.den_pos _
      have hle : N.natAbs * (Va.mk kb nb qb sb).num.natAbs * (Va.mk ka na qa sa).den ≤ (Va.mk ka na qa sa).num.natAbs * (β ^ q * (Va.mk kb nb qb sb).den) := by rw [hQ2.2]; exact quo_le _ _ _ _ _
      have hgt : ¬ ((N.natAbs * β ^ q + 1 * β ^ q) * (Va.mk kb nb qb sb).num.natAbs * (Va.mk ka na qa sa).den ≤ (Va.mk ka na qa sa).num.natAbs * (β ^ q * β ^ q * (Va.mk kb nb qb sb).den)) := by rw [hQ2.2]; exact quo_gt _ _ _ _ _ pS px pyn
      clear fr fk fn fd gr gk gn gd hQ2 HQ ra rb ga gb HRA HRB HVT HNA HNB HDV
      generalize (Va.mk ka na qa sa).num.natAbs = xn at *
      generalize (Va.mk ka na qa sa).den = xd at *
      generalize (Va.mk kb nb qb sb).num.natAbs = yn at *
      generalize (Va.mk kb nb qb sb).den = yd at *
      generalize hM : N.natAbs = M at *
      generalize hS0 : β ^ q = S at *
      clear hM hS0
      generalize w2.alloc (.cells (vaC k N (q : Int) emp) 23) = W0 at *
      have lA := RA.lt
      have lB := RB.lt
      have lV := RV.lt
      have lbv : w.heap.size + 1 + 1 < w2.heap.size := lT
      clear lT
      generalize w2.heap.size = bv at *
      obtain ⟨a0, a1, a2, a3⟩ := RA.four
      obtain ⟨b0, b1, b2, b3⟩ := RB.four
      obtain ⟨v0, v1, v2, v3⟩ := RV.four
      refine wp_region_held_drew (S := fun w' => (w'.cell? ⟨w.heap.size, 0, none⟩ = some (.int .i64 ka) ∧ w'.cell? ⟨w.heap.size, 1, none⟩ = some (.int .i64 na) ∧ w'.cell? ⟨w.heap.size, 2, none⟩ = some (.int .i64 qa) ∧ w'.cell? ⟨w.heap.size, 3, none⟩ = some (.string sa)) ∧ (w'.cell? ⟨w.heap.size + 1, 0, none⟩ = some (.int .i64 kb) ∧ w'.cell? ⟨w.heap.size + 1, 1, none⟩ = some (.int .i64 nb) ∧ w'.cell? ⟨w.heap.size + 1, 2, none⟩ = some (.int .i64 qb) ∧ w'.cell? ⟨w.heap.size + 1, 3, none⟩ = some (.string sb)) ∧ (w'.cell? ⟨bv, 0, none⟩ = some (.int .i64 k) ∧ w'.cell? ⟨bv, 1, none⟩ = some (.int .i64 N) ∧ w'.cell? ⟨bv, 2, none⟩ = some (.int .i64 q) ∧ w'.cell? ⟨bv, 3, none⟩ = some (.string emp))) (by kernel_rfl) ?_ (fun hHeld => ?_)
      · exact ⟨⟨a0, a1, a2, a3⟩, ⟨b0, b1, b2, b3⟩, ⟨v0, v1, v2, v3⟩⟩
      first
        | (refine wpAnyH_take (i := 0) (v := undef) rfl (by kernel_rfl) (by kernel_rfl) (by kernel_rfl) (fun _ _ _ h => h) (Or.inr ⟨by rfl, rfl⟩) (by assumption) ?_)
        | (refine wpAnyH_take (i := 0) (v := ?_) rfl (by kernel_rfl) (by kernel_rfl) (by kernel_rfl) (fun _ _ _ h => h) (Or.inl ⟨by rfl, ?_⟩) (by assumption) ?_; rotate_left; (· intro w hSw; (try dsimp only at hSw); go_simp; (try with_reducible rfl)))
        | fail "TK 0"
      try simp only [Act.put, List.setIfInBounds_toArray, List.set_cons_zero, List.set_cons_succ, List.getElem_toArray, List.getElem_cons_zero]
      first
        | (refine wpAnyH_take (i := 2) (v := undef) rfl (by kernel_rfl) (by kernel_rfl) (by kernel_rfl) (fun _ _ _ h => h) (Or.inr ⟨by rfl, rfl⟩) (by assumption) ?_)
        | (refine wpAnyH_take (i := 2) (v := ?_) rfl (by kernel_rfl) (by kernel_rfl) (by kernel_rfl) (fun _ _ _ h => h) (Or.inl ⟨by rfl, ?_⟩) (by assumption) ?_; rotate_left; (· intro w hSw; (try dsimp only at hSw); go_simp; (try with_reducible rfl)))
        | fail "TK 2"
      try simp only [Act.put, List.setIfInBounds_toArray, List.set_cons_zero, List.set_cons_succ, List.getElem_toArray, List.getElem_cons_succ, List.getElem_cons_zero]
      first
        | (refine wpAnyH_take (i := 4) (v := undef) rfl (by kernel_rfl) (by kernel_rfl) (by kernel_rfl) (fun _ _ _ h => h) (Or.inr ⟨by rfl, rfl⟩) (by assumption) ?_)
        | (refine wpAnyH_take (i := 4) (v := ?_) rfl (by kernel_rfl) (by kernel_rfl) (by kernel_rfl) (fun _ _ _ h => h) (Or.inl ⟨by rfl, ?_⟩) (by assumption) ?_; rotate_left; (· intro w hSw; (try dsimp only at hSw); go_simp; (try with_reducible rfl)))
        | fail "TK 4"
      try simp only [Act.put, List.setIfInBounds_toArray, List.set_cons_zero, List.set_cons_succ, List.getElem_toArray, List.getElem_cons_succ, List.getElem_cons_zero]
      have hK1 : ∀ w1 w2 : World, ((w1.cell? ⟨w.heap.size, 0, none⟩ = some (.int .i64 ka) ∧ w1.cell? ⟨w.heap.size, 1, none⟩ = some (.int .i64 na) ∧ w1.cell? ⟨w.heap.size, 2, none⟩ = some (.int .i64 qa) ∧ w1.cell? ⟨w.heap.size, 3, none⟩ = some (.string sa)) ∧ (w1.cell? ⟨w.heap.size + 1, 0, none⟩ = some (.int .i64 kb) ∧ w1.cell? ⟨w.heap.size + 1, 1, none⟩ = some (.int .i64 nb) ∧ w1.cell? ⟨w.heap.size + 1, 2, none⟩ = some (.int .i64 qb) ∧ w1.cell? ⟨w.heap.size + 1, 3, none⟩ = some (.string sb)) ∧ (w1.cell? ⟨bv, 0, none⟩ = some (.int .i64 k) ∧ w1.cell? ⟨bv, 1, none⟩ = some (.int .i64 N) ∧ w1.cell? ⟨bv, 2, none⟩ = some (.int .i64 q) ∧ w1.cell? ⟨bv, 3, none⟩ = some (.string emp))) → Below w1.heap.size w1 w2 → ((w2.cell? ⟨w.heap.size, 0, none⟩ = some (.int .i64 ka) ∧ w2.cell? ⟨w.heap.size, 1, none⟩ = some (.int .i64 na) ∧ w2.cell? ⟨w.heap.size, 2, none⟩ = some (.int .i64 qa) ∧ w2.cell? ⟨w.heap.size, 3, none⟩ = some (.string sa)) ∧ (w2.cell? ⟨w.heap.size + 1, 0, none⟩ = some (.int .i64 kb) ∧ w2.cell? ⟨w.heap.size + 1, 1, none⟩ = some (.int .i64 nb) ∧ w2.cell? ⟨w.heap.size + 1, 2, none⟩ = some (.int .i64 qb) ∧ w2.cell? ⟨w.heap.size + 1, 3, none⟩ = some (.string sb)) ∧ (w2.cell? ⟨bv, 0, none⟩ = some (.int .i64 k) ∧ w2.cell? ⟨bv, 1, none⟩ = some (.int .i64 N) ∧ w2.cell? ⟨bv, 2, none⟩ = some (.int .i64 q) ∧ w2.cell? ⟨bv, 3, none⟩ = some (.string emp))) := by
        rintro w1 w2 ⟨⟨s0, s1, s2, s3⟩, ⟨s4, s5, s6, s7⟩, ⟨s8, s9, s10, s11⟩⟩ hb
        exact ⟨⟨cell_keep s0 hb, cell_keep s1 hb, cell_keep s2 hb, cell_keep s3 hb⟩, ⟨cell_keep s4 hb, cell_keep s5 hb, cell_keep s6 hb, cell_keep s7 hb⟩, ⟨cell_keep s8 hb, cell_keep s9 hb, cell_keep s10 hb, cell_keep s11 hb⟩⟩
      have hB0 : Below W0.heap.size W0 W0.drew := (Below.refl _ W0).drew
      refine any3 (W0 := W0) (cs := #[.bool false, .slice none 0 0, .slice none 0 0]) (t := 35) 73 75 77 10 11 12 1 3 5 6 7 8 (fun c b1 b2 b3 => #[true, decide (1 ≤ c), true, decide (2 ≤ c), true, decide (3 ≤ c), b1, b2, b3, false, false, false]) (RArgP (decide (N < 0)) M S) (RArgP (decide (na < 0)) xn xd) (RArgP (decide (nb < 0)) yn yd) (by decide) (by decide) (by decide) (by decide) (by decide) (by decide) (by decide) (by decide) (by decide) (by decide) (by decide) (by decide) (by decide) (by decide) (by decide) (RArgP.stays _ _ _) (RArgP.stays _ _ _) (RArgP.stays _ _ _) rfl rfl (by kernel_rfl) hB0 hHeld hK1 ?_
        rfl (fun _ => rfl) rfl (fun _ _ _ _ _ _ _ => by kernel_rfl) (fun W _ => HOV.out W) (fun _ _ _ => rfl)
        rfl (fun _ => rfl) rfl (fun _ _ _ _ _ _ _ => by kernel_rfl) (fun W _ => HOA.out W) (fun _ _ _ => rfl)
        rfl (fun _ => rfl) rfl (fun _ _ _ _ _ _ _ => by kernel_rfl) (fun W _ => HOB.out W) (fun _ _ _ => rfl)
        rfl (fun _ => rfl) rfl (fun _ _ => by kernel_rfl) (fun _ _ _ => rfl)
        rfl (fun _ => rfl) rfl (fun _ _ => by kernel_rfl) (fun _ _ _ => rfl)
        rfl (fun _ => rfl) rfl (fun _ _ => by kernel_rfl) (fun _ _ _ => rfl) ?_ ?_
      · intro c b1 b2 b3 hn hc
        obtain rfl | rfl | rfl | rfl : c = 0 ∨ c = 1 ∨ c = 2 ∨ c = 3 := by omega
        all_goals (cases b1 <;> cases b2 <;> cases b3)
        all_goals first
          | (exfalso; simp at hn; done)
          | kernel_rfl
      · intro c b1 b2 b3 hc hl
        obtain rfl | rfl | rfl | rfl : c = 0 ∨ c = 1 ∨ c = 2 ∨ c = 3 := by omega
        all_goals (cases b1 <;> cases b2 <;> cases b3 <;> simp at hl ⊢)
      intro r1 r2 r3 n1 n2 n3 wz hS hBz m1 m2 m3 d12 d13 d23 X1 X2 X3 g1 g2 g3
      obtain ⟨y1, z1, rfl, D1n, D1d⟩ := g1
      obtain ⟨y2, z2, rfl, D2n, D2d⟩ := g2
      obtain ⟨y3, z3, rfl, D3n, D3d⟩ := g3
      obtain ⟨p1, k1, rfl⟩ := D1n.sliceP
      obtain ⟨p4, k4, rfl⟩ := D1d.sliceP
      obtain ⟨p2, k2, rfl⟩ := D2n.sliceP
      obtain ⟨p5, k5, rfl⟩ := D2d.sliceP
      obtain ⟨p3, k3, rfl⟩ := D3n.sliceP
      obtain ⟨p6, k6, rfl⟩ := D3d.sliceP
      have RA := RA.keep hBz
      have RB := RB.keep hBz
      have RV := RV.keep hBz
      have RT := RT.keep hBz
      have lT := RT.lt
      have lz := hBz.size
      have lW0 : bv < W0.heap.size := lV
      have s21 : ¬ n2 = n1 := fun e => d12 e.symm
      have s31 : ¬ n3 = n1 := fun e => d13 e.symm
      have s32 : ¬ n3 = n2 := fun e => d23 e.symm
      have pa1 : ¬ n1 = w.heap.size := by omega
      have pa2 : ¬ n2 = w.heap.size := by omega
      have pa3 : ¬ n3 = w.heap.size := by omega
      have pb1 : ¬ n1 = w.heap.size + 1 := by omega
      have pb2 : ¬ n2 = w.heap.size + 1 := by omega
      have pb3 : ¬ n3 = w.heap.size + 1 := by omega
      have pt1 : ¬ n1 = w.heap.size + 1 + 1 := by omega
      have pt2 : ¬ n2 = w.heap.size + 1 + 1 := by omega
      have pt3 : ¬ n3 = w.heap.size + 1 + 1 := by omega
      have pv1 : ¬ n1 = bv := by omega
      have pv2 : ¬ n2 = bv := by omega
      have pv3 : ¬ n3 = bv := by omega
      have A1 := RA.set3 pa1 (.bool (decide (N < 0))) (.slice p1 (digs M).length k1) (.slice p4 (digs S).length k4)
      have A2 := A1.set3 pa2 (.bool (decide (na < 0))) (.slice p2 (digs xn).length k2) (.slice p5 (digs xd).length k5)
      have A3 := A2.set3 pa3 (.bool (decide (nb < 0))) (.slice p3 (digs yn).length k3) (.slice p6 (digs yd).length k6)
      have C1 := RB.set3 pb1 (.bool (decide (N < 0))) (.slice p1 (digs M).length k1) (.slice p4 (digs S).length k4)
      have C2 := C1.set3 pb2 (.bool (decide (na < 0))) (.slice p2 (digs xn).length k2) (.slice p5 (digs xd).length k5)
      have C3 := C2.set3 pb3 (.bool (decide (nb < 0))) (.slice p3 (digs yn).length k3) (.slice p6 (digs yd).length k6)
      have V1 := RV.set3 pv1 (.bool (decide (N < 0))) (.slice p1 (digs M).length k1) (.slice p4 (digs S).length k4)
      have V2 := V1.set3 pv2 (.bool (decide (na < 0))) (.slice p2 (digs xn).length k2) (.slice p5 (digs xd).length k5)
      have V3 := V2.set3 pv3 (.bool (decide (nb < 0))) (.slice p3 (digs yn).length k3) (.slice p6 (digs yd).length k6)
      have T3 := ((RT.set3 pt1 (.bool (decide (N < 0))) (.slice p1 (digs M).length k1) (.slice p4 (digs S).length k4)).set3 pt2 (.bool (decide (na < 0))) (.slice p2 (digs xn).length k2) (.slice p5 (digs xd).length k5)).set3 pt3 (.bool (decide (nb < 0))) (.slice p3 (digs yn).length k3) (.slice p6 (digs yd).length k6)
      have Y11 := X1.pute (.bool (decide (N < 0))) (.slice p1 (digs M).length k1) (.slice p4 (digs S).length k4)
      have Y21 := X2.set3 d12 (.bool (decide (N < 0))) (.slice p1 (digs M).length k1) (.slice p4 (digs S).length k4)
      have Y31 := X3.set3 d13 (.bool (decide (N < 0))) (.slice p1 (digs M).length k1) (.slice p4 (digs S).length k4)
      have Y12 := Y11.set3 s21 (.bool (decide (na < 0))) (.slice p2 (digs xn).length k2) (.slice p5 (digs xd).length k5)
      have Y22 := Y21.pute (.bool (decide (na < 0))) (.slice p2 (digs xn).length k2) (.slice p5 (digs xd).length k5)
      have Y32 := Y31.set3 d23 (.bool (decide (na < 0))) (.slice p2 (digs xn).length k2) (.slice p5 (digs xd).length k5)
      have Y13 := Y12.set3 s31 (.bool (decide (nb < 0))) (.slice p3 (digs yn).length k3) (.slice p6 (digs yd).length k6)
      have Y23 := Y22.set3 s32 (.bool (decide (nb < 0))) (.slice p3 (digs yn).length k3) (.slice p6 (digs yd).length k6)
      have Y33 := Y32.pute (.bool (decide (nb < 0))) (.slice p3 (digs yn).length k3) (.slice p6 (digs yd).length k6)
      have SC : Same (Free W0.heap.size [some n1, some n2, some n3]) wz (((((((((wz.setCell ⟨n1, 0, none⟩ (.bool (decide (N < 0)))).setCell ⟨n1, 1, none⟩ (.slice p1 (digs M).length k1)).setCell ⟨n1, 2, none⟩ (.slice p4 (digs S).length k4)).setCell ⟨n2, 0, none⟩ (.bool (decide (na < 0)))).setCell ⟨n2, 1, none⟩ (.slice p2 (digs xn).length k2)).setCell ⟨n2, 2, none⟩ (.slice p5 (digs xd).length k5)).setCell ⟨n3, 0, none⟩ (.bool (decide (nb < 0)))).setCell ⟨n3, 1, none⟩ (.slice p3 (digs yn).length k3)).setCell ⟨n3, 2, none⟩ (.slice p6 (digs yd).length k6)) :=
        ((((((((((Same.refl _ wz).set (a := ⟨n1, 0, none⟩) (not_free (by simp)) _).set (a := ⟨n1, 1, none⟩) (not_free (by simp)) _).set (a := ⟨n1, 2, none⟩) (not_free (by simp)) _).set (a := ⟨n2, 0, none⟩) (not_free (by simp)) _).set (a := ⟨n2, 1, none⟩) (not_free (by simp)) _).set (a := ⟨n2, 2, none⟩) (not_free (by simp)) _).set (a := ⟨n3, 0, none⟩) (not_free (by simp)) _).set (a := ⟨n3, 1, none⟩) (not_free (by simp)) _).set (a := ⟨n3, 2, none⟩) (not_free (by simp)) _)
      have BC : Below W0.heap.size W0 (((((((((wz.setCell ⟨n1, 0, none⟩ (.bool (decide (N < 0)))).setCell ⟨n1, 1, none⟩ (.slice p1 (digs M).length k1)).setCell ⟨n1, 2, none⟩ (.slice p4 (digs S).length k4)).setCell ⟨n2, 0, none⟩ (.bool (decide (na < 0)))).setCell ⟨n2, 1, none⟩ (.slice p2 (digs xn).length k2)).setCell ⟨n2, 2, none⟩ (.slice p5 (digs xd).length k5)).setCell ⟨n3, 0, none⟩ (.bool (decide (nb < 0)))).setCell ⟨n3, 1, none⟩ (.slice p3 (digs yn).length k3)).setCell ⟨n3, 2, none⟩ (.slice p6 (digs yd).length k6)) :=
        (((((((((hBz.setCell (p := ⟨n1, 0, none⟩) m1 _).setCell (p := ⟨n1, 1, none⟩) m1 _).setCell (p := ⟨n1, 2, none⟩) m1 _).setCell (p := ⟨n2, 0, none⟩) m2 _).setCell (p := ⟨n2, 1, none⟩) m2 _).setCell (p := ⟨n2, 2, none⟩) m2 _).setCell (p := ⟨n3, 0, none⟩) m3 _).setCell (p := ⟨n3, 1, none⟩) m3 _).setCell (p := ⟨n3, 2, none⟩) m3 _)
      obtain ⟨h10, h11, h12⟩ := X1.three3
      have f10 := X1.free 0
      have f11 := X1.free 1
      have f12 := X1.free 2
      obtain ⟨h20, h21, h22⟩ := Y21.three3
      have f20 := Y21.free 0
      have f21 := Y21.free 1
      have f22 := Y21.free 2
      obtain ⟨h30, h31, h32⟩ := Y32.three3
      have f30 := Y32.free 0
      have f31 := Y32.free 1
      have f32 := Y32.free 2
      show wpAnyH _ _ _ _ _ 3 _ _ _
      simp only [act3, List.setIfInBounds_toArray, List.set_cons_zero, List.set_cons_succ]
      refine wpAnyH_ready (rs := [9]) (by kernel_rfl) (by simp) ?_
      refine AllReadyH.cons rfl (fun K hK => ?_) AllReadyH.nil
      try simp only [List.getElem_toArray, List.getElem_cons_succ, List.getElem_cons_zero]
      go_simp
      refine hK.out _ _ ⟨A1.four, C1.four, V1.four⟩ (fun hHeld2 => ?_)
      clear hK K hHeld2
      refine wpAnyH_ready (rs := [10]) (by kernel_rfl) (by simp) ?_
      refine AllReadyH.cons rfl (fun K hK => ?_) AllReadyH.nil
      try simp only [List.getElem_toArray, List.getElem_cons_succ, List.getElem_cons_zero]
      clear h10 h11 h12 f10 f11 f12
      go_simp
      refine hK.out _ _ ⟨A2.four, C2.four, V2.four⟩ (fun hHeld2 => ?_)
      clear hK K hHeld2
      refine wpAnyH_ready (rs := [11]) (by kernel_rfl) (by simp) ?_
      refine AllReadyH.cons rfl (fun K hK => ?_) AllReadyH.nil
      try simp only [List.getElem_toArray, List.getElem_cons_succ, List.getElem_cons_zero]
      clear h20 h21 h22 f20 f21 f22
      go_simp
      refine hK.out _ _ ⟨A3.four, C3.four, V3.four⟩ (fun hHeld2 => ?_)
      clear hK K hHeld2
      clear h30 h31 h32 f30 f31 f32 A1 A2 A3 C1 C2 C3 V1 V2 V3 Y11 Y21 Y31 Y12 Y22 Y32 RA RB RV RT X1 X2 X3
      refine wpAnyH_done (by kernel_rfl) ?_ _
      have Q1n := D1n.same SC
      have Q1d := D1d.same SC
      have Q2n := D2n.same SC
      have Q2d := D2d.same SC
      have Q3n := D3n.same SC
      have Q3d := D3d.same SC
      have BCC := Lib.hid (bl_then B3.out BC)
      have lC := SC.1
      clear D1n D1d D2n D2d D3n D3d SC BC hS
      generalize (((((((((wz.setCell ⟨n1, 0, none⟩ (.bool (decide (N < 0)))).setCell ⟨n1, 1, none⟩ (.slice p1 (digs M).length k1)).setCell ⟨n1, 2, none⟩ (.slice p4 (digs S).length k4)).setCell ⟨n2, 0, none⟩ (.bool (decide (na < 0)))).setCell ⟨n2, 1, none⟩ (.slice p2 (digs xn).length k2)).setCell ⟨n2, 2, none⟩ (.slice p5 (digs xd).length k5)).setCell ⟨n3, 0, none⟩ (.bool (decide (nb < 0)))).setCell ⟨n3, 1, none⟩ (.slice p3 (digs yn).length k3)).setCell ⟨n3, 2, none⟩ (.slice p6 (digs yd).length k6)) = WC at *
      have hT1 : Hid (∀ (va vb : Value) (W : World) (B C : Nat), RArg B W va false M S → RArg C W vb false yn yd → Calls Tryz.prog 11 #[va, vb] W (GivesR W false (M * yn) (S * yd))) := Lib.hid fun va vb W B C hx hy => by
        have := times_d hx hy (by omega) (by omega) (by omega) (by omega)
        rwa [timesN_ff] at this
      have lMy := digs_mul_len M yn 1100 1100 lM ly
      have lSy := digs_mul_len S yd 1100 1100 lS lyd
      have hO1 : Hid (∀ (va vb : Value) (W : World) (B C : Nat), RArg B W va false (M * yn) (S * yd) → RArg C W vb false xn xd → Calls Tryz.prog 10 #[va, vb] W fun e w' => ∃ o : Int, e = .returned (.int .i64 o) ∧ decide (o ≤ 0) = true ∧ Below W.heap.size W w') := Lib.hid fun va vb W B C hx hy =>
        (order_n hx hy (by omega) (by omega) (by omega) (by omega) (Nat.mul_pos pS py) px).mono fun e w' ⟨o, he, ho, hb⟩ => ⟨o, he, decide_eq_true (ho.2 hle), hb⟩
      have hBo : Hid (∀ (va vb : Value) (W : World) (B C : Nat), RArg B W va false M S → RArg C W vb false 1 S → Calls Tryz.prog 12 #[va, vb] W (GivesR W false (M * S + 1 * S) (S * S))) := Lib.hid fun va vb W B C hx hy =>
        both_ff hx hy (by omega) (by omega) (by rw [digs_one]; decide) (by omega)
      have lB : (digs (M * S + 1 * S)).length ≤ 2200 := by
        rw [← Nat.add_mul]
        exact digs_mul_len (M + 1) S 1100 1100 (succ_digs M 1099 lM2) lS
      have lSS := digs_mul_len S S 1100 1100 lS lS
      have hT2 : Hid (∀ (va vb : Value) (W : World) (B C : Nat), RArg B W va false (M * S + 1 * S) (S * S) → RArg C W vb false yn yd → Calls Tryz.prog 11 #[va, vb] W (GivesR W false ((M * S + 1 * S) * yn) (S * S * yd))) := Lib.hid fun va vb W B C hx hy => by
        have := times_d hx hy (by omega) (by omega) (by omega) (by omega)
        rwa [timesN_ff] at this
      have lBy := digs_mul_len (M * S + 1 * S) yn 2200 1100 lB ly
      have lSSy := digs_mul_len (S * S) yd 2200 1100 lSS lyd
      have hO2 : Hid (∀ (va vb : Value) (W : World) (B C : Nat), RArg B W va false ((M * S + 1 * S) * yn) (S * S * yd) → RArg C W vb false xn xd → Calls Tryz.prog 10 #[va, vb] W fun e w' => ∃ o : Int, e = .returned (.int .i64 o) ∧ decide (0 < o) = true ∧ Below W.heap.size W w') := Lib.hid fun va vb W B C hx hy =>
        (order_n hx hy (by omega) (by omega) (by omega) (by omega) (Nat.mul_pos (Nat.mul_pos pS pS) py) px).mono fun e w' ⟨o, he, ho, hb⟩ => ⟨o, he, decide_eq_true (by have h := mt ho.1 hgt; omega), hb⟩
      clear lMy lSy lB lSS lBy lSSy hle hgt lx lxd ly lyd lS lM lM2 px py pyn pS
      obtain ⟨j10, j11, j12⟩ := Y13.three3
      obtain ⟨j20, j21, j22⟩ := Y23.three3
      obtain ⟨j30, j31, j32⟩ := Y33.three3
      have f10 := Y13.free 0
      have f20 := Y23.free 0
      have f30 := Y33.free 0
      obtain ⟨t0, t1, t2, t3, t4, t5⟩ := T3.six
      have E1 : Row (((WC.setCell ⟨n1, 0, none⟩ (.bool false)).setCell ⟨n2, 0, none⟩ (.bool false)).setCell ⟨n3, 0, none⟩ (.bool false)) n1 #[.bool false, (.slice p1 (digs M).length k1), (.slice p4 (digs S).length k4)] 35 := ((Y13.put0 (.bool false)).set (a := ⟨n2, 0, none⟩) s21).set (a := ⟨n3, 0, none⟩) s31
      have E2 : Row (((WC.setCell ⟨n1, 0, none⟩ (.bool false)).setCell ⟨n2, 0, none⟩ (.bool false)).setCell ⟨n3, 0, none⟩ (.bool false)) n2 #[.bool false, (.slice p2 (digs xn).length k2), (.slice p5 (digs xd).length k5)] 35 := ((Y23.set (a := ⟨n1, 0, none⟩) d12).put0 (.bool false)).set (a := ⟨n3, 0, none⟩) s32
      have E3 : Row (((WC.setCell ⟨n1, 0, none⟩ (.bool false)).setCell ⟨n2, 0, none⟩ (.bool false)).setCell ⟨n3, 0, none⟩ (.bool false)) n3 #[.bool false, (.slice p3 (digs yn).length k3), (.slice p6 (digs yd).length k6)] 35 := ((Y33.set (a := ⟨n1, 0, none⟩) d13).set (a := ⟨n2, 0, none⟩) d23).put0 (.bool false)
      have SD : Same (Free W0.heap.size [some n1, some n2, some n3]) WC (((WC.setCell ⟨n1, 0, none⟩ (.bool false)).setCell ⟨n2, 0, none⟩ (.bool false)).setCell ⟨n3, 0, none⟩ (.bool false)) :=
        (((Same.refl _ WC).set (a := ⟨n1, 0, none⟩) (not_free (by simp)) _).set (a := ⟨n2, 0, none⟩) (not_free (by simp)) _).set (a := ⟨n3, 0, none⟩) (not_free (by simp)) _
      have BD : Hid (Below w.heap.size w (((WC.setCell ⟨n1, 0, none⟩ (.bool false)).setCell ⟨n2, 0, none⟩ (.bool false)).setCell ⟨n3, 0, none⟩ (.bool false))) :=
        Lib.hid (((BCC.out.setCell (p := ⟨n1, 0, none⟩) (by simp; omega) _).setCell (p := ⟨n2, 0, none⟩) (by simp; omega) _).setCell (p := ⟨n3, 0, none⟩) (by simp; omega) _)
      have K1n := Lib.hid ((Q1n.same SD).arg (B := 0) (fun _ _ => Nat.zero_le _))
      have K1d := Lib.hid ((Q1d.same SD).arg (B := 0) (fun _ _ => Nat.zero_le _))
      have K2n := Lib.hid ((Q2n.same SD).arg (B := 0) (fun _ _ => Nat.zero_le _))
      have K2d := Lib.hid ((Q2d.same SD).arg (B := 0) (fun _ _ => Nat.zero_le _))
      have K3n := Lib.hid ((Q3n.same SD).arg (B := 0) (fun _ _ => Nat.zero_le _))
      have K3d := Lib.hid ((Q3d.same SD).arg (B := 0) (fun _ _ => Nat.zero_le _))
      clear Q1n Q1d Q2n Q2d Q3n Q3d SD BCC
      have hlk : ∀ b, b = n1 ∨ b = n2 ∨ b = n3 → b < (((WC.setCell ⟨n1, 0, none⟩ (.bool false)).setCell ⟨n2, 0, none⟩ (.bool false)).setCell ⟨n3, 0, none⟩ (.bool false)).heap.size := by
        rintro b (rfl | rfl | rfl)
        · exact E1.lt
        · exact E2.lt
        · exact E3.lt
      go_wp2_with (go_at_call 9; refine (HOU.out _).mono ?_; rintro e w5 ⟨ru, rfl, ⟨yu, zu, rfl, DU, DV⟩, hb5⟩; obtain ⟨p7, k7, rfl⟩ := DU.slice; obtain ⟨p8, k8, rfl⟩ := DV.slice)
      have hal : Below w5.heap.size w5 (w5.alloc (.cells #[.bool false, (.slice p7 (digs 1).length k7), (.slice p8 (digs S).length k8)] 35)) := (Below.refl _ w5).alloc (Nat.le_refl _) _
      have F1 := (E1.keep hb5).alloc (.cells #[.bool false, (.slice p7 (digs 1).length k7), (.slice p8 (digs S).length k8)] 35)
      have F2 := (E2.keep hb5).alloc (.cells #[.bool false, (.slice p7 (digs 1).length k7), (.slice p8 (digs S).length k8)] 35)
      have F3 := (E3.keep hb5).alloc (.cells #[.bool false, (.slice p7 (digs 1).length k7), (.slice p8 (digs S).length k8)] 35)
      have F4 := Row.new w5 #[.bool false, (.slice p7 (digs 1).length k7), (.slice p8 (digs S).length k8)] 35
      have BE := Lib.hid (bl_then (bl_then BD.out hb5) hal)
      have M1n := (K1n.out.keep hb5 (Nat.le_refl _)).keep hal (Nat.le_refl _)
      have M1d := (K1d.out.keep hb5 (Nat.le_refl _)).keep hal (Nat.le_refl _)
      have M2n := (K2n.out.keep hb5 (Nat.le_refl _)).keep hal (Nat.le_refl _)
      have M2d := (K2d.out.keep hb5 (Nat.le_refl _)).keep hal (Nat.le_refl _)
      have M3n := (K3n.out.keep hb5 (Nat.le_refl _)).keep hal (Nat.le_refl _)
      have M3d := (K3d.out.keep hb5 (Nat.le_refl _)).keep hal (Nat.le_refl _)
      have M4n := (DU.keep hal (Nat.le_refl _)).base (B' := 0) (Nat.zero_le _)
      have M4d := (DV.keep hal (Nat.le_refl _)).base (B' := 0) (Nat.zero_le _)
      clear hal E1 E2 E3 K1n K1d K2n K2d K3n K3d DU DV BD Y13 Y23 Y33 T3 f10 f20 f30 t0 t1 t2 t3 t4 t5 j10 j11 j12 j20 j21 j22 j30 j31 j32 hlk hb5 lC
      generalize w5.alloc (.cells #[.bool false, (.slice p7 (digs 1).length k7), (.slice p8 (digs S).length k8)] 35) = WE at *
      generalize w5.heap.size = n4 at *
      have KQ : Hid (∀ W, Below WE.heap.size WE W → RArg 0 W (reV false (.slice p1 (digs M).length k1) (.slice p4 (digs S).length k4)) false M S) := Lib.hid fun W h => ⟨_, _, rfl, M1n.keep h (Nat.le_refl _), M1d.keep h (Nat.le_refl _)⟩
      have KX : Hid (∀ W, Below WE.heap.size WE W → RArg 0 W (reV false (.slice p2 (digs xn).length k2) (.slice p5 (digs xd).length k5)) false xn xd) := Lib.hid fun W h => ⟨_, _, rfl, M2n.keep h (Nat.le_refl _), M2d.keep h (Nat.le_refl _)⟩
      have KY : Hid (∀ W, Below WE.heap.size WE W → RArg 0 W (reV false (.slice p3 (digs yn).length k3) (.slice p6 (digs yd).length k6)) false yn yd) := Lib.hid fun W h => ⟨_, _, rfl, M3n.keep h (Nat.le_refl _), M3d.keep h (Nat.le_refl _)⟩
      have KU : Hid (∀ W, Below WE.heap.size WE W → RArg 0 W (reV false (.slice p7 (digs 1).length k7) (.slice p8 (digs S).length k8)) false 1 S) := Lib.hid fun W h => ⟨_, _, rfl, M4n.keep h (Nat.le_refl _), M4d.keep h (Nat.le_refl _)⟩
      have l1 := F1.lt
      have l2 := F2.lt
      have l3 := F3.lt
      have l4 := F4.lt
      obtain ⟨c10, c11, c12⟩ := F1.three3
      obtain ⟨c20, c21, c22⟩ := F2.three3
      obtain ⟨c30, c31, c32⟩ := F3.three3
      obtain ⟨c40, c41, c42⟩ := F4.three3
      have bz := (Below.refl WE.heap.size WE).drew
      clear M1n M1d M2n M2d M3n M3d M4n M4d F1 F2 F3 F4
      refine wp_region_held_drew (S := fun w' => (w'.cell? ⟨n1, 0, none⟩ = some (.bool false) ∧ w'.cell? ⟨n1, 1, none⟩ = some (.slice p1 (digs M).length k1) ∧ w'.cell? ⟨n1, 2, none⟩ = some (.slice p4 (digs S).length k4)) ∧ (w'.cell? ⟨n2, 0, none⟩ = some (.bool false) ∧ w'.cell? ⟨n2, 1, none⟩ = some (.slice p2 (digs xn).length k2) ∧ w'.cell? ⟨n2, 2, none⟩ = some (.slice p5 (digs xd).length k5)) ∧ (w'.cell? ⟨n3, 0, none⟩ = some (.bool false) ∧ w'.cell? ⟨n3, 1, none⟩ = some (.slice p3 (digs yn).length k3) ∧ w'.cell? ⟨n3, 2, none⟩ = some (.slice p6 (digs yd).length k6)) ∧ (w'.cell? ⟨n4, 0, none⟩ = some (.bool false) ∧ w'.cell? ⟨n4, 1, none⟩ = some (.slice p7 (digs 1).length k7) ∧ w'.cell? ⟨n4, 2, none⟩ = some (.slice p8 (digs S).length k8))) (by kernel_rfl) ?_ (fun hHeld => ?_)
      · (first | go_keep | (refine ⟨⟨?_, ?_, ?_⟩, ⟨?_, ?_, ?_⟩, ⟨?_, ?_, ?_⟩, ⟨?_, ?_, ?_⟩⟩ <;> first | assumption))
      first
        | (refine wpAnyH_take (i := 0) (v := undef) rfl (by kernel_rfl) (by kernel_rfl) (by kernel_rfl) (fun _ _ _ h => h) (Or.inr ⟨by rfl, rfl⟩) (by assumption) ?_)
        | (refine wpAnyH_take (i := 0) (v := ?_) rfl (by kernel_rfl) (by kernel_rfl) (by kernel_rfl) (fun _ _ _ h => h) (Or.inl ⟨by rfl, ?_⟩) (by assumption) ?_; rotate_left; (· intro w hSw; (try dsimp only at hSw); go_simp; (try with_reducible rfl)))
        | fail "TK 0"
      try simp only [Act.put, List.setIfInBounds_toArray, List.set_cons_zero, List.set_cons_succ, List.getElem_toArray, List.getElem_cons_zero]
      first
        | (refine wpAnyH_take (i := 1) (v := undef) rfl (by kernel_rfl) (by kernel_rfl) (by kernel_rfl) (fun _ _ _ h => h) (Or.inr ⟨by rfl, rfl⟩) (by assumption) ?_)
        | (refine wpAnyH_take (i := 1) (v := ?_) rfl (by kernel_rfl) (by kernel_rfl) (by kernel_rfl) (fun _ _ _ h => h) (Or.inl ⟨by rfl, ?_⟩) (by assumption) ?_; rotate_left; (· intro w hSw; (try dsimp only at hSw); go_simp; (try with_reducible rfl)))
        | fail "TK 1"
      try simp only [Act.put, List.setIfInBounds_toArray, List.set_cons_zero, List.set_cons_succ, List.getElem_toArray, List.getElem_cons_succ, List.getElem_cons_zero]
      first
        | (refine wpAnyH_take (i := 3) (v := undef) rfl (by kernel_rfl) (by kernel_rfl) (by kernel_rfl) (fun _ _ _ h => h) (Or.inr ⟨by rfl, rfl⟩) (by assumption) ?_)
        | (refine wpAnyH_take (i := 3) (v := ?_) rfl (by kernel_rfl) (by kernel_rfl) (by kernel_rfl) (fun _ _ _ h => h) (Or.inl ⟨by rfl, ?_⟩) (by assumption) ?_; rotate_left; (· intro w hSw; (try dsimp only at hSw); go_simp; (try with_reducible rfl)))
        | fail "TK 3"
      try simp only [Act.put, List.setIfInBounds_toArray, List.set_cons_zero, List.set_cons_succ, List.getElem_toArray, List.getElem_cons_succ, List.getElem_cons_zero]
      refine wpAnyH_ready (rs := [2]) (by kernel_rfl) (by simp) ?_
      refine AllReadyH.cons rfl (fun K hK => ?_) AllReadyH.nil
      try simp only [List.getElem_toArray, List.getElem_cons_succ, List.getElem_cons_zero]
      first
        | (go_at_call 11; (with_reducible refine (hT1.out _ _ _ _ _ (KQ.out _ bz) (KY.out _ bz)).mono ?_); rintro e w11 ⟨g1, rfl, hg1, hb⟩; have b11 := bz.trans (hb.mono bz.size); clear hb)
        | (go_simp; (go_at_call 11; (with_reducible refine (hT1.out _ _ _ _ _ (KQ.out _ bz) (KY.out _ bz)).mono ?_); rintro e w11 ⟨g1, rfl, hg1, hb⟩; have b11 := bz.trans (hb.mono bz.size); clear hb))
        | fail "CALL 2"
      try go_wp2_with fail
      refine hK.out _ _ ?_ (fun hHeld2 => ?_)
      · (first | go_keep | (refine ⟨⟨?_, ?_, ?_⟩, ⟨?_, ?_, ?_⟩, ⟨?_, ?_, ?_⟩, ⟨?_, ?_, ?_⟩⟩ <;> first | assumption | (rw [b11.cell (by simp <;> omega)]; assumption) | (rw [bz.cell (by simp <;> omega)]; assumption)))
      clear hK K hHeld
      have hHeld := hHeld2
      clear hHeld2
      try simp only [Act.put, List.setIfInBounds_toArray, List.set_cons_zero, List.set_cons_succ, List.getElem_toArray, List.getElem_cons_succ, List.getElem_cons_zero]
      refine wpAnyH_ready (rs := [4]) (by kernel_rfl) (by simp) ?_
      refine AllReadyH.cons rfl (fun K hK => ?_) AllReadyH.nil
      try simp only [List.getElem_toArray, List.getElem_cons_succ, List.getElem_cons_zero]
      first
        | (go_at_call 10; (with_reducible refine (hO1.out _ _ _ _ _ hg1 (KX.out _ b11)).mono ?_); rintro e w12 ⟨o1, rfl, ho1, hb⟩; have b12 := b11.trans (hb.mono b11.size); clear hb)
        | (go_simp; (go_at_call 10; (with_reducible refine (hO1.out _ _ _ _ _ hg1 (KX.out _ b11)).mono ?_); rintro e w12 ⟨o1, rfl, ho1, hb⟩; have b12 := b11.trans (hb.mono b11.size); clear hb))
        | fail "CALL 4"
      try go_wp2_with fail
      refine hK.out _ _ ?_ (fun hHeld2 => ?_)
      · (first | go_keep | (refine ⟨⟨?_, ?_, ?_⟩, ⟨?_, ?_, ?_⟩, ⟨?_, ?_, ?_⟩, ⟨?_, ?_, ?_⟩⟩ <;> first | assumption | (rw [b12.cell (by simp <;> omega)]; assumption)))
      clear hK K hHeld
      have hHeld := hHeld2
      clear hHeld2
      try simp only [Act.put, List.setIfInBounds_toArray, List.set_cons_zero, List.set_cons_succ, List.getElem_toArray, List.getElem_cons_succ, List.getElem_cons_zero]
      first
        | (refine wpAnyH_take (i := 5) (v := undef) rfl (by kernel_rfl) (by kernel_rfl) (by kernel_rfl) (fun _ _ _ h => h) (Or.inr ⟨by rfl, rfl⟩) (by assumption) ?_)
        | (refine wpAnyH_take (i := 5) (v := ?_) rfl (by kernel_rfl) (by kernel_rfl) (by kernel_rfl) (fun _ _ _ h => h) (Or.inl ⟨by rfl, ?_⟩) (by assumption) ?_; rotate_left; (· intro w hSw; (try dsimp only at hSw); go_simp; (try with_reducible rfl)))
        | fail "TK 5"
      try simp only [Act.put, List.setIfInBounds_toArray, List.set_cons_zero, List.set_cons_succ, List.getElem_toArray, List.getElem_cons_succ, List.getElem_cons_zero]
      first
        | (refine wpAnyH_take (i := 6) (v := undef) rfl (by kernel_rfl) (by kernel_rfl) (by kernel_rfl) (fun _ _ _ h => h) (Or.inr ⟨by rfl, rfl⟩) (by assumption) ?_)
        | (refine wpAnyH_take (i := 6) (v := ?_) rfl (by kernel_rfl) (by kernel_rfl) (by kernel_rfl) (fun _ _ _ h => h) (Or.inl ⟨by rfl, ?_⟩) (by assumption) ?_; rotate_left; (· intro w hSw; (try dsimp only at hSw); go_simp; (try with_reducible rfl)))
        | fail "TK 6"
      try simp only [Act.put, List.setIfInBounds_toArray, List.set_cons_zero, List.set_cons_succ, List.getElem_toArray, List.getElem_cons_succ, List.getElem_cons_zero]
      first
        | (refine wpAnyH_take (i := 7) (v := undef) rfl (by kernel_rfl) (by kernel_rfl) (by kernel_rfl) (fun _ _ _ h => h) (Or.inr ⟨by rfl, rfl⟩) (by assumption) ?_)
        | (refine wpAnyH_take (i := 7) (v := ?_) rfl (by kernel_rfl) (by kernel_rfl) (by kernel_rfl) (fun _ _ _ h => h) (Or.inl ⟨by rfl, ?_⟩) (by assumption) ?_; rotate_left; (· intro w hSw; (try dsimp only at hSw); go_simp; (try with_reducible rfl)))
        | fail "TK 7"
      try simp only [Act.put, List.setIfInBounds_toArray, List.set_cons_zero, List.set_cons_succ, List.getElem_toArray, List.getElem_cons_succ, List.getElem_cons_zero]
      first
        | (refine wpAnyH_take (i := 8) (v := undef) rfl (by kernel_rfl) (by kernel_rfl) (by kernel_rfl) (fun _ _ _ h => h) (Or.inr ⟨by rfl, rfl⟩) (by assumption) ?_)
        | (refine wpAnyH_take (i := 8) (v := ?_) rfl (by kernel_rfl) (by kernel_rfl) (by kernel_rfl) (fun _ _ _ h => h) (Or.inl ⟨by rfl, ?_⟩) (by assumption) ?_; rotate_left; (· intro w hSw; (try dsimp only at hSw); go_simp; (try with_reducible rfl)))
        | fail "TK 8"
      try simp only [Act.put, List.setIfInBounds_toArray, List.set_cons_zero, List.set_cons_succ, List.getElem_toArray, List.getElem_cons_succ, List.getElem_cons_zero]
      first
        | (refine wpAnyH_take (i := 10) (v := undef) rfl (by kernel_rfl) (by kernel_rfl) (by kernel_rfl) (fun _ _ _ h => h) (Or.inr ⟨by rfl, rfl⟩) (by assumption) ?_)
        | (refine wpAnyH_take (i := 10) (v := ?_) rfl (by kernel_rfl) (by kernel_rfl) (by kernel_rfl) (fun _ _ _ h => h) (Or.inl ⟨by rfl, ?_⟩) (by assumption) ?_; rotate_left; (· intro w hSw; (try dsimp only at hSw); go_simp; (try with_reducible rfl)))
        | fail "TK 10"
      try simp only [Act.put, List.setIfInBounds_toArray, List.set_cons_zero, List.set_cons_succ, List.getElem_toArray, List.getElem_cons_succ, List.getElem_cons_zero]
      first
        | (refine wpAnyH_take (i := 12) (v := undef) rfl (by kernel_rfl) (by kernel_rfl) (by kernel_rfl) (fun _ _ _ h => h) (Or.inr ⟨by rfl, rfl⟩) (by assumption) ?_)
        | (refine wpAnyH_take (i := 12) (v := ?_) rfl (by kernel_rfl) (by kernel_rfl) (by kernel_rfl) (fun _ _ _ h => h) (Or.inl ⟨by rfl, ?_⟩) (by assumption) ?_; rotate_left; (· intro w hSw; (try dsimp only at hSw); go_simp; (try with_reducible rfl)))
        | fail "TK 12"
      try simp only [Act.put, List.setIfInBounds_toArray, List.set_cons_zero, List.set_cons_succ, List.getElem_toArray, List.getElem_cons_succ, List.getElem_cons_zero]
      refine wpAnyH_ready (rs := [9]) (by kernel_rfl) (by simp) ?_
      refine AllReadyH.cons rfl (fun K hK => ?_) AllReadyH.nil
      try simp only [List.getElem_toArray, List.getElem_cons_succ, List.getElem_cons_zero]
      first
        | (go_at_call 12; (with_reducible refine (hBo.out _ _ _ _ _ (KQ.out _ b12) (KU.out _ b12)).mono ?_); rintro e w13 ⟨g2, rfl, hg2, hb⟩; have b13 := b12.trans (hb.mono b12.size); clear hb)
        | (go_simp; (go_at_call 12; (with_reducible refine (hBo.out _ _ _ _ _ (KQ.out _ b12) (KU.out _ b12)).mono ?_); rintro e w13 ⟨g2, rfl, hg2, hb⟩; have b13 := b12.trans (hb.mono b12.size); clear hb))
        | fail "CALL 9"
      try go_wp2_with fail
      refine hK.out _ _ ?_ (fun hHeld2 => ?_)
      · (first | go_keep | (refine ⟨⟨?_, ?_, ?_⟩, ⟨?_, ?_, ?_⟩, ⟨?_, ?_, ?_⟩, ⟨?_, ?_, ?_⟩⟩ <;> first | assumption | (rw [b13.cell (by simp <;> omega)]; assumption)))
      clear hK K hHeld
      have hHeld := hHeld2
      clear hHeld2
      try simp only [Act.put, List.setIfInBounds_toArray, List.set_cons_zero, List.set_cons_succ, List.getElem_toArray, List.getElem_cons_succ, List.getElem_cons_zero]
      refine wpAnyH_ready (rs := [11]) (by kernel_rfl) (by simp) ?_
      refine AllReadyH.cons rfl (fun K hK => ?_) AllReadyH.nil
      try simp only [List.getElem_toArray, List.getElem_cons_succ, List.getElem_cons_zero]
      first
        | (go_at_call 11; (with_reducible refine (hT2.out _ _ _ _ _ hg2 (KY.out _ b13)).mono ?_); rintro e w14 ⟨g3, rfl, hg3, hb⟩; have b14 := b13.trans (hb.mono b13.size); clear hb)
        | (go_simp; (go_at_call 11; (with_reducible refine (hT2.out _ _ _ _ _ hg2 (KY.out _ b13)).mono ?_); rintro e w14 ⟨g3, rfl, hg3, hb⟩; have b14 := b13.trans (hb.mono b13.size); clear hb))
        | fail "CALL 11"
      try go_wp2_with fail
      refine hK.out _ _ ?_ (fun hHeld2 => ?_)
      · (first | go_keep | (refine ⟨⟨?_, ?_, ?_⟩, ⟨?_, ?_, ?_⟩, ⟨?_, ?_, ?_⟩, ⟨?_, ?_, ?_⟩⟩ <;> first | assumption | (rw [b14.cell (by simp <;> omega)]; assumption)))
      clear hK K hHeld
      have hHeld := hHeld2
      clear hHeld2
      try simp only [Act.put, List.setIfInBounds_toArray, List.set_cons_zero, List.set_cons_succ, List.getElem_toArray, List.getElem_cons_succ, List.getElem_cons_zero]
      refine wpAnyH_ready (rs := [13]) (by kernel_rfl) (by simp) ?_
      refine AllReadyH.cons rfl (fun K hK => ?_) AllReadyH.nil
      try simp only [List.getElem_toArray, List.getElem_cons_succ, List.getElem_cons_zero]
      first
        | (go_at_call 10; (with_reducible refine (hO2.out _ _ _ _ _ hg3 (KX.out _ b14)).mono ?_); rintro e w15 ⟨o2, rfl, ho2, hb⟩; have b15 := b14.trans (hb.mono b14.size); clear hb)
        | (go_simp; (go_at_call 10; (with_reducible refine (hO2.out _ _ _ _ _ hg3 (KX.out _ b14)).mono ?_); rintro e w15 ⟨o2, rfl, ho2, hb⟩; have b15 := b14.trans (hb.mono b14.size); clear hb))
        | fail "CALL 13"
      try go_wp2_with fail
      refine hK.out _ _ ?_ (fun hHeld2 => ?_)
      · (first | go_keep | (refine ⟨⟨?_, ?_, ?_⟩, ⟨?_, ?_, ?_⟩, ⟨?_, ?_, ?_⟩, ⟨?_, ?_, ?_⟩⟩ <;> first | assumption | (rw [b15.cell (by simp <;> omega)]; assumption)))
      clear hK K hHeld
      have hHeld := hHeld2
      clear hHeld2
      try simp only [Act.put, List.setIfInBounds_toArray, List.set_cons_zero, List.set_cons_succ, List.getElem_toArray, List.getElem_cons_succ, List.getElem_cons_zero]
      first
        | (refine wpAnyH_take (i := 14) (v := undef) rfl (by kernel_rfl) (by kernel_rfl) (by kernel_rfl) (fun _ _ _ h => h) (Or.inr ⟨by rfl, rfl⟩) (by assumption) ?_)
        | (refine wpAnyH_take (i := 14) (v := ?_) rfl (by kernel_rfl) (by kernel_rfl) (by kernel_rfl) (fun _ _ _ h => h) (Or.inl ⟨by rfl, ?_⟩) (by assumption) ?_; rotate_left; (· intro w hSw; (try dsimp only at hSw); go_simp; (try with_reducible rfl)))
        | fail "TK 14"
      try simp only [Act.put, List.setIfInBounds_toArray, List.set_cons_zero, List.set_cons_succ, List.getElem_toArray, List.getElem_cons_succ, List.getElem_cons_zero]
      first
        | (refine wpAnyH_take (i := 15) (v := undef) rfl (by kernel_rfl) (by kernel_rfl) (by kernel_rfl) (fun _ _ _ h => h) (Or.inr ⟨by rfl, rfl⟩) (by assumption) ?_)
        | (refine wpAnyH_take (i := 15) (v := ?_) rfl (by kernel_rfl) (by kernel_rfl) (by kernel_rfl) (fun _ _ _ h => h) (Or.inl ⟨by rfl, ?_⟩) (by assumption) ?_; rotate_left; (· intro w hSw; (try dsimp only at hSw); go_simp; (try with_reducible rfl)))
        | fail "TK 15"
      try simp only [Act.put, List.setIfInBounds_toArray, List.set_cons_zero, List.set_cons_succ, List.getElem_toArray, List.getElem_cons_succ, List.getElem_cons_zero]
      first
        | (refine wpAnyH_take (i := 16) (v := undef) rfl (by kernel_rfl) (by kernel_rfl) (by kernel_rfl) (fun _ _ _ h => h) (Or.inr ⟨by rfl, rfl⟩) (by assumption) ?_)
        | (refine wpAnyH_take (i := 16) (v := ?_) rfl (by kernel_rfl) (by kernel_rfl) (by kernel_rfl) (fun _ _ _ h => h) (Or.inl ⟨by rfl, ?_⟩) (by assumption) ?_; rotate_left; (· intro w hSw; (try dsimp only at hSw); go_simp; (try with_reducible rfl)))
        | fail "TK 16"
      try simp only [Act.put, List.setIfInBounds_toArray, List.set_cons_zero, List.set_cons_succ, List.getElem_toArray, List.getElem_cons_succ, List.getElem_cons_zero]
      refine wpAnyH_ready (rs := [17]) (by kernel_rfl) (by simp) ?_
      refine AllReadyH.cons rfl (fun K hK => ?_) AllReadyH.nil
      try simp only [List.getElem_toArray, List.getElem_cons_succ, List.getElem_cons_zero]
      first
        | (go_at_call 7; (with_reducible refine (HAW.out _).mono ?_); rintro e w16 ⟨rfl, hb⟩; have b16 := b15.trans (hb.mono b15.size); clear hb)
        | (go_simp; (go_at_call 7; (with_reducible refine (HAW.out _).mono ?_); rintro e w16 ⟨rfl, hb⟩; have b16 := b15.trans (hb.mono b15.size); clear hb))
        | fail "CALL 17"
      try go_wp2_with fail
      refine hK.out _ _ ?_ (fun hHeld2 => ?_)
      · (first | go_keep | (refine ⟨⟨?_, ?_, ?_⟩, ⟨?_, ?_, ?_⟩, ⟨?_, ?_, ?_⟩, ⟨?_, ?_, ?_⟩⟩ <;> first | assumption | (rw [b16.cell (by simp <;> omega)]; assumption)))
      clear hK K hHeld
      have hHeld := hHeld2
      clear hHeld2
      try simp only [Act.put, List.setIfInBounds_toArray, List.set_cons_zero, List.set_cons_succ, List.getElem_toArray, List.getElem_cons_succ, List.getElem_cons_zero]
      first
        | (refine wpAnyH_take (i := 18) (v := undef) rfl (by kernel_rfl) (by kernel_rfl) (by kernel_rfl) (fun _ _ _ h => h) (Or.inr ⟨by rfl, rfl⟩) (by assumption) ?_)
        | (refine wpAnyH_take (i := 18) (v := ?_) rfl (by kernel_rfl) (by kernel_rfl) (by kernel_rfl) (fun _ _ _ h => h) (Or.inl ⟨by rfl, ?_⟩) (by assumption) ?_; rotate_left; (· intro w hSw; (try dsimp only at hSw); go_simp; (try with_reducible rfl)))
        | fail "TK 18"
      try simp only [Act.put, List.setIfInBounds_toArray, List.set_cons_zero, List.set_cons_succ, List.getElem_toArray, List.getElem_cons_succ, List.getElem_cons_zero]
      first
        | (refine wpAnyH_take (i := 19) (v := undef) rfl (by kernel_rfl) (by kernel_rfl) (by kernel_rfl) (fun _ _ _ h => h) (Or.inr ⟨by rfl, rfl⟩) (by assumption) ?_)
        | (refine wpAnyH_take (i := 19) (v := ?_) rfl (by kernel_rfl) (by kernel_rfl) (by kernel_rfl) (fun _ _ _ h => h) (Or.inl ⟨by rfl, ?_⟩) (by assumption) ?_; rotate_left; (· intro w hSw; (try dsimp only at hSw); go_simp; (try with_reducible rfl)))
        | fail "TK 19"
      try simp only [Act.put, List.setIfInBounds_toArray, List.set_cons_zero, List.set_cons_succ, List.getElem_toArray, List.getElem_cons_succ, List.getElem_cons_zero]
      refine wpAnyH_done (by kernel_rfl) ?_ _
      go_wp2
      try show bodyPost _ _ _ _ _ _
      go_ret
      exact ⟨rfl, bl_then BE.out b16⟩
    · go_ret
      exact ⟨rfl, B9.out⟩
end Go.Proofs.YtafhboppojeafaaGreatDoor
