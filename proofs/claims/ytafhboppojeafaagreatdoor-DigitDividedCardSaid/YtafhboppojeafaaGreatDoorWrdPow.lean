/- digit.product: the words of a product. digit.magnitude, power: the words of powers. -/
import Derived.Test.YtafhboppojeafaaGreatDoorWrdDiff
import Derived.Lib.RabinKarpLaws
namespace Go.Proofs.YtafhboppojeafaaGreatDoor
open Go.RowKit

theorem wval_put (l : List Nat) (j : Nat) (h : j < l.length) (d : Nat) : wval (l.set j d) + 4294967296 ^ j * l[j] = wval l + 4294967296 ^ j * d := by
  have hm : j < (l.set j 0).length := by rw [List.length_set]; exact h
  have e0 : (l.set j 0)[j] = 0 := List.getElem_set_self ..
  have e1 := wval_set (l.set j 0) j hm l[j]
  have e2 := wval_set (l.set j 0) j hm d
  rw [e0, Nat.zero_add, List.set_set] at e1 e2
  rw [List.set_getElem_self] at e1
  omega
theorem wval_take_wrd (n i : Nat) (h : i < (wrds n).length) : wval ((wrds n).take (i + 1)) = wval ((wrds n).take i) + 4294967296 ^ i * wrd n i := by
  rw [wval_take_succ _ _ h, wrd, List.getElem?_eq_getElem h]; rfl

/-- What stands in product's outer loop, and in its inner one. -/
def MulR (w : World) (a b N i : Nat) (l : List Nat) (wr : World) : Prop :=
  i ≤ (wrds a).length ∧ l.length = N ∧ Wrds l ∧ wval l = wval ((wrds a).take i) * b ∧ (∀ k, i + (wrds b).length ≤ k → (l[k]?).getD 0 = 0) ∧ Row wr w.heap.size (wrow l) 82 ∧ Below w.heap.size w wr
def InR (w : World) (a b N i j c : Nat) (l : List Nat) (wr : World) : Prop :=
  j ≤ (wrds b).length ∧ c < 4294967296 ∧ l.length = N ∧ Wrds l ∧ wval l + 4294967296 ^ (i + j) * c = wval ((wrds a).take i) * b + 4294967296 ^ i * (wrd a i * wval ((wrds b).take j)) ∧ (∀ k, i + (wrds b).length ≤ k → (l[k]?).getD 0 = 0) ∧ Row wr w.heap.size (wrow l) 82 ∧ Below w.heap.size w wr
theorem MulR.inner {w wr : World} {a b N i : Nat} {l : List Nat} (h : MulR w a b N i l wr) : InR w a b N i 0 0 l wr :=
  ⟨Nat.zero_le _, by decide, h.2.1, h.2.2.1, by rw [h.2.2.2.1]; simp [wval], h.2.2.2.2⟩
theorem InR.next {w wr : World} {a b N i j c : Nat} {l : List Nat} (h : InR w a b N i j c l wr) (hN : N = (wrds a).length + (wrds b).length) (hi : i < (wrds a).length) (hj : j < (wrds b).length) (t : Nat) (ht : t = c + (wrd a i * wrd b j + (l[i + j]?).getD 0)) :
    InR w a b N i (j + 1) (t / 4294967296) (l.set (i + j) (t % 4294967296)) (wr.setCell ⟨w.heap.size, i + j, none⟩ (.int .u32 ((t % 4294967296 : Nat) : Int))) := by
  obtain ⟨h1, h2, h3, h4, h5, h6, h7, h8⟩ := h
  have hl : i + j < l.length := by omega
  have x1 := wrd_lt a i
  have x2 := wrd_lt b j
  have x3 := h4.at (i + j) hl
  have e0 : (l[i + j]?).getD 0 = l[i + j] := by rw [List.getElem?_eq_getElem hl]; rfl
  rw [e0] at ht
  have hp := wval_put l (i + j) hl (t % 4294967296)
  have hm : wrd a i * wrd b j ≤ 4294967295 * 4294967295 := Nat.mul_le_mul (by omega) (by omega)
  refine ⟨by omega, by omega, by rw [List.length_set]; exact h3, h4.set _ (Nat.mod_lt _ (by decide)), ?_, ?_, h7.wput _ _, h8.setCell (Nat.le_refl _) _⟩
  · rw [wval_take_wrd b j hj, ← Nat.add_assoc, Nat.pow_succ]
    have k2 : 4294967296 ^ (i + j) = 4294967296 ^ i * 4294967296 ^ j := Nat.pow_add _ _ _
    have k3 : 4294967296 ^ i * (wrd a i * (wval ((wrds b).take j) + 4294967296 ^ j * wrd b j)) = 4294967296 ^ i * (wrd a i * wval ((wrds b).take j)) + 4294967296 ^ (i + j) * (wrd a i * wrd b j) := by
      rw [k2, Nat.mul_add, Nat.mul_add, Nat.mul_assoc (4294967296 ^ i), Nat.mul_left_comm (wrd a i)]
    rw [k3, ← Nat.add_assoc, ← h5]
    generalize 4294967296 ^ (i + j) = P at hp ⊢
    have k4 : P * (t % 4294967296) + P * 4294967296 * (t / 4294967296) = P * c + P * (wrd a i * wrd b j) + P * l[i + j] := by
      rw [Nat.mul_assoc, ← Nat.mul_add, ← Nat.mul_add, ← Nat.mul_add, Nat.mod_add_div, ht]
      congr 1; omega
    omega
  · intro k hk
    rw [List.getElem?_set_ne (by omega)]
    exact h6 k hk
theorem InR.outer {w wr : World} {a b N i c : Nat} {l : List Nat} (h : InR w a b N i (wrds b).length c l wr) (hN : N = (wrds a).length + (wrds b).length) (hi : i < (wrds a).length) :
    MulR w a b N (i + 1) (l.set (i + (wrds b).length) c) (wr.setCell ⟨w.heap.size, i + (wrds b).length, none⟩ (.int .u32 (c : Int))) := by
  obtain ⟨_, h2, h3, h4, h5, h6, h7, h8⟩ := h
  have hl : i + (wrds b).length < l.length := by omega
  have hz := h6 (i + (wrds b).length) (Nat.le_refl _)
  rw [List.getElem?_eq_getElem hl] at hz
  have hz' : l[i + (wrds b).length] = 0 := hz
  have hp := wval_put l _ hl c
  rw [hz', Nat.mul_zero, Nat.add_zero] at hp
  refine ⟨by omega, by rw [List.length_set]; exact h3, h4.set _ h2, ?_, ?_, h7.wput _ _, h8.setCell (Nat.le_refl _) _⟩
  · rw [hp, h5, List.take_length, wval_digs, wval_take_wrd a i hi, Nat.add_mul, Nat.mul_assoc]
  · intro k hk
    rw [List.getElem?_set_ne (by omega)]
    exact h6 k (by omega)

set_option maxHeartbeats 4000000 in
set_option maxRecDepth 100000 in
theorem product_d {B C a b : Nat} {va vb : Value} {w : World} (hA : WArg B w va a) (hB : WArg C w vb b) (la : (wrds a).length ≤ 10000) (lb : (wrds b).length ≤ 10000) :
    Calls Tryz.prog 35 #[va, vb] w (GivesW w (a * b)) := by
  obtain ⟨pa, ka, rfl⟩ := hA.slice
  obtain ⟨pb, kb, rfl⟩ := hB.slice
  have HA := Lib.hid hA
  have HB := Lib.hid hB
  clear hA hB
  obtain ⟨N, hN⟩ : ∃ N, N = (wrds a).length + (wrds b).length := ⟨_, rfl⟩
  have hmk := run_make_row' 48 82 (.int .u32 0) 4 Tryz.underlying48 Tryz.infoWord rfl .i64 .i64 N (by omega) (by omega)
  have R0 := Lib.hid (Row.new w (madeCells #[Value.int .u32 0] N) 82)
  rw [wmade] at R0 hmk
  have HN := Lib.hid hN
  have hN2 : N ≤ 20000 := by omega
  have hN3 : ((wrds a).length : Int) + ((wrds b).length : Int) = N := by omega
  have hwn : IntKind.i64.wrap (((wrds a).length : Int) + ((wrds b).length : Int)) = N := by rw [hN3]; exact IntWalk.i64_in _ (by omega)
  have hz0 : Hid (∀ k, (((List.replicate N 0)[k]?).getD 0) = 0) := Lib.hid fun k => by
    rw [List.getElem?_replicate]; split <;> rfl
  clear hN
  go_enter Tryz.func35, Tryz.ntmps35
  go_wp2
  go_loopw [19] (fun i wr => ∃ (k : Nat) (l : List Nat), i = .int .i64 (k : Int) ∧ MulR w a b N k l wr) (fun i _ => (wrds a).length - (intOf i).toNat)
  case atStart => exact ⟨0, List.replicate N 0, rfl, Nat.zero_le _, by simp, by intro d hd; rw [List.mem_replicate] at hd; omega, by rw [wval_zeros _ (by intro d hd; exact (List.mem_replicate.1 hd).2)]; simp [wval], fun k _ => hz0.out k, R0.out, (Below.refl _ w).alloc (Nat.le_refl _) _⟩
  case round =>
    obtain ⟨i, l, rfl, hR⟩ := hrel
    have hB := hR.2.2.2.2.2.2
    by_cases h1 : i < (wrds a).length
    · obtain ⟨ba, rfl, hba, hcA⟩ := (HA.out.keep hB (Nat.le_refl _)).at h1
      have IN := Lib.hid hR.inner
      have i1 : (i : Int) < (wrds a).length := by omega
      clear hR hB hmk R0 hz0
      go_wp2
      go_loopw [8, 26] (fun c j wr2 => ∃ (jj cc : Nat) (l2 : List Nat), j = .int .i64 (jj : Int) ∧ c = .int .u64 (cc : Int) ∧ InR w a b N i jj cc l2 wr2) (fun _ j _ => (wrds b).length - (intOf j).toNat)
      case atStart => exact ⟨0, 0, l, rfl, rfl, IN.out⟩
      case round =>
        clear IN hcA
        obtain ⟨j, c, l2, rfl, rfl, hI⟩ := hrel
        have hB := hI.2.2.2.2.2.2.2
        have hrow := hI.2.2.2.2.2.2.1
        have hl2 := hI.2.2.1
        have hd2 := hI.2.2.2.1
        have hc := hI.2.1
        have hjl := hI.1
        by_cases h2 : j < (wrds b).length
        · obtain ⟨bb, rfl, hbb, hcB⟩ := (HB.out.keep hB (Nat.le_refl _)).at h2
          have j1 : (j : Int) < (wrds b).length := by omega
          obtain ⟨q, hq⟩ : ∃ q, i + j = q := ⟨_, rfl⟩
          obtain ⟨m, hm⟩ : ∃ m, wrd a i * wrd b j = m := ⟨_, rfl⟩
          have hql : q < l2.length := by have := HN.out; omega
          have hqN : q < N := by omega
          obtain ⟨o, ho⟩ : ∃ o, l2[q] = o := ⟨_, rfl⟩
          have hoW : o < 4294967296 := by rw [← ho]; exact hd2.at q hql
          have hmW : m ≤ 4294967295 * 4294967295 := by
            rw [← hm]; exact Nat.mul_le_mul (by have := wrd_lt a i; omega) (by have := wrd_lt b j; omega)
          have NX := hI.next HN.out h1 h2 (c + (m + o)) (by rw [hm, hq, List.getElem?_eq_getElem hql, ho]; rfl)
          rw [hq] at NX
          have hcO : wr.cell? ⟨w.heap.size, q, none⟩ = some (.int .u32 (o : Int)) := by rw [← ho]; exact hrow.wat hql
          have hfO := hrow.free q
          have hwi : IntKind.i64.wrap ((i : Int) + (j : Int)) = (q : Int) := by rw [show (i : Int) + (j : Int) = q by omega]; exact IntWalk.i64_in _ (by omega)
          have hw1 : IntKind.u64.wrap ((wrd a i : Int) * (wrd b j : Int)) = (m : Int) := by
            rw [show (wrd a i : Int) * (wrd b j : Int) = m by rw [← hm, Int.natCast_mul]]; exact IntWalk.u64_in _ (by omega)
          have hw2 : IntKind.u64.wrap ((m : Int) + (o : Int)) = (m : Int) + (o : Int) := IntWalk.u64_in _ (by omega)
          have hw3 : IntKind.u64.wrap ((c : Int) + ((m : Int) + (o : Int))) = (c : Int) + ((m : Int) + (o : Int)) := IntWalk.u64_in _ (by omega)
          have x1 := wrd_lt a i
          have x2 := wrd_lt b j
          have k1 : (q : Int) < N := by omega
          have HE : Hid (((c : Int) + ((m : Int) + (o : Int))) % 4294967296 = (((c + (m + o)) % 4294967296 : Nat) : Int)) := Lib.hid (by omega)
          have HF : Hid (((c : Int) + ((m : Int) + (o : Int))) / 4294967296 = (((c + (m + o)) / 4294967296 : Nat) : Int)) := Lib.hid (by omega)
          have NXh := Lib.hid NX
          clear NX hI hB hrow hq hm ho hd2
          go_wp2
          case roundEnd =>
            rw [HE.out, HF.out]
            exact ⟨⟨j + 1, _, _, rfl, rfl, NXh.out⟩, by simp [intOf]; omega⟩
        · have hje : j = (wrds b).length := by omega
          obtain ⟨q, hq⟩ : ∃ q, i + (wrds b).length = q := ⟨_, rfl⟩
          rw [hje] at hI
          have OU := hI.outer HN.out h1
          rw [hq] at OU
          have hql : q < l2.length := by have := HN.out; omega
          have hcO := hrow.wat hql
          have hfO := hrow.free q
          have hwi : IntKind.i64.wrap ((i : Int) + ((wrds b).length : Int)) = (q : Int) := by rw [show (i : Int) + ((wrds b).length : Int) = q by omega]; exact IntWalk.i64_in _ (by omega)
          have k1 : (q : Int) < N := by omega
          have hcm : (c : Int) % 4294967296 = c := by omega
          have OUh := Lib.hid OU
          clear OU hI hB hrow hq hd2
          go_wp2
          case roundEnd => exact ⟨⟨i + 1, _, rfl, OUh.out⟩, by simp [intOf]; omega⟩
    · have hie : i = (wrds a).length := by have := hR.1; omega
      obtain ⟨_, hl, hd, hv, _, hrow, _⟩ := hR
      rw [hie, List.take_length, wval_digs] at hv
      have HV := Lib.hid hv
      have HT := Lib.hid (trim_row (cap := N) hrow hd (by omega) (by omega))
      have HW := Lib.hid (WArg.of_row (B := w.heap.size) (cap := N) hrow (Nat.le_refl _) hd (by omega))
      rw [hl] at HT
      rw [HV.out] at HW HT
      have HB2 := Lib.hid hB
      clear hB hrow hd hv hmk R0
      go_wp2_with (go_at_call 76; refine HT.out.mono ?_; rintro e w2 ⟨rfl, rfl⟩)
      go_ret
      exact ⟨_, rfl, HW.out, HB2.out⟩
end Go.Proofs.YtafhboppojeafaaGreatDoor
namespace Go.Proofs.YtafhboppojeafaaGreatDoor
open Go.RowKit

theorem wpow_le (a b : Nat) (h : a ≤ b) : 4294967296 ^ a ≤ 4294967296 ^ b := Nat.pow_le_pow_right (by decide) h
theorem wrds_len {n k : Nat} (h : n < 4294967296 ^ k) : (wrds n).length ≤ k := wrds_length n k h
set_option maxHeartbeats 1000000 in
theorem magnitude_d (x : Int) (w : World) (h1 : -9223372036854775807 ≤ x) (h2 : x ≤ 9223372036854775807) :
    Calls Tryz.prog 87 #[.int .i64 x] w (GivesW w x.natAbs) := by
  by_cases h : x < 0
  · obtain ⟨n, hn⟩ := Int.eq_ofNat_of_zero_le (show 0 ≤ -x by omega)
    have hx : x = -(n : Int) := by omega
    subst hx
    have e : (-(n : Int)).natAbs = n := by omega
    rw [e]
    have hw : IntKind.i64.wrap (- -(n : Int)) = n := by rw [Int.neg_neg]; exact IntWalk.i64_in _ (by omega)
    have hm : max (-(n : Int)) (n : Int) = n := by omega
    have hl : -(n : Int) < (n : Int) := by omega
    have HN : Hid (∀ W, Calls Tryz.prog 89 #[.int .i64 (n : Int)] W (GivesW W n)) := Lib.hid fun W => natural_d n W (by omega)
    clear e hn
    go_enter Tryz.func87, Tryz.ntmps87
    go_wp2_with (go_at_call 89; refine (HN.out _).mono ?_; rintro e w2 ⟨v2, rfl, W2, hb2⟩)
    go_ret
    exact ⟨_, rfl, W2, hb2⟩
  · obtain ⟨n, rfl⟩ := Int.eq_ofNat_of_zero_le (show 0 ≤ x by omega)
    have e : ((n : Int)).natAbs = n := by omega
    rw [e]
    have hw : IntKind.i64.wrap (-(n : Int)) = -(n : Int) := IntWalk.i64_in _ (by omega)
    have hm : max (n : Int) (-(n : Int)) = n := by omega
    have hl : ¬ (n : Int) < -(n : Int) := by omega
    have hl2 : -(n : Int) ≤ (n : Int) := by omega
    have HN : Hid (∀ W, Calls Tryz.prog 89 #[.int .i64 (n : Int)] W (GivesW W n)) := Lib.hid fun W => natural_d n W (by omega)
    clear e
    go_enter Tryz.func87, Tryz.ntmps87
    go_wp2_with (go_at_call 89; refine (HN.out _).mono ?_; rintro e w2 ⟨v2, rfl, W2, hb2⟩)
    go_ret
    exact ⟨_, rfl, W2, hb2⟩
theorem odd_of {m : Nat} (hm : m < 9223372036854775808) {b : Bool} (h : (bits BinOp.and IntKind.i64 (m : Int) 1 == 1) = b) : (m % 2 = 1) ↔ b = true := by
  rw [Go.Proofs.and_one m hm] at h
  rw [← h, beq_iff_eq]; omega
theorem pow_half (y m : Nat) : y ^ m = (y * y) ^ (m / 2) * y ^ (m % 2) := by
  rw [← Nat.pow_two, ← Nat.pow_mul, ← Nat.pow_add, Nat.div_add_mod]
theorem pow_odd {x y m T : Nat} (h : x * y ^ m = T) (ho : m % 2 = 1) : x * y * (y * y) ^ (m / 2) = T := by
  rw [← h, pow_half y m, ho, Nat.pow_one, Nat.mul_comm ((y * y) ^ (m / 2)), Nat.mul_assoc]
theorem pow_even {x y m T : Nat} (h : x * y ^ m = T) (ho : ¬ m % 2 = 1) : x * (y * y) ^ (m / 2) = T := by
  rw [← h, pow_half y m, show m % 2 = 0 by omega, Nat.pow_zero, Nat.mul_one]
theorem pow_le {x z k T : Nat} (h : x * z ^ k = T) (hx : 1 ≤ x) (hz : 1 ≤ z) (hk : 1 ≤ k) : z ≤ T := by
  have h1 : z ^ 1 ≤ z ^ k := Nat.pow_le_pow_right hz hk
  rw [Nat.pow_one] at h1
  have h2 : 1 * z ^ k ≤ x * z ^ k := Nat.mul_le_mul_right _ hx
  omega
theorem pow_fst {x z k T : Nat} (h : x * z ^ k = T) (hz : 1 ≤ z) : x ≤ T := by
  have h1 : x * 1 ≤ x * z ^ k := Nat.mul_le_mul_left _ (Nat.one_le_pow _ _ hz)
  omega
/-- What stands in power's loop. -/
def PowR (w : World) (T Lim : Nat) (m x y : Nat) (v u : Value) (wr : World) : Prop :=
  x * y ^ m = T ∧ 1 ≤ x ∧ 1 ≤ y ∧ x ≤ Lim ∧ y ≤ Lim ∧ WArg w.heap.size wr v x ∧ WArg w.heap.size wr u y ∧ Below w.heap.size w wr
set_option maxHeartbeats 1000000 in
set_option maxRecDepth 100000 in
theorem power_d (base n : Nat) (w : World) (hb0 : 1 ≤ base) (hb : base < 9223372036854775808) (hn : n < 9223372036854775808) (hT : base ^ n < 4294967296 ^ 10000) :
    Calls Tryz.prog 81 #[.int .i64 (base : Int), .int .i64 (n : Int)] w (GivesW w (base ^ n)) := by
  have H1 : Hid (∀ W, Calls Tryz.prog 89 #[.int .i64 1] W (GivesW W 1)) := Lib.hid fun W => natural_d 1 W (by decide)
  have H2 : Hid (∀ W, Calls Tryz.prog 89 #[.int .i64 (base : Int)] W (GivesW W base)) := Lib.hid fun W => natural_d base W hb
  go_enter Tryz.func81, Tryz.ntmps81
  go_wp2_with (go_at_call 89; first
    | ((with_reducible refine (H1.out _).mono ?_); rintro e w1 ⟨v1, rfl, W1, hb1⟩; obtain ⟨p1, k1, rfl⟩ := W1.slice)
    | ((with_reducible refine (H2.out _).mono ?_); rintro e w2 ⟨v2, rfl, W2, hb2⟩; obtain ⟨p2, k2, rfl⟩ := W2.slice))
  have B2 := bl_then hb1 hb2
  have HR0 : Hid (PowR w (base ^ n) (max (base ^ n) base) n 1 base (.slice p1 (wrds 1).length k1) (.slice p2 (wrds base).length k2) w2) := Lib.hid ⟨by rw [Nat.one_mul], Nat.le_refl _, hb0, Nat.le_trans hb0 (Nat.le_max_right _ _), Nat.le_max_right _ _, W1.keep hb2 (Nat.le_refl _), W2.base hb1.size, B2⟩
  have HL : Hid (∀ z, z ≤ max (base ^ n) base → (wrds z).length ≤ 10000) := by
    show ∀ _, _
    intro z hz
    apply wrds_len
    have h2 := wpow_le 2 10000 (by decide)
    have h3 : base < 4294967296 ^ 2 := Nat.lt_trans hb (by decide)
    rcases Nat.le_total (base ^ n) base with h | h
    · rw [Nat.max_eq_right h] at hz; exact Nat.lt_of_le_of_lt hz (Nat.lt_of_lt_of_le h3 h2)
    · rw [Nat.max_eq_left h] at hz; exact Nat.lt_of_le_of_lt hz hT
  have HTL : Hid (base ^ n ≤ max (base ^ n) base) := Lib.hid (Nat.le_max_left _ _)
  clear hT hb hb0 H1 H2
  generalize base ^ n = T at *
  generalize max T base = Lim at *
  clear hb1 hb2 W1 W2 B2
  go_loopw [1, 5, 6] (fun i v u wr => ∃ (m x y : Nat), i = .int .i64 (m : Int) ∧ m ≤ n ∧ PowR w T Lim m x y v u wr) (fun i _ _ _ => (intOf i).toNat)
  case atStart => exact ⟨n, 1, base, rfl, Nat.le_refl _, HR0.out⟩
  case round =>
    obtain ⟨m, x, y, rfl, hm, hR⟩ := hrel
    by_cases h0 : 0 < m
    · have i1 : (0 : Int) < m := by omega
      obtain ⟨e1, e2, e3, e4, e5, e6, e7, e8⟩ := hR
      have E6 := Lib.hid e6; have E7 := Lib.hid e7; have E8 := Lib.hid e8
      clear e6 e7 e8
      go_wp2_with (go_at_call 35; first
        | ((with_reducible refine (product_d E6.out E7.out (HL.out _ e4) (HL.out _ e5)).mono ?_); rintro e w3 ⟨v3, rfl, W3, hb3⟩)
        | ((with_reducible refine (product_d (E7.out.keep hb3 (Nat.le_refl _)) (E7.out.keep hb3 (Nat.le_refl _)) (HL.out _ e5) (HL.out _ e5)).mono ?_); rintro e w4 ⟨v4, rfl, W4, hb4⟩)
        | ((with_reducible refine (product_d E7.out E7.out (HL.out _ e5) (HL.out _ e5)).mono ?_); rintro e w4 ⟨v4, rfl, W4, hb4⟩))
      · have ho := (odd_of (by omega) (by assumption : (bits BinOp.and IntKind.i64 (m : Int) 1 == 1) = true)).2 rfl
        have hp := pow_odd e1 ho
        have hxy : 1 ≤ x * y := Nat.mul_le_mul e2 e3
        have hyy : 1 ≤ y * y := Nat.mul_le_mul e3 e3
        have hm2 : 1 < m := by omega
        exact ⟨⟨m / 2, x * y, y * y, by rw [show ((m / 2 : Nat) : Int) = (m : Int) / 2 by omega], by omega, hp, hxy, hyy, Nat.le_trans (pow_fst hp hyy) HTL.out, Nat.le_trans (pow_le hp hxy hyy (by omega)) HTL.out, (W3.base E8.out.size).keep hb4 (Nat.le_refl _), W4.base (Nat.le_trans E8.out.size hb3.size), bl_then (bl_then E8.out hb3) hb4⟩, by simp [intOf]; omega⟩
      · have ho := (odd_of (by omega) (by assumption : (bits BinOp.and IntKind.i64 (m : Int) 1 == 1) = true)).2 rfl
        have hp := pow_odd e1 ho
        have hxy : 1 ≤ x * y := Nat.mul_le_mul e2 e3
        have hm1 : m = 1 := by omega
        subst hm1
        exact ⟨⟨0, x * y, y, rfl, by omega, by simpa using hp, hxy, e3, by rw [show x * y = T by simpa using hp]; exact HTL.out, e5, W3.base E8.out.size, E7.out.keep hb3 (Nat.le_refl _), bl_then E8.out hb3⟩, by simp [intOf]⟩
      · have ho : ¬ m % 2 = 1 := fun h => by have := (odd_of (by omega) (by assumption : (bits BinOp.and IntKind.i64 (m : Int) 1 == 1) = false)).1 h; cases this
        have hp := pow_even e1 ho
        have hyy : 1 ≤ y * y := Nat.mul_le_mul e3 e3
        have hm2 : 1 < m := by omega
        exact ⟨⟨m / 2, x, y * y, by rw [show ((m / 2 : Nat) : Int) = (m : Int) / 2 by omega], by omega, hp, e2, hyy, e4, Nat.le_trans (pow_le hp e2 hyy (by omega)) HTL.out, E6.out.keep hb4 (Nat.le_refl _), W4.base E8.out.size, bl_then E8.out hb4⟩, by simp [intOf]; omega⟩
      · exfalso
        have ho : ¬ m % 2 = 1 := fun h => by have := (odd_of (by omega) (by assumption : (bits BinOp.and IntKind.i64 (m : Int) 1 == 1) = false)).1 h; cases this
        omega
    · obtain rfl : m = 0 := by omega
      obtain ⟨e1, e2, e3, e4, e5, e6, e7, e8⟩ := hR
      obtain rfl : x = T := by simpa using e1
      have E6 := Lib.hid e6; have E8 := Lib.hid e8
      clear e6 e7 e8 e1
      go_wp2
      go_ret
      exact ⟨_, rfl, E6.out, E8.out⟩
end Go.Proofs.YtafhboppojeafaaGreatDoor
