/- digit.product: the words of a product. digit.magnitude, power: the words of powers. digit: isZero, signed, longOf: whole numbers with a sign. digit: (long).scaled. digit: (long).plus. digit: exact numbers: sign, negated, plus, minus. digit: exact numbers: plus, minus. digit: exact numbers: minus; exactBin, exactDec. digit: exact numbers: shift; exactFloat. -/
import Derived.Test.YtpdoddhieblooaaGreatDoorKWrdDiff
import Derived.Lib.RabinKarpLaws
import Derived.Test.YtpdoddhieblooaaGreatDoorKBit0
namespace Go.Proofs.YtpdoddhieblooaaGreatDoor
open Go.RowKit

theorem wval_put (l : List Nat) (j : Nat) (h : j < l.length) (d : Nat) : wval (l.set j d) + 4294967296 ^ j * l[j] = wval l + 4294967296 ^ j * d := by
 have hm : j < (l.set j 0).length := by rw [List.length_set]; exact h
 have e0 : (l.set j 0)[j] = 0 := List.getElem_set_self ..
 have e1 := wval_set (l.set j 0) j hm l[j]
 have e2 := wval_set (l.set j 0) j hm d
 rw [e0, Nat.zero_add, List.set_set] at e1 e2
 rw [List.set_getElem_self] at e1
 omega
theorem wval_take_wrd (n i : Nat) (h : i < (wrds n).length) : wval ((wrds n).take (i + 1)) = wval ((wrds n).take i) + 4294967296 ^ i * wrd n i := by
 rw [wval_take_succ _ _ h, wrd, List.getElem?_eq_getElem h]; rfl
def MulR (w : World) (a b N i : Nat) (l : List Nat) (wr : World) : Prop :=
 i ≤ (wrds a).length ∧ l.length = N ∧ Wrds l ∧ wval l = wval ((wrds a).take i) * b ∧ (∀ k, i + (wrds b).length ≤ k → (l[k]?).getD 0 = 0) ∧ Row wr w.heap.size (wrow l) 104 ∧ Below w.heap.size w wr
def InR (w : World) (a b N i j c : Nat) (l : List Nat) (wr : World) : Prop :=
 j ≤ (wrds b).length ∧ c < 4294967296 ∧ l.length = N ∧ Wrds l ∧ wval l + 4294967296 ^ (i + j) * c = wval ((wrds a).take i) * b + 4294967296 ^ i * (wrd a i * wval ((wrds b).take j)) ∧ (∀ k, i + (wrds b).length ≤ k → (l[k]?).getD 0 = 0) ∧ Row wr w.heap.size (wrow l) 104 ∧ Below w.heap.size w wr
theorem MulR.inner {w wr : World} {a b N i : Nat} {l : List Nat} (h : MulR w a b N i l wr) : InR w a b N i 0 0 l wr :=
 ⟨Nat.zero_le _, by decide, h.2.1, h.2.2.1, by rw [h.2.2.2.1]; simp [wval], h.2.2.2.2⟩
theorem InR.next {w wr : World} {a b N i j c : Nat} {l : List Nat} (h : InR w a b N i j c l wr) (hN : N = (wrds a).length + (wrds b).length) (hi : i < (wrds a).length) (hj : j < (wrds b).length) (t : Nat) (ht : t = c + (wrd a i * wrd b j + (l[i + j]?).getD 0)) :
   InR w a b N i (j + 1) (t / 4294967296) (l.set (i + j) (t % 4294967296)) (wr.setCell ⟨w.heap.size, i + j, none⟩ (.int .u32 ((t % 4294967296 : Nat) : Int))) := by
 obtain ⟨h1, h2, h3, h4, h5, h6, h7, h8⟩ := h
 have hl : i + j < l.length := by omega
 have x1 := wrd_lt a i
 have x2 := wrd_lt b j
 have x3 := h4.at (i + j) hl
 have e0 : (l[i + j]?).getD 0 = l[i + j] := by rw [List.getElem?_eq_getElem hl]; rfl
 rw [e0] at ht
 have hp := wval_put l (i + j) hl (t % 4294967296)
 have hm : wrd a i * wrd b j ≤ 4294967295 * 4294967295 := Nat.mul_le_mul (by omega) (by omega)
 refine ⟨by omega, by omega, by rw [List.length_set]; exact h3, h4.set _ (Nat.mod_lt _ (by decide)), ?_, ?_, h7.wput _ _, h8.setCell (Nat.le_refl _) _⟩
 · rw [wval_take_wrd b j hj, ← Nat.add_assoc, Nat.pow_succ]
   have k2 : 4294967296 ^ (i + j) = 4294967296 ^ i * 4294967296 ^ j := Nat.pow_add _ _ _
   have k3 : 4294967296 ^ i * (wrd a i * (wval ((wrds b).take j) + 4294967296 ^ j * wrd b j)) = 4294967296 ^ i * (wrd a i * wval ((wrds b).take j)) + 4294967296 ^ (i + j) * (wrd a i * wrd b j) := by
     rw [k2, Nat.mul_add, Nat.mul_add, Nat.mul_assoc (4294967296 ^ i), Nat.mul_left_comm (wrd a i)]
   rw [k3, ← Nat.add_assoc, ← h5]
   generalize 4294967296 ^ (i + j) = P at hp ⊢
   have k4 : P * (t % 4294967296) + P * 4294967296 * (t / 4294967296) = P * c + P * (wrd a i * wrd b j) + P * l[i + j] := by
     rw [Nat.mul_assoc, ← Nat.mul_add, ← Nat.mul_add, ← Nat.mul_add, Nat.mod_add_div, ht]
     congr 1; omega
   omega
 · intro k hk
   rw [List.getElem?_set_ne (by omega)]
   exact h6 k hk
theorem InR.outer {w wr : World} {a b N i c : Nat} {l : List Nat} (h : InR w a b N i (wrds b).length c l wr) (hN : N = (wrds a).length + (wrds b).length) (hi : i < (wrds a).length) :
   MulR w a b N (i + 1) (l.set (i + (wrds b).length) c) (wr.setCell ⟨w.heap.size, i + (wrds b).length, none⟩ (.int .u32 (c : Int))) := by
 obtain ⟨_, h2, h3, h4, h5, h6, h7, h8⟩ := h
 have hl : i + (wrds b).length < l.length := by omega
 have hz := h6 (i + (wrds b).length) (Nat.le_refl _)
 rw [List.getElem?_eq_getElem hl] at hz
 have hz' : l[i + (wrds b).length] = 0 := hz
 have hp := wval_put l _ hl c
 rw [hz', Nat.mul_zero, Nat.add_zero] at hp
 refine ⟨by omega, by rw [List.length_set]; exact h3, h4.set _ h2, ?_, ?_, h7.wput _ _, h8.setCell (Nat.le_refl _) _⟩
 · rw [hp, h5, List.take_length, wval_digs, wval_take_wrd a i hi, Nat.add_mul, Nat.mul_assoc]
 · intro k hk
   rw [List.getElem?_set_ne (by omega)]
   exact h6 k (by omega)
set_option maxHeartbeats 4000000 in
set_option maxRecDepth 100000 in
theorem product_d {B C a b : Nat} {va vb : Value} {w : World} (hA : WArg B w va a) (hB : WArg C w vb b) (la : (wrds a).length ≤ 10000) (lb : (wrds b).length ≤ 10000) :
   Calls Tryz.prog 61 #[va, vb] w (GivesW w (a * b)) := by
 obtain ⟨pa, ka, rfl⟩ := hA.slice
 obtain ⟨pb, kb, rfl⟩ := hB.slice
 have HA := Lib.hid hA
 have HB := Lib.hid hB
 clear hA hB
 obtain ⟨N, hN⟩ : ∃ N, N = (wrds a).length + (wrds b).length := ⟨_, rfl⟩
 have hmk := run_make_row' 39 104 (.int .u32 0) 4 Tryz.underlying39 Tryz.infoWord rfl .i64 .i64 N (by omega) (by omega)
 have R0 := Lib.hid (Row.new w (madeCells #[Value.int .u32 0] N) 104)
 rw [wmade] at R0 hmk
 have HN := Lib.hid hN
 have hN2 : N ≤ 20000 := by omega
 have hN3 : ((wrds a).length : Int) + ((wrds b).length : Int) = N := by omega
 have hwn : IntKind.i64.wrap (((wrds a).length : Int) + ((wrds b).length : Int)) = N := by rw [hN3]; exact IntWalk.i64_in _ (by omega)
 have hz0 : Hid (∀ k, (((List.replicate N 0)[k]?).getD 0) = 0) := Lib.hid fun k => by
   rw [List.getElem?_replicate]; split <;> rfl
 clear hN
 go_enter Tryz.func61, Tryz.ntmps61
 go_wp2
 go_loopw [19] (fun i wr => ∃ (k : Nat) (l : List Nat), i = .int .i64 (k : Int) ∧ MulR w a b N k l wr) (fun i _ => (wrds a).length - (intOf i).toNat)
 case atStart => exact ⟨0, List.replicate N 0, rfl, Nat.zero_le _, by simp, by intro d hd; rw [List.mem_replicate] at hd; omega, by rw [wval_zeros _ (by intro d hd; exact (List.mem_replicate.1 hd).2)]; simp [wval], fun k _ => hz0.out k, R0.out, (Below.refl _ w).alloc (Nat.le_refl _) _⟩
 case round =>
   obtain ⟨i, l, rfl, hR⟩ := hrel
   have hB := hR.2.2.2.2.2.2
   by_cases h1 : i < (wrds a).length
   · obtain ⟨ba, rfl, hba, hcA⟩ := (HA.out.keep hB (Nat.le_refl _)).at h1
     have IN := Lib.hid hR.inner
     have i1 : (i : Int) < (wrds a).length := by omega
     clear hR hB hmk R0 hz0
     go_wp2
     go_loopw [8, 26] (fun c j wr2 => ∃ (jj cc : Nat) (l2 : List Nat), j = .int .i64 (jj : Int) ∧ c = .int .u64 (cc : Int) ∧ InR w a b N i jj cc l2 wr2) (fun _ j _ => (wrds b).length - (intOf j).toNat)
     case atStart => exact ⟨0, 0, l, rfl, rfl, IN.out⟩
     case round =>
       clear IN hcA
       obtain ⟨j, c, l2, rfl, rfl, hI⟩ := hrel
       have hB := hI.2.2.2.2.2.2.2
       have hrow := hI.2.2.2.2.2.2.1
       have hl2 := hI.2.2.1
       have hd2 := hI.2.2.2.1
       have hc := hI.2.1
       have hjl := hI.1
       by_cases h2 : j < (wrds b).length
       · obtain ⟨bb, rfl, hbb, hcB⟩ := (HB.out.keep hB (Nat.le_refl _)).at h2
         have j1 : (j : Int) < (wrds b).length := by omega
         obtain ⟨q, hq⟩ : ∃ q, i + j = q := ⟨_, rfl⟩
         obtain ⟨m, hm⟩ : ∃ m, wrd a i * wrd b j = m := ⟨_, rfl⟩
         have hql : q < l2.length := by have := HN.out; omega
         have hqN : q < N := by omega
         obtain ⟨o, ho⟩ : ∃ o, l2[q] = o := ⟨_, rfl⟩
         have hoW : o < 4294967296 := by rw [← ho]; exact hd2.at q hql
         have hmW : m ≤ 4294967295 * 4294967295 := by
           rw [← hm]; exact Nat.mul_le_mul (by have := wrd_lt a i; omega) (by have := wrd_lt b j; omega)
         have NX := hI.next HN.out h1 h2 (c + (m + o)) (by rw [hm, hq, List.getElem?_eq_getElem hql, ho]; rfl)
         rw [hq] at NX
         have hcO : wr.cell? ⟨w.heap.size, q, none⟩ = some (.int .u32 (o : Int)) := by rw [← ho]; exact hrow.wat hql
         have hfO := hrow.free q
         have hwi : IntKind.i64.wrap ((i : Int) + (j : Int)) = (q : Int) := by rw [show (i : Int) + (j : Int) = q by omega]; exact IntWalk.i64_in _ (by omega)
         have hw1 : IntKind.u64.wrap ((wrd a i : Int) * (wrd b j : Int)) = (m : Int) := by
           rw [show (wrd a i : Int) * (wrd b j : Int) = m by rw [← hm, Int.natCast_mul]]; exact IntWalk.u64_in _ (by omega)
         have hw2 : IntKind.u64.wrap ((m : Int) + (o : Int)) = (m : Int) + (o : Int) := IntWalk.u64_in _ (by omega)
         have hw3 : IntKind.u64.wrap ((c : Int) + ((m : Int) + (o : Int))) = (c : Int) + ((m : Int) + (o : Int)) := IntWalk.u64_in _ (by omega)
         have x1 := wrd_lt a i
         have x2 := wrd_lt b j
         have k1 : (q : Int) < N := by omega
         have HE : Hid (((c : Int) + ((m : Int) + (o : Int))) % 4294967296 = (((c + (m + o)) % 4294967296 : Nat) : Int)) := Lib.hid (by omega)
         have HF : Hid (((c : Int) + ((m : Int) + (o : Int))) / 4294967296 = (((c + (m + o)) / 4294967296 : Nat) : Int)) := Lib.hid (by omega)
         have NXh := Lib.hid NX
         clear NX hI hB hrow hq hm ho hd2
         go_wp2
         case roundEnd =>
           rw [HE.out, HF.out]
           exact ⟨⟨j + 1, _, _, rfl, rfl, NXh.out⟩, by simp [intOf]; omega⟩
       · have hje : j = (wrds b).length := by omega
         obtain ⟨q, hq⟩ : ∃ q, i + (wrds b).length = q := ⟨_, rfl⟩
         rw [hje] at hI
         have OU := hI.outer HN.out h1
         rw [hq] at OU
         have hql : q < l2.length := by have := HN.out; omega
         have hcO := hrow.wat hql
         have hfO := hrow.free q
         have hwi : IntKind.i64.wrap ((i : Int) + ((wrds b).length : Int)) = (q : Int) := by rw [show (i : Int) + ((wrds b).length : Int) = q by omega]; exact IntWalk.i64_in _ (by omega)
         have k1 : (q : Int) < N := by omega
         have hcm : (c : Int) % 4294967296 = c := by omega
         have OUh := Lib.hid OU
         clear OU hI hB hrow hq hd2
         go_wp2
         case roundEnd => exact ⟨⟨i + 1, _, rfl, OUh.out⟩, by simp [intOf]; omega⟩
   · have hie : i = (wrds a).length := by have := hR.1; omega
     obtain ⟨_, hl, hd, hv, _, hrow, _⟩ := hR
     rw [hie, List.take_length, wval_digs] at hv
     have HV := Lib.hid hv
     have HT := Lib.hid (trim_row (cap := N) hrow hd (by omega) (by omega))
     have HW := Lib.hid (WArg.of_row (B := w.heap.size) (cap := N) hrow (Nat.le_refl _) hd (by omega))
     rw [hl] at HT
     rw [HV.out] at HW HT
     have HB2 := Lib.hid hB
     clear hB hrow hd hv hmk R0
     go_wp2_with (go_at_call 115; refine HT.out.mono ?_; rintro e w2 ⟨rfl, rfl⟩)
     go_ret
     exact ⟨_, rfl, HW.out, HB2.out⟩
end Go.Proofs.YtpdoddhieblooaaGreatDoor
namespace Go.Proofs.YtpdoddhieblooaaGreatDoor
open Go.RowKit

theorem wpow_le (a b : Nat) (h : a ≤ b) : 4294967296 ^ a ≤ 4294967296 ^ b := Nat.pow_le_pow_right (by decide) h
theorem wrds_len {n k : Nat} (h : n < 4294967296 ^ k) : (wrds n).length ≤ k := wrds_length n k h
set_option maxHeartbeats 1000000 in
theorem magnitude_d (x : Int) (w : World) (h1 : -9223372036854775807 ≤ x) (h2 : x ≤ 9223372036854775807) :
   Calls Tryz.prog 127 #[.int .i64 x] w (GivesW w x.natAbs) := by
 by_cases h : x < 0
 · obtain ⟨n, hn⟩ := Int.eq_ofNat_of_zero_le (show 0 ≤ -x by omega)
   have hx : x = -(n : Int) := by omega
   subst hx
   have e : (-(n : Int)).natAbs = n := by omega
   rw [e]
   have hw : IntKind.i64.wrap (- -(n : Int)) = n := by rw [Int.neg_neg]; exact IntWalk.i64_in _ (by omega)
   have hm : max (-(n : Int)) (n : Int) = n := by omega
   have hl : -(n : Int) < (n : Int) := by omega
   have HN : Hid (∀ W, Calls Tryz.prog 64 #[.int .i64 (n : Int)] W (GivesW W n)) := Lib.hid fun W => natural_d n W (by omega)
   clear e hn
   go_enter Tryz.func127, Tryz.ntmps127
   go_wp2_with (go_at_call 64; refine (HN.out _).mono ?_; rintro e w2 ⟨v2, rfl, W2, hb2⟩)
   go_ret
   exact ⟨_, rfl, W2, hb2⟩
 · obtain ⟨n, rfl⟩ := Int.eq_ofNat_of_zero_le (show 0 ≤ x by omega)
   have e : ((n : Int)).natAbs = n := by omega
   rw [e]
   have hw : IntKind.i64.wrap (-(n : Int)) = -(n : Int) := IntWalk.i64_in _ (by omega)
   have hm : max (n : Int) (-(n : Int)) = n := by omega
   have hl : ¬ (n : Int) < -(n : Int) := by omega
   have hl2 : -(n : Int) ≤ (n : Int) := by omega
   have HN : Hid (∀ W, Calls Tryz.prog 64 #[.int .i64 (n : Int)] W (GivesW W n)) := Lib.hid fun W => natural_d n W (by omega)
   clear e
   go_enter Tryz.func127, Tryz.ntmps127
   go_wp2_with (go_at_call 64; refine (HN.out _).mono ?_; rintro e w2 ⟨v2, rfl, W2, hb2⟩)
   go_ret
   exact ⟨_, rfl, W2, hb2⟩
theorem odd_of {m : Nat} (hm : m < 9223372036854775808) {b : Bool} (h : (bits BinOp.and IntKind.i64 (m : Int) 1 == 1) = b) : (m % 2 = 1) ↔ b = true := by
 rw [Go.Proofs.and_one m hm] at h
 rw [← h, beq_iff_eq]; omega
theorem pow_half (y m : Nat) : y ^ m = (y * y) ^ (m / 2) * y ^ (m % 2) := by
 rw [← Nat.pow_two, ← Nat.pow_mul, ← Nat.pow_add, Nat.div_add_mod]
theorem pow_odd {x y m T : Nat} (h : x * y ^ m = T) (ho : m % 2 = 1) : x * y * (y * y) ^ (m / 2) = T := by
 rw [← h, pow_half y m, ho, Nat.pow_one, Nat.mul_comm ((y * y) ^ (m / 2)), Nat.mul_assoc]
theorem pow_even {x y m T : Nat} (h : x * y ^ m = T) (ho : ¬ m % 2 = 1) : x * (y * y) ^ (m / 2) = T := by
 rw [← h, pow_half y m, show m % 2 = 0 by omega, Nat.pow_zero, Nat.mul_one]
theorem pow_le {x z k T : Nat} (h : x * z ^ k = T) (hx : 1 ≤ x) (hz : 1 ≤ z) (hk : 1 ≤ k) : z ≤ T := by
 have h1 : z ^ 1 ≤ z ^ k := Nat.pow_le_pow_right hz hk
 rw [Nat.pow_one] at h1
 have h2 : 1 * z ^ k ≤ x * z ^ k := Nat.mul_le_mul_right _ hx
 omega
theorem pow_fst {x z k T : Nat} (h : x * z ^ k = T) (hz : 1 ≤ z) : x ≤ T := by
 have h1 : x * 1 ≤ x * z ^ k := Nat.mul_le_mul_left _ (Nat.one_le_pow _ _ hz)
 omega
def PowR (w : World) (T Lim : Nat) (m x y : Nat) (v u : Value) (wr : World) : Prop :=
 x * y ^ m = T ∧ 1 ≤ x ∧ 1 ≤ y ∧ x ≤ Lim ∧ y ≤ Lim ∧ WArg w.heap.size wr v x ∧ WArg w.heap.size wr u y ∧ Below w.heap.size w wr
set_option maxHeartbeats 1000000 in
set_option maxRecDepth 100000 in
theorem power_d (base n : Nat) (w : World) (hb0 : 1 ≤ base) (hb : base < 9223372036854775808) (hn : n < 9223372036854775808) (hT : base ^ n < 4294967296 ^ 10000) :
   Calls Tryz.prog 122 #[.int .i64 (base : Int), .int .i64 (n : Int)] w (GivesW w (base ^ n)) := by
 have H1 : Hid (∀ W, Calls Tryz.prog 64 #[.int .i64 1] W (GivesW W 1)) := Lib.hid fun W => natural_d 1 W (by decide)
 have H2 : Hid (∀ W, Calls Tryz.prog 64 #[.int .i64 (base : Int)] W (GivesW W base)) := Lib.hid fun W => natural_d base W hb
 go_enter Tryz.func122, Tryz.ntmps122
 go_wp2_with (go_at_call 64; first
   | ((with_reducible refine (H1.out _).mono ?_); rintro e w1 ⟨v1, rfl, W1, hb1⟩; obtain ⟨p1, k1, rfl⟩ := W1.slice)
   | ((with_reducible refine (H2.out _).mono ?_); rintro e w2 ⟨v2, rfl, W2, hb2⟩; obtain ⟨p2, k2, rfl⟩ := W2.slice))
 have B2 := bl_then hb1 hb2
 have HR0 : Hid (PowR w (base ^ n) (max (base ^ n) base) n 1 base (.slice p1 (wrds 1).length k1) (.slice p2 (wrds base).length k2) w2) := Lib.hid ⟨by rw [Nat.one_mul], Nat.le_refl _, hb0, Nat.le_trans hb0 (Nat.le_max_right _ _), Nat.le_max_right _ _, W1.keep hb2 (Nat.le_refl _), W2.base hb1.size, B2⟩
 have HL : Hid (∀ z, z ≤ max (base ^ n) base → (wrds z).length ≤ 10000) := by
   show ∀ _, _
   intro z hz
   apply wrds_len
   have h2 := wpow_le 2 10000 (by decide)
   have h3 : base < 4294967296 ^ 2 := Nat.lt_trans hb (by decide)
   rcases Nat.le_total (base ^ n) base with h | h
   · rw [Nat.max_eq_right h] at hz; exact Nat.lt_of_le_of_lt hz (Nat.lt_of_lt_of_le h3 h2)
   · rw [Nat.max_eq_left h] at hz; exact Nat.lt_of_le_of_lt hz hT
 have HTL : Hid (base ^ n ≤ max (base ^ n) base) := Lib.hid (Nat.le_max_left _ _)
 clear hT hb hb0 H1 H2
 generalize base ^ n = T at *
 generalize max T base = Lim at *
 clear hb1 hb2 W1 W2 B2
 go_loopw [1, 5, 6] (fun i v u wr => ∃ (m x y : Nat), i = .int .i64 (m : Int) ∧ m ≤ n ∧ PowR w T Lim m x y v u wr) (fun i _ _ _ => (intOf i).toNat)
 case atStart => exact ⟨n, 1, base, rfl, Nat.le_refl _, HR0.out⟩
 case round =>
   obtain ⟨m, x, y, rfl, hm, hR⟩ := hrel
   by_cases h0 : 0 < m
   · have i1 : (0 : Int) < m := by omega
     obtain ⟨e1, e2, e3, e4, e5, e6, e7, e8⟩ := hR
     have E6 := Lib.hid e6; have E7 := Lib.hid e7; have E8 := Lib.hid e8
     clear e6 e7 e8
     go_wp2_with (go_at_call 61; first
       | ((with_reducible refine (product_d E6.out E7.out (HL.out _ e4) (HL.out _ e5)).mono ?_); rintro e w3 ⟨v3, rfl, W3, hb3⟩)
       | ((with_reducible refine (product_d (E7.out.keep hb3 (Nat.le_refl _)) (E7.out.keep hb3 (Nat.le_refl _)) (HL.out _ e5) (HL.out _ e5)).mono ?_); rintro e w4 ⟨v4, rfl, W4, hb4⟩)
       | ((with_reducible refine (product_d E7.out E7.out (HL.out _ e5) (HL.out _ e5)).mono ?_); rintro e w4 ⟨v4, rfl, W4, hb4⟩))
     · have ho := (odd_of (by omega) (by assumption : (bits BinOp.and IntKind.i64 (m : Int) 1 == 1) = true)).2 rfl
       have hp := pow_odd e1 ho
       have hxy : 1 ≤ x * y := Nat.mul_le_mul e2 e3
       have hyy : 1 ≤ y * y := Nat.mul_le_mul e3 e3
       have hm2 : 1 < m := by omega
       exact ⟨⟨m / 2, x * y, y * y, by rw [show ((m / 2 : Nat) : Int) = (m : Int) / 2 by omega], by omega, hp, hxy, hyy, Nat.le_trans (pow_fst hp hyy) HTL.out, Nat.le_trans (pow_le hp hxy hyy (by omega)) HTL.out, (W3.base E8.out.size).keep hb4 (Nat.le_refl _), W4.base (Nat.le_trans E8.out.size hb3.size), bl_then (bl_then E8.out hb3) hb4⟩, by simp [intOf]; omega⟩
     · have ho := (odd_of (by omega) (by assumption : (bits BinOp.and IntKind.i64 (m : Int) 1 == 1) = true)).2 rfl
       have hp := pow_odd e1 ho
       have hxy : 1 ≤ x * y := Nat.mul_le_mul e2 e3
       have hm1 : m = 1 := by omega
       subst hm1
       exact ⟨⟨0, x * y, y, rfl, by omega, by simpa using hp, hxy, e3, by rw [show x * y = T by simpa using hp]; exact HTL.out, e5, W3.base E8.out.size, E7.out.keep hb3 (Nat.le_refl _), bl_then E8.out hb3⟩, by simp [intOf]⟩
     · have ho : ¬ m % 2 = 1 := fun h => by have := (odd_of (by omega) (by assumption : (bits BinOp.and IntKind.i64 (m : Int) 1 == 1) = false)).1 h; cases this
       have hp := pow_even e1 ho
       have hyy : 1 ≤ y * y := Nat.mul_le_mul e3 e3
       have hm2 : 1 < m := by omega
       exact ⟨⟨m / 2, x, y * y, by rw [show ((m / 2 : Nat) : Int) = (m : Int) / 2 by omega], by omega, hp, e2, hyy, e4, Nat.le_trans (pow_le hp e2 hyy (by omega)) HTL.out, E6.out.keep hb4 (Nat.le_refl _), W4.base E8.out.size, bl_then E8.out hb4⟩, by simp [intOf]; omega⟩
     · exfalso
       have ho : ¬ m % 2 = 1 := fun h => by have := (odd_of (by omega) (by assumption : (bits BinOp.and IntKind.i64 (m : Int) 1 == 1) = false)).1 h; cases this
       omega
   · obtain rfl : m = 0 := by omega
     obtain ⟨e1, e2, e3, e4, e5, e6, e7, e8⟩ := hR
     obtain rfl : x = T := by simpa using e1
     have E6 := Lib.hid e6; have E8 := Lib.hid e8
     clear e6 e7 e8 e1
     go_wp2
     go_ret
     exact ⟨_, rfl, E6.out, E8.out⟩
end Go.Proofs.YtpdoddhieblooaaGreatDoor
namespace Go.Proofs.YtpdoddhieblooaaGreatDoor
open Go.RowKit

theorem wrds_nil {n : Nat} : (wrds n).length = 0 ↔ n = 0 := by
 constructor
 · intro h
   have := List.length_eq_zero_iff.1 h
   rw [← wval_digs n, this]; rfl
 · rintro rfl; rw [wrds_zero]; rfl
theorem isZero_d {B n : Nat} {v : Value} {w : World} (hA : WArg B w v n) (_la : (wrds n).length ≤ 1000000) :
   Calls Tryz.prog 49 #[v] w fun e w' => e = .returned (.bool (decide (n = 0))) ∧ w = w' := by
 obtain ⟨pa, ka, rfl⟩ := hA.slice
 have HE : Hid ((((wrds n).length : Int) == 0) = decide (n = 0)) := by
   show _ = _
   by_cases h : n = 0
   · have := wrds_nil.2 h
     rw [this, decide_eq_true h]; rfl
   · have : (wrds n).length ≠ 0 := fun e => h (wrds_nil.1 e)
     rw [decide_eq_false h, beq_eq_false_iff_ne]; omega
 clear hA
 generalize (wrds n).length = L at *
 go_enter Tryz.func49, Tryz.ntmps49
 go_wp2
 go_ret
 exact ⟨by rw [← HE.out]; first | rfl | simp, rfl⟩
abbrev lgC (v : Value) (b : Bool) : Array Value := #[v, .bool b]
theorem Row.lg {w : World} {b : Nat} {a0 a1 : Value} {t : TypeId} (h : Row w b #[a0, a1] t) : w.cell? ⟨b, 0, none⟩ = some a0 ∧ w.cell? ⟨b, 1, none⟩ = some a1 := ⟨h.at 0, h.at 1⟩
set_option maxRecDepth 100000 in
set_option maxHeartbeats 1000000 in
theorem signed_d {B n : Nat} {v : Value} {w : World} (hA : WArg B w v n) (la : (wrds n).length ≤ 1000000) (neg : Bool) :
   Calls Tryz.prog 62 #[v, .bool neg] w fun e w' => e = .returned (.agg #[v, .bool (neg && !decide (n = 0))]) ∧ Below w.heap.size w w' := by
 have RZ := Row.new w (lgC (.slice none 0 0) false) 41
 obtain ⟨z0, z1⟩ := RZ.lg
 have f0 := RZ.free 0
 have f1 := RZ.free 1
 have HA := Lib.hid hA
 have HZ : Hid (∀ W, Below w.heap.size w W → Calls Tryz.prog 49 #[v] W fun e w' => e = .returned (.bool (decide (n = 0))) ∧ W = w') := by
   show ∀ _, _
   exact fun W hW => isZero_d (HA.out.keep hW (Nat.le_refl _)) la
 obtain ⟨pa, ka, rfl⟩ := hA.slice
 generalize decide (n = 0) = d at *
 clear hA HA
 cases neg
 · go_enter Tryz.func62, Tryz.ntmps62
   go_wp2_with (go_at_call 49; refine (HZ.out _ (by go_grown)).mono ?_; rintro e w2 ⟨rfl, rfl⟩)
   refine bodyPost_ret (v := .agg #[.slice pa (wrds n).length ka, .bool false]) (by simp [results, Tryz.results62, go_sem]) rfl ⟨rfl, ?_⟩
   (repeat refine Below.setCell ?_ (by simp <;> omega) _)
   exact (Below.refl _ w).alloc (Nat.le_refl _) _
 · cases d
   all_goals
     go_enter Tryz.func62, Tryz.ntmps62
     go_wp2_with (go_at_call 49; refine (HZ.out _ (by go_grown)).mono ?_; rintro e w2 ⟨rfl, rfl⟩)
   · refine bodyPost_ret (v := .agg #[.slice pa (wrds n).length ka, .bool true]) (by simp [results, Tryz.results62, go_sem]) rfl ⟨rfl, ?_⟩
     (repeat refine Below.setCell ?_ (by simp <;> omega) _)
     exact (Below.refl _ w).alloc (Nat.le_refl _) _
   · refine bodyPost_ret (v := .agg #[.slice pa (wrds n).length ka, .bool false]) (by simp [results, Tryz.results62, go_sem]) rfl ⟨rfl, ?_⟩
     (repeat refine Below.setCell ?_ (by simp <;> omega) _)
     exact (Below.refl _ w).alloc (Nat.le_refl _) _
def LArg (B : Nat) (w : World) (v : Value) (z : Int) : Prop := ∃ sl, v = .agg #[sl, .bool (decide (z < 0))] ∧ WArg B w sl z.natAbs
theorem LArg.keep {B C : Nat} {w w' : World} {v : Value} {z : Int} (h : LArg B w v z) (hb : Below C w w') (hC : w.heap.size ≤ C) : LArg B w' v z := by
 obtain ⟨sl, e, hw⟩ := h; exact ⟨sl, e, hw.keep hb hC⟩
theorem LArg.base {B B' : Nat} {w : World} {v : Value} {z : Int} (h : LArg B w v z) (hB : B' ≤ B) : LArg B' w v z := by
 obtain ⟨sl, e, hw⟩ := h; exact ⟨sl, e, hw.base hB⟩
def GivesL (w : World) (z : Int) (e : Ending) (w' : World) : Prop := ∃ v, e = .returned v ∧ LArg w.heap.size w' v z ∧ Below w.heap.size w w'
theorem signed_l {B n : Nat} {v : Value} {w : World} (hA : WArg B w v n) (la : (wrds n).length ≤ 1000000) (neg : Bool) :
   Calls Tryz.prog 62 #[v, .bool neg] w fun e w' => ∃ u, e = .returned u ∧ LArg B w' u (if neg then -(n : Int) else n) ∧ Below w.heap.size w w' :=
 (signed_d hA la neg).mono fun e w' ⟨he, hb⟩ => by
   have hd : (neg && !decide (n = 0)) = decide ((if neg then -(n : Int) else n) < 0) := by
     cases neg
     · rw [Bool.false_and, if_neg (by decide), decide_eq_false (by omega)]
     · by_cases h : n = 0
       · subst h; rfl
       · rw [if_pos rfl, decide_eq_true (show -(n : Int) < 0 by omega), decide_eq_false h]; rfl
   rw [hd] at he
   have hn : (if neg then -(n : Int) else n).natAbs = n := by
     cases neg
     · rw [if_neg (by decide)]; omega
     · rw [if_pos rfl]; omega
   exact ⟨_, he, ⟨v, rfl, by rw [hn]; exact hA.keep hb (Nat.le_refl _)⟩, hb⟩
theorem signed_z {B : Nat} {v : Value} {w : World} {z : Int} {b : Bool} (hA : WArg B w v z.natAbs) (la : (wrds z.natAbs).length ≤ 1000000) (hb : z ≠ 0 → b = decide (z < 0)) :
   Calls Tryz.prog 62 #[v, .bool b] w fun e w' => ∃ u, e = .returned u ∧ LArg B w' u z ∧ Below w.heap.size w w' :=
 (signed_l hA la b).mono fun e w' ⟨u, he, hL, hB⟩ => by
   refine ⟨u, he, ?_, hB⟩
   have : (if b then -(z.natAbs : Int) else z.natAbs) = z := by
     by_cases h0 : z = 0
     · subst h0; cases b <;> rfl
     · rw [hb h0]
       by_cases h : z < 0
       · rw [decide_eq_true h, if_pos rfl]; omega
       · rw [decide_eq_false h, if_neg (by decide)]; omega
   rwa [this] at hL
theorem LArg.open {B : Nat} {w : World} {v : Value} {z : Int} (h : LArg B w v z) : ∃ p cap, v = .agg #[.slice p (wrds z.natAbs).length cap, .bool (decide (z < 0))] := by
 obtain ⟨sl, e, hw⟩ := h
 obtain ⟨p, cap, rfl⟩ := hw.slice
 exact ⟨p, cap, e⟩
theorem LArg.put {B : Nat} {w : World} {v : Value} {z : Int} (h : LArg B w v z) (a : Addr) (x : Value) (ha : a.block < B) : LArg B (w.setCell a x) v z := by
 obtain ⟨sl, e, hw⟩ := h; exact ⟨sl, e, hw.setCell a ha⟩
set_option maxRecDepth 100000 in
set_option maxHeartbeats 1000000 in
theorem longOf_l (z : Int) (w : World) (h1 : -9223372036854775807 ≤ z) (h2 : z ≤ 9223372036854775807) :
   Calls Tryz.prog 121 #[.int .i64 z] w (GivesL w z) := by
 have RZ := Row.new w (lgC (.slice none 0 0) false) 41
 have LA : Hid ((wrds z.natAbs).length ≤ 1000000) := Lib.hid (Nat.le_trans (wrds_length z.natAbs 2 (by omega)) (by decide))
 have HM : Hid (∀ W, Calls Tryz.prog 127 #[.int .i64 z] W (GivesW W z.natAbs)) := Lib.hid fun W => magnitude_d z W h1 h2
 obtain ⟨d, hd⟩ : ∃ d, decide (z < 0) = d := ⟨_, rfl⟩
 have HD := Lib.hid hd
 go_enter Tryz.func121, Tryz.ntmps121
 go_wp2_with (first
   | (go_at_call 127; refine (HM.out _).mono ?_; rintro e w2 ⟨v2, rfl, W2, hb2⟩; have Z2 := RZ.keep hb2)
   | (go_at_call 62; refine (signed_z W2 LA.out (fun _ => HD.out.symm)).mono ?_; rintro e w3 ⟨u, rfl, L3, hb3⟩; have L3' := Lib.hid L3; have Z3 := Z2.keep hb3; obtain ⟨p, cap, rfl⟩ := L3.open; clear L3; obtain ⟨z0, z1⟩ := Z3.lg; have f0 := Z3.free 0; have f1 := Z3.free 1; have B3 := Lib.hid (bl_box (Below.refl _ w) (bl_then hb2 hb3)); have hs2 := hb2.size; clear hb2 hb3))
 refine bodyPost_ret (v := .agg #[.slice p (wrds z.natAbs).length cap, .bool d]) (by simp [results, Tryz.results121, go_sem, z0, z1]) rfl ⟨_, rfl, ?_, ?_⟩
 · rw [← hd]
   have hs : w.heap.size + 1 ≤ (w.alloc (.cells (lgC (.slice none 0 0) false) 41)).heap.size := by simp
   exact ((((L3'.out.base hs).put _ _ (by simp)).put _ _ (by simp)).base (by omega))
 · (repeat refine Below.setCell ?_ (by simp <;> omega) _)
   exact B3.out
end Go.Proofs.YtpdoddhieblooaaGreatDoor
namespace Go.Proofs.YtpdoddhieblooaaGreatDoor
open Go.RowKit

theorem wrds_mul_len (a b : Nat) : (wrds (a * b)).length ≤ (wrds a).length + (wrds b).length := by
 apply wrds_len
 have ha := wval_lt (wrds a) (wrds_digs a)
 have hb := wval_lt (wrds b) (wrds_digs b)
 rw [wval_digs] at ha hb
 rw [Nat.pow_add]
 exact Nat.mul_lt_mul'' ha hb
theorem LArg.arg {B : Nat} {w : World} {sl : Value} {b : Bool} {z : Int} (h : LArg B w (.agg #[sl, .bool b]) z) : WArg B w sl z.natAbs := by
 obtain ⟨sl', e, hw⟩ := h
 cases e
 exact hw
theorem scale_sign {z : Int} {u : Nat} (h : z * u ≠ 0) : decide (z < 0) = decide (z * u < 0) := by
 have hu : 0 < (u : Int) := by
   rcases Nat.eq_zero_or_pos u with rfl | hu
   · exact absurd (by simp) h
   · omega
 by_cases hz : z < 0
 · rw [decide_eq_true hz, decide_eq_true (Int.mul_neg_of_neg_of_pos hz hu)]
 · rw [decide_eq_false hz, decide_eq_false (by have := Int.mul_nonneg (show 0 ≤ z by omega) (Int.le_of_lt hu); omega)]
set_option maxRecDepth 100000 in
set_option maxHeartbeats 2000000 in
theorem scaled_l {B C : Nat} {z : Int} {u : Nat} {va vu : Value} {w : World} (hA : LArg B w va z) (hU : WArg C w vu u) (la : (wrds z.natAbs).length ≤ 10000) (lu : (wrds u).length ≤ 10000) :
   Calls Tryz.prog 60 #[va, vu] w (GivesL w (z * u)) := by
 obtain ⟨pa, ka, rfl⟩ := hA.open
 obtain ⟨pu, ku, rfl⟩ := hU.slice
 have HA := Lib.hid hA.arg
 have HU := Lib.hid hU
 have LA : Hid ((wrds (z * u).natAbs).length ≤ 1000000) := Lib.hid (by rw [Int.natAbs_mul, Int.natAbs_natCast]; have := wrds_mul_len z.natAbs u; omega)
 have HS : Hid (z * u ≠ 0 → decide (z < 0) = decide (z * u < 0)) := by show _ → _; exact scale_sign
 have HM : Hid ((z * u).natAbs = z.natAbs * u) := Lib.hid (by rw [Int.natAbs_mul, Int.natAbs_natCast])
 obtain ⟨Z, hZ⟩ : ∃ Z : Int, z * u = Z := ⟨_, rfl⟩
 rw [hZ] at LA HS HM ⊢
 clear hA hU hZ
 generalize hd : decide (z < 0) = d at *
 have RA := (Row.new w (lgC (.slice pa (wrds z.natAbs).length ka) d) 41).alloc (.cells (lgC (.slice none 0 0) false) 41)
 have RZ := Row.new2 w (.cells (lgC (.slice pa (wrds z.natAbs).length ka) d) 41) (lgC (.slice none 0 0) false) 41
 go_enter Tryz.func60, Tryz.ntmps60
 go_wp2
 generalize hw : (w.alloc (.cells (lgC (.slice pa (wrds z.natAbs).length ka) d) 41)).alloc (.cells (lgC (.slice none 0 0) false) 41) = W at *
 have B0 : Hid (Below w.heap.size w W) := by show Below _ _ _; rw [← hw]; go_grown
 have hsz : w.heap.size + 1 + 1 = W.heap.size := by rw [← hw]; simp
 clear hw hd
 obtain ⟨x0, x1⟩ := RA.lg
 go_region_held3 (fun w' => w'.cell? ⟨w.heap.size, 0, none⟩ = some (.slice pa (wrds z.natAbs).length ka) ∧ w'.cell? ⟨w.heap.size, 1, none⟩ = some (.bool d))
   (first | go_keep | exact A3.lg | exact A2.lg)
   (first
     | (go_at_call 61; refine (product_d (B := B) (C := C) ((HA.out.keep B0.out (Nat.le_refl _)).drew) ((HU.out.keep B0.out (Nat.le_refl _)).drew) la lu).mono ?_; rintro e w2 ⟨v2, rfl, W2, hb2⟩; have A2 := RA.keep (bl_drew hb2); have Z2 := RZ.keep (bl_drew hb2))
     | (go_at_call 62; refine (signed_z (z := Z) (B := w.heap.size + 1 + 1) (by rw [HM.out, hsz]; exact W2.base (by simp)) LA.out HS.out).mono ?_; rintro e w3 ⟨u3, rfl, L3, hb3⟩; have A3 := A2.keep hb3; have Z3 := Z2.keep hb3; have L3' := Lib.hid L3; obtain ⟨p3, k3, rfl⟩ := L3.open; clear L3; obtain ⟨z0, z1⟩ := Z3.lg; have f0 := Z3.free 0; have f1 := Z3.free 1))
 go_wp2
 refine bodyPost_ret (v := .agg #[.slice p3 (wrds Z.natAbs).length k3, .bool (decide (Z < 0))]) (by simp [results, Tryz.results60, go_sem, z0, z1]) rfl ⟨_, rfl, ?_, ?_⟩
 · exact (((L3'.out.put _ _ (by simp)).put _ _ (by simp)).base (by omega))
 · (repeat refine Below.setCell ?_ (by simp <;> omega) _)
   exact bl_then B0.out (bl_then (bl_drew hb2) hb3)
end Go.Proofs.YtpdoddhieblooaaGreatDoor
namespace Go.Proofs.YtpdoddhieblooaaGreatDoor
open Go.RowKit

theorem wrds_add_len (a b : Nat) : (wrds (a + b)).length ≤ max (wrds a).length (wrds b).length + 1 := by
 apply wrds_len
 have ha := wval_lt (wrds a) (wrds_digs a)
 have hb := wval_lt (wrds b) (wrds_digs b)
 rw [wval_digs] at ha hb
 have h1 : 4294967296 ^ (wrds a).length ≤ 4294967296 ^ max (wrds a).length (wrds b).length := Nat.pow_le_pow_right (by decide) (Nat.le_max_left _ _)
 have h2 : 4294967296 ^ (wrds b).length ≤ 4294967296 ^ max (wrds a).length (wrds b).length := Nat.pow_le_pow_right (by decide) (Nat.le_max_right _ _)
 rw [Nat.pow_succ]
 omega
theorem wrds_le_len {a b : Nat} (h : a ≤ b) : (wrds a).length ≤ (wrds b).length := wlength_le_of_wval (wrds_digs b) (wrds_neat a) (by rw [wval_digs, wval_digs]; exact h)
set_option maxRecDepth 100000 in
set_option maxHeartbeats 4000000 in
theorem plus_l {B C : Nat} {a b : Int} {va vb : Value} {w : World} (hA : LArg B w va a) (hB : LArg C w vb b) (la : (wrds a.natAbs).length ≤ 10000) (lb : (wrds b.natAbs).length ≤ 10000) :
   Calls Tryz.prog 59 #[va, vb] w (GivesL w (a + b)) := by
 obtain ⟨pa, ka, rfl⟩ := hA.open
 obtain ⟨pb, kb, rfl⟩ := hB.open
 have HA := Lib.hid hA.arg
 have HB := Lib.hid hB.arg
 have LA : Hid ((wrds (a + b).natAbs).length ≤ 1000000) := Lib.hid (by
   have h1 := wrds_add_len a.natAbs b.natAbs
   have h2 := wrds_le_len (show (a + b).natAbs ≤ a.natAbs + b.natAbs from Int.natAbs_add_le a b)
   omega)
 obtain ⟨Z, hZ⟩ : ∃ Z : Int, a + b = Z := ⟨_, rfl⟩
 rw [hZ] at LA ⊢
 clear hA hB
 obtain ⟨da, hda⟩ : ∃ d, decide (a < 0) = d := ⟨_, rfl⟩
 obtain ⟨db, hdb⟩ : ∃ d, decide (b < 0) = d := ⟨_, rfl⟩
 rw [hda, hdb]
 have RA := ((Row.new w (lgC (.slice pa (wrds a.natAbs).length ka) da) 41).alloc (.cells (lgC (.slice pb (wrds b.natAbs).length kb) db) 41)).alloc (.cells (lgC (.slice none 0 0) false) 41)
 have RC := (Row.new2 w (.cells (lgC (.slice pa (wrds a.natAbs).length ka) da) 41) (lgC (.slice pb (wrds b.natAbs).length kb) db) 41).alloc (.cells (lgC (.slice none 0 0) false) 41)
 have RZ := Row.new3 w (.cells (lgC (.slice pa (wrds a.natAbs).length ka) da) 41) (.cells (lgC (.slice pb (wrds b.natAbs).length kb) db) 41) (lgC (.slice none 0 0) false) 41
 by_cases hs : da = db
 · have HS : Hid (Z ≠ 0 → da = decide (Z < 0)) := by
     show _ → _
     intro _
     rw [← hda] at hs ⊢; rw [← hdb] at hs
     by_cases ha : a < 0
     · have hb : b < 0 := by rw [decide_eq_true ha] at hs; exact of_decide_eq_true hs.symm
       rw [decide_eq_true ha, decide_eq_true (by omega)]
     · have hb : ¬ b < 0 := by rw [decide_eq_false ha] at hs; exact of_decide_eq_false hs.symm
       rw [decide_eq_false ha, decide_eq_false (by omega)]
   have HM : Hid (Z.natAbs = a.natAbs + b.natAbs) := by
     show _ = _
     rw [← hda, ← hdb] at hs
     by_cases ha : a < 0
     · have hb : b < 0 := by rw [decide_eq_true ha] at hs; exact of_decide_eq_true hs.symm
       omega
     · have hb : ¬ b < 0 := by rw [decide_eq_false ha] at hs; exact of_decide_eq_false hs.symm
       omega
   have hq : (da == db) = true := by rw [hs]; simp
   clear hZ hda hdb hs
   go_enter Tryz.func59, Tryz.ntmps59
   go_wp2
   generalize hw : ((w.alloc (.cells (lgC (.slice pa (wrds a.natAbs).length ka) da) 41)).alloc (.cells (lgC (.slice pb (wrds b.natAbs).length kb) db) 41)).alloc (.cells (lgC (.slice none 0 0) false) 41) = W at *
   have B0 : Hid (Below w.heap.size w W) := by show Below _ _ _; rw [← hw]; go_grown
   have hsz : w.heap.size + 1 + 1 + 1 ≤ W.heap.size := by rw [← hw]; simp
   clear hw
   have n1 : ¬ w.heap.size + 1 + 1 = w.heap.size := by omega
   have n2 : ¬ w.heap.size = w.heap.size + 1 + 1 := by omega
   have n3 : ¬ w.heap.size + 1 + 1 = w.heap.size + 1 := by omega
   have n4 : ¬ w.heap.size + 1 = w.heap.size + 1 + 1 := by omega
   obtain ⟨x0, x1⟩ := RA.lg
   obtain ⟨y0, y1⟩ := RC.lg
   go_region_held3 (fun w' => (w'.cell? ⟨w.heap.size, 0, none⟩ = some (.slice pa (wrds a.natAbs).length ka) ∧ w'.cell? ⟨w.heap.size, 1, none⟩ = some (.bool da)) ∧ (w'.cell? ⟨w.heap.size + 1, 0, none⟩ = some (.slice pb (wrds b.natAbs).length kb) ∧ w'.cell? ⟨w.heap.size + 1, 1, none⟩ = some (.bool db)))
     (first | go_keep | exact ⟨A3.lg, C3.lg⟩ | exact ⟨A2.lg, C2.lg⟩ | ((try dsimp only); (repeat' apply And.intro) <;> go_keep))
     (first
       | (go_at_call 113; refine (sum_d (B := B) (C := C) ((HA.out.keep B0.out (Nat.le_refl _)).drew) ((HB.out.keep B0.out (Nat.le_refl _)).drew) la lb).mono ?_; rintro e w2 ⟨v2, rfl, W2, hb2⟩; have A2 := RA.keep (bl_drew hb2); have C2 := RC.keep (bl_drew hb2); have Z2 := RZ.keep (bl_drew hb2))
       | (go_at_call 62; refine (signed_z (z := Z) (B := w.heap.size + 1 + 1 + 1) (by rw [HM.out]; exact W2.base (by simpa using hsz)) LA.out HS.out).mono ?_; rintro e w3 ⟨u3, rfl, L3, hb3⟩; have A3 := A2.keep hb3; have C3 := C2.keep hb3; have Z3 := Z2.keep hb3; have L3' := Lib.hid L3; obtain ⟨p3, k3, rfl⟩ := L3.open; clear L3; obtain ⟨z0, z1⟩ := Z3.lg; have f0 := Z3.free 0; have f1 := Z3.free 1))
   go_wp2
   refine bodyPost_ret (v := .agg #[.slice p3 (wrds Z.natAbs).length k3, .bool (decide (Z < 0))]) (by simp [results, Tryz.results59, go_sem, z0, z1]) rfl ⟨_, rfl, ?_, ?_⟩
   · exact (((L3'.out.put _ _ (by simp)).put _ _ (by simp)).base (by omega))
   · (repeat refine Below.setCell ?_ (by simp <;> omega) _)
     exact bl_then B0.out (bl_then (bl_drew hb2) hb3)
 · have hq : (da == db) = false := by rw [beq_eq_false_iff_ne]; exact hs
   have hopp : (a < 0 ∧ ¬ b < 0) ∨ (¬ a < 0 ∧ b < 0) := by
     rw [← hda, ← hdb] at hs
     by_cases ha : a < 0 <;> by_cases hb : b < 0
     · rw [decide_eq_true ha, decide_eq_true hb] at hs; exact absurd rfl hs
     · exact .inl ⟨ha, hb⟩
     · exact .inr ⟨ha, hb⟩
     · rw [decide_eq_false ha, decide_eq_false hb] at hs; exact absurd rfl hs
   by_cases hlt : a.natAbs < b.natAbs
   · have HC : Hid (cmpZ a.natAbs b.natAbs = -1) := Lib.hid (cmpZ_lt (by omega))
     have HM : Hid (Z.natAbs = b.natAbs - a.natAbs) := Lib.hid (by omega)
     have HS : Hid (Z ≠ 0 → db = decide (Z < 0)) := by
       show _ → _
       intro _
       rw [← hdb]
       by_cases hb : b < 0
       · rw [decide_eq_true hb, decide_eq_true (by omega)]
       · rw [decide_eq_false hb, decide_eq_false (by omega)]
     have hle := Lib.hid (Nat.le_of_lt hlt)
     clear hZ hda hdb hs hopp hlt
     go_enter Tryz.func59, Tryz.ntmps59
     go_wp2_with fail
     generalize hw : ((w.alloc (.cells (lgC (.slice pa (wrds a.natAbs).length ka) da) 41)).alloc (.cells (lgC (.slice pb (wrds b.natAbs).length kb) db) 41)).alloc (.cells (lgC (.slice none 0 0) false) 41) = W at *
     have B0 : Hid (Below w.heap.size w W) := by show Below _ _ _; rw [← hw]; go_grown
     have hsz : w.heap.size + 1 + 1 + 1 ≤ W.heap.size := by rw [← hw]; simp
     clear hw
     have n1 : ¬ w.heap.size + 1 + 1 = w.heap.size := by omega
     have n2 : ¬ w.heap.size = w.heap.size + 1 + 1 := by omega
     have n3 : ¬ w.heap.size + 1 + 1 = w.heap.size + 1 := by omega
     have n4 : ¬ w.heap.size + 1 = w.heap.size + 1 + 1 := by omega
     obtain ⟨x0, x1⟩ := RA.lg
     obtain ⟨y0, y1⟩ := RC.lg
     go_wp2_with (go_at_call 58; refine (compare_d (B := B) (C := C) (HA.out.keep B0.out (Nat.le_refl _)) (HB.out.keep B0.out (Nat.le_refl _)) (Nat.le_trans la (by decide)) (Nat.le_trans lb (by decide))).mono ?_; rw [HC.out]; rintro e w1 ⟨rfl, hb1⟩; have RA := RA.keep hb1; have RC := RC.keep hb1; have RZ := RZ.keep hb1; have B0 := Lib.hid (bl_then B0.out hb1); have hsz := Nat.le_trans hsz hb1.size; obtain ⟨x0, x1⟩ := RA.lg; obtain ⟨y0, y1⟩ := RC.lg; clear hb1)
     go_region_held3 (fun w' => (w'.cell? ⟨w.heap.size, 0, none⟩ = some (.slice pa (wrds a.natAbs).length ka) ∧ w'.cell? ⟨w.heap.size, 1, none⟩ = some (.bool da)) ∧ (w'.cell? ⟨w.heap.size + 1, 0, none⟩ = some (.slice pb (wrds b.natAbs).length kb) ∧ w'.cell? ⟨w.heap.size + 1, 1, none⟩ = some (.bool db)))
       (first | go_keep | exact ⟨A3.lg, C3.lg⟩ | exact ⟨A2.lg, C2.lg⟩ | ((try dsimp only); (repeat' apply And.intro) <;> go_keep))
       (first
         | (go_at_call 114; refine (difference_d (B := C) (C := B) ((HB.out.keep B0.out (Nat.le_refl _)).drew) ((HA.out.keep B0.out (Nat.le_refl _)).drew) hle.out lb).mono ?_; rintro e w2 ⟨v2, rfl, W2, hb2⟩; have A2 := RA.keep (bl_drew hb2); have C2 := RC.keep (bl_drew hb2); have Z2 := RZ.keep (bl_drew hb2))
         | (go_at_call 62; refine (signed_z (z := Z) (B := w.heap.size + 1 + 1 + 1) (by rw [HM.out]; exact W2.base (by simpa using hsz)) LA.out HS.out).mono ?_; rintro e w3 ⟨u3, rfl, L3, hb3⟩; have A3 := A2.keep hb3; have C3 := C2.keep hb3; have Z3 := Z2.keep hb3; have L3' := Lib.hid L3; obtain ⟨p3, k3, rfl⟩ := L3.open; clear L3; obtain ⟨z0, z1⟩ := Z3.lg; have f0 := Z3.free 0; have f1 := Z3.free 1))
     go_wp2
     refine bodyPost_ret (v := .agg #[.slice p3 (wrds Z.natAbs).length k3, .bool (decide (Z < 0))]) (by simp [results, Tryz.results59, go_sem, z0, z1]) rfl ⟨_, rfl, ?_, ?_⟩
     · exact (((L3'.out.put _ _ (by simp)).put _ _ (by simp)).base (by omega))
     · (repeat refine Below.setCell ?_ (by simp <;> omega) _)
       exact bl_then B0.out (bl_then (bl_drew hb2) hb3)
   · have HM : Hid (Z.natAbs = a.natAbs - b.natAbs) := Lib.hid (by omega)
     have HS : Hid (Z ≠ 0 → da = decide (Z < 0)) := by
       show _ → _
       intro _
       rw [← hda]
       by_cases ha : a < 0
       · rw [decide_eq_true ha, decide_eq_true (by omega)]
       · rw [decide_eq_false ha, decide_eq_false (by omega)]
     have hle : Hid (b.natAbs ≤ a.natAbs) := Lib.hid (by omega)
     obtain ⟨cz, HC, hcz⟩ : ∃ cz : Int, Hid (cmpZ a.natAbs b.natAbs = cz) ∧ 0 ≤ cz := by
       refine ⟨_, rfl, ?_⟩
       unfold cmpZ
       rw [if_neg (by omega)]
       split <;> decide
     clear hZ hda hdb hs hopp hlt
     go_enter Tryz.func59, Tryz.ntmps59
     go_wp2_with fail
     generalize hw : ((w.alloc (.cells (lgC (.slice pa (wrds a.natAbs).length ka) da) 41)).alloc (.cells (lgC (.slice pb (wrds b.natAbs).length kb) db) 41)).alloc (.cells (lgC (.slice none 0 0) false) 41) = W at *
     have B0 : Hid (Below w.heap.size w W) := by show Below _ _ _; rw [← hw]; go_grown
     have hsz : w.heap.size + 1 + 1 + 1 ≤ W.heap.size := by rw [← hw]; simp
     clear hw
     have n1 : ¬ w.heap.size + 1 + 1 = w.heap.size := by omega
     have n2 : ¬ w.heap.size = w.heap.size + 1 + 1 := by omega
     have n3 : ¬ w.heap.size + 1 + 1 = w.heap.size + 1 := by omega
     have n4 : ¬ w.heap.size + 1 = w.heap.size + 1 + 1 := by omega
     obtain ⟨x0, x1⟩ := RA.lg
     obtain ⟨y0, y1⟩ := RC.lg
     go_wp2_with (go_at_call 58; refine (compare_d (B := B) (C := C) (HA.out.keep B0.out (Nat.le_refl _)) (HB.out.keep B0.out (Nat.le_refl _)) (Nat.le_trans la (by decide)) (Nat.le_trans lb (by decide))).mono ?_; rw [HC.out]; rintro e w1 ⟨rfl, hb1⟩; have RA := RA.keep hb1; have RC := RC.keep hb1; have RZ := RZ.keep hb1; have B0 := Lib.hid (bl_then B0.out hb1); have hsz := Nat.le_trans hsz hb1.size; obtain ⟨x0, x1⟩ := RA.lg; obtain ⟨y0, y1⟩ := RC.lg; clear hb1)
     go_region_held3 (fun w' => (w'.cell? ⟨w.heap.size, 0, none⟩ = some (.slice pa (wrds a.natAbs).length ka) ∧ w'.cell? ⟨w.heap.size, 1, none⟩ = some (.bool da)) ∧ (w'.cell? ⟨w.heap.size + 1, 0, none⟩ = some (.slice pb (wrds b.natAbs).length kb) ∧ w'.cell? ⟨w.heap.size + 1, 1, none⟩ = some (.bool db)))
       (first | go_keep | exact ⟨A3.lg, C3.lg⟩ | exact ⟨A2.lg, C2.lg⟩ | ((try dsimp only); (repeat' apply And.intro) <;> go_keep))
       (first
         | (go_at_call 114; refine (difference_d (B := B) (C := C) ((HA.out.keep B0.out (Nat.le_refl _)).drew) ((HB.out.keep B0.out (Nat.le_refl _)).drew) hle.out la).mono ?_; rintro e w2 ⟨v2, rfl, W2, hb2⟩; have A2 := RA.keep (bl_drew hb2); have C2 := RC.keep (bl_drew hb2); have Z2 := RZ.keep (bl_drew hb2))
         | (go_at_call 62; refine (signed_z (z := Z) (B := w.heap.size + 1 + 1 + 1) (by rw [HM.out]; exact W2.base (by simpa using hsz)) LA.out HS.out).mono ?_; rintro e w3 ⟨u3, rfl, L3, hb3⟩; have A3 := A2.keep hb3; have C3 := C2.keep hb3; have Z3 := Z2.keep hb3; have L3' := Lib.hid L3; obtain ⟨p3, k3, rfl⟩ := L3.open; clear L3; obtain ⟨z0, z1⟩ := Z3.lg; have f0 := Z3.free 0; have f1 := Z3.free 1))
     go_wp2
     refine bodyPost_ret (v := .agg #[.slice p3 (wrds Z.natAbs).length k3, .bool (decide (Z < 0))]) (by simp [results, Tryz.results59, go_sem, z0, z1]) rfl ⟨_, rfl, ?_, ?_⟩
     · exact (((L3'.out.put _ _ (by simp)).put _ _ (by simp)).base (by omega))
     · (repeat refine Below.setCell ?_ (by simp <;> omega) _)
       exact bl_then B0.out (bl_then (bl_drew hb2) hb3)
end Go.Proofs.YtpdoddhieblooaaGreatDoor
namespace Go.Proofs.YtpdoddhieblooaaGreatDoor
open Go.RowKit

abbrev exC (v : Value) (b : Bool) (u : Value) : Array Value := #[v, .bool b, u]
abbrev exV (v : Value) (b : Bool) (u : Value) : Value := .agg #[v, .bool b, u]
theorem Row.ex {w : World} {b : Nat} {a0 a1 a2 : Value} {t : TypeId} (h : Row w b #[a0, a1, a2] t) : w.cell? ⟨b, 0, none⟩ = some a0 ∧ w.cell? ⟨b, 1, none⟩ = some a1 ∧ w.cell? ⟨b, 2, none⟩ = some a2 := ⟨h.at 0, h.at 1, h.at 2⟩
def XArg (B : Nat) (w : World) (v : Value) (z : Int) (u : Nat) : Prop := ∃ sl s2, v = exV sl (decide (z < 0)) s2 ∧ WArg B w sl z.natAbs ∧ WArg B w s2 u
theorem XArg.keep {B C : Nat} {w w' : World} {v : Value} {z : Int} {u : Nat} (h : XArg B w v z u) (hb : Below C w w') (hC : w.heap.size ≤ C) : XArg B w' v z u := by
 obtain ⟨sl, s2, e, h1, h2⟩ := h; exact ⟨sl, s2, e, h1.keep hb hC, h2.keep hb hC⟩
theorem XArg.base {B B' : Nat} {w : World} {v : Value} {z : Int} {u : Nat} (h : XArg B w v z u) (hB : B' ≤ B) : XArg B' w v z u := by
 obtain ⟨sl, s2, e, h1, h2⟩ := h; exact ⟨sl, s2, e, h1.base hB, h2.base hB⟩
theorem XArg.open {B : Nat} {w : World} {v : Value} {z : Int} {u : Nat} (h : XArg B w v z u) : ∃ p k q m, v = exV (.slice p (wrds z.natAbs).length k) (decide (z < 0)) (.slice q (wrds u).length m) := by
 obtain ⟨sl, s2, e, h1, h2⟩ := h
 obtain ⟨p, k, rfl⟩ := h1.slice
 obtain ⟨q, m, rfl⟩ := h2.slice
 exact ⟨p, k, q, m, e⟩
theorem XArg.args {B : Nat} {w : World} {sl s2 : Value} {b : Bool} {z : Int} {u : Nat} (h : XArg B w (exV sl b s2) z u) : WArg B w sl z.natAbs ∧ WArg B w s2 u ∧ b = decide (z < 0) := by
 obtain ⟨sl', s2', e, h1, h2⟩ := h
 cases e
 exact ⟨h1, h2, rfl⟩
theorem XArg.long {B : Nat} {w : World} {sl s2 : Value} {b : Bool} {z : Int} {u : Nat} (h : XArg B w (exV sl b s2) z u) : LArg B w (.agg #[sl, .bool b]) z := by
 obtain ⟨sl', s2', e, h1, h2⟩ := h
 cases e
 exact ⟨sl, rfl, h1⟩
def WArgP (P : Nat → Prop) (w : World) (v : Value) (n : Nat) : Prop :=
 (v = .slice none 0 0 ∧ n = 0) ∨ ∃ b cap, v = .slice (some ⟨b, 0, none⟩) (wrds n).length cap ∧ (wrds n).length ≤ cap ∧ P b ∧ b < w.heap.size ∧
   ∀ j (h : j < (wrds n).length), w.cell? ⟨b, j, none⟩ = some (.int .u32 ((wrds n)[j] : Int))
theorem WArgP.arg {P : Nat → Prop} {w : World} {v : Value} {n : Nat} (h : WArgP P w v n) : WArg 0 w v n := by
 rcases h with h | ⟨b, cap, e, h1, _, h3, h4⟩
 · exact .inl h
 · exact .inr ⟨b, cap, e, h1, Nat.zero_le _, h3, h4⟩
theorem WArg.inP {P : Nat → Prop} {B : Nat} {w : World} {v : Value} {n : Nat} (h : WArg B w v n) (hP : ∀ b, B ≤ b → b < w.heap.size → P b) : WArgP P w v n := by
 rcases h with h | ⟨b, cap, e, h1, h2, h3, h4⟩
 · exact .inl h
 · exact .inr ⟨b, cap, e, h1, hP b h2 h3, h3, h4⟩
theorem WArgP.keep {P : Nat → Prop} {C : Nat} {w w' : World} {v : Value} {n : Nat} (h : WArgP P w v n) (hb : Below C w w') (hC : w.heap.size ≤ C) : WArgP P w' v n := by
 have hs := hb.size
 rcases h with h | ⟨b, cap, rfl, h1, h2, h3, h4⟩
 · exact .inl h
 · exact .inr ⟨b, cap, rfl, h1, h2, by omega, fun j hj => (hb.cell (p := ⟨b, j, none⟩) (show b < C by omega)).trans (h4 j hj)⟩
theorem WArgP.weak {P Q : Nat → Prop} {w : World} {v : Value} {n : Nat} (h : WArgP P w v n) (hq : ∀ b, b < w.heap.size → P b → Q b) : WArgP Q w v n := by
 rcases h with h | ⟨b, cap, e, h1, h2, h3, h4⟩
 · exact .inl h
 · exact .inr ⟨b, cap, e, h1, hq b h3 h2, h3, h4⟩
theorem WArgP.put {P : Nat → Prop} {w : World} {v : Value} {n : Nat} (h : WArgP P w v n) (a : Addr) (x : Value) (ha : ∀ b, P b → b ≠ a.block) : WArgP P (w.setCell a x) v n := by
 rcases h with h | ⟨b, cap, rfl, h1, h2, h3, h4⟩
 · exact .inl h
 · exact .inr ⟨b, cap, rfl, h1, h2, by simpa using h3, fun j hj => (World.cell?_setCell_far w a ⟨b, j, none⟩ x (show a.block ≠ b from fun e => ha b h2 e.symm)).trans (h4 j hj)⟩
def XArgP (P : Nat → Prop) (w : World) (v : Value) (z : Int) (u : Nat) : Prop := ∃ sl s2, v = exV sl (decide (z < 0)) s2 ∧ WArgP P w sl z.natAbs ∧ WArgP P w s2 u
theorem XArgP.x {P : Nat → Prop} {w : World} {v : Value} {z : Int} {u : Nat} (h : XArgP P w v z u) : XArg 0 w v z u := by
 obtain ⟨sl, s2, e, h1, h2⟩ := h; exact ⟨sl, s2, e, h1.arg, h2.arg⟩
theorem XArgP.keep {P : Nat → Prop} {C : Nat} {w w' : World} {v : Value} {z : Int} {u : Nat} (h : XArgP P w v z u) (hb : Below C w w') (hC : w.heap.size ≤ C) : XArgP P w' v z u := by
 obtain ⟨sl, s2, e, h1, h2⟩ := h; exact ⟨sl, s2, e, h1.keep hb hC, h2.keep hb hC⟩
theorem XArgP.weak {P Q : Nat → Prop} {w : World} {v : Value} {z : Int} {u : Nat} (h : XArgP P w v z u) (hq : ∀ b, b < w.heap.size → P b → Q b) : XArgP Q w v z u := by
 obtain ⟨sl, s2, e, h1, h2⟩ := h; exact ⟨sl, s2, e, h1.weak hq, h2.weak hq⟩
theorem XArgP.put {P : Nat → Prop} {w : World} {v : Value} {z : Int} {u : Nat} (h : XArgP P w v z u) (a : Addr) (x : Value) (ha : ∀ b, P b → b ≠ a.block) : XArgP P (w.setCell a x) v z u := by
 obtain ⟨sl, s2, e, h1, h2⟩ := h; exact ⟨sl, s2, e, h1.put a x ha, h2.put a x ha⟩
theorem XArgP.args {P : Nat → Prop} {w : World} {sl s2 : Value} {b : Bool} {z : Int} {u : Nat} (h : XArgP P w (exV sl b s2) z u) : WArgP P w sl z.natAbs ∧ WArgP P w s2 u := by
 obtain ⟨sl', s2', e, h1, h2⟩ := h
 cases e
 exact ⟨h1, h2⟩
def sgnZ (z : Int) : Int := if z < 0 then -1 else if z = 0 then 0 else 1
set_option maxRecDepth 100000 in
set_option maxHeartbeats 2000000 in
theorem sign_x {B : Nat} {z : Int} {u : Nat} {v : Value} {w : World} (hX : XArg B w v z u) (la : (wrds z.natAbs).length ≤ 1000000) :
   Calls Tryz.prog 24 #[v] w fun e w' => e = .returned (.int .i64 (sgnZ z)) ∧ Below w.heap.size w w' := by
 obtain ⟨pz, kz, qz, mz, rfl⟩ := hX.open
 have HA := Lib.hid hX.args.1
 clear hX
 have HZ : Hid (∀ W, Below w.heap.size w W → Calls Tryz.prog 49 #[.slice pz (wrds z.natAbs).length kz] W fun e w' => e = .returned (.bool (decide (z.natAbs = 0))) ∧ W = w') := by
   show ∀ _, _
   exact fun W hW => isZero_d (HA.out.keep hW (Nat.le_refl _)) la
 have RA := Row.new w (exC (.slice pz (wrds z.natAbs).length kz) (decide (z < 0)) (.slice qz (wrds u).length mz)) 43
 by_cases h : z < 0
 · have HS : Hid (sgnZ z = -1) := Lib.hid (if_pos h)
   have d1 : decide (z < 0) = true := decide_eq_true h
   rw [HS.out]
   rw [d1] at RA ⊢
   obtain ⟨x0, x1, x2⟩ := RA.ex
   clear h d1
   go_enter Tryz.func24, Tryz.ntmps24
   go_wp2
   go_ret
   exact ⟨rfl, (Below.refl _ w).alloc (Nat.le_refl _) _⟩
 · have d1 : decide (z < 0) = false := decide_eq_false h
   rw [d1] at RA ⊢
   obtain ⟨x0, x1, x2⟩ := RA.ex
   by_cases h0 : z = 0
   · have HS : Hid (sgnZ z = 0) := Lib.hid (by unfold sgnZ; rw [if_neg h, if_pos h0])
     have d2 : decide (z.natAbs = 0) = true := decide_eq_true (by omega)
     rw [HS.out]
     rw [d2] at HZ
     clear h d1 h0 d2
     go_enter Tryz.func24, Tryz.ntmps24
     go_wp2_with (go_at_call 49; refine (HZ.out _ (by go_grown)).mono ?_; rintro e w2 ⟨rfl, rfl⟩)
     go_ret
     exact ⟨rfl, (Below.refl _ w).alloc (Nat.le_refl _) _⟩
   · have HS : Hid (sgnZ z = 1) := Lib.hid (by unfold sgnZ; rw [if_neg h, if_neg h0])
     have d2 : decide (z.natAbs = 0) = false := decide_eq_false (by omega)
     rw [HS.out]
     rw [d2] at HZ
     clear h d1 h0 d2
     go_enter Tryz.func24, Tryz.ntmps24
     go_wp2_with (go_at_call 49; refine (HZ.out _ (by go_grown)).mono ?_; rintro e w2 ⟨rfl, rfl⟩)
     go_ret
     exact ⟨rfl, (Below.refl _ w).alloc (Nat.le_refl _) _⟩
theorem neg_fin {P : Nat → Prop} {w w' : World} {sl s2 : Value} {d : Bool} {z Z : Int} {u : Nat} (h : XArgP P w (exV sl d s2) z u) (hZ : Z.natAbs = z.natAbs) (hB : Below w.heap.size w w') :
   ∃ y, Ending.returned (exV sl (decide (Z < 0)) s2) = .returned y ∧ XArgP P w' y Z u ∧ Below w.heap.size w w' :=
 ⟨_, rfl, ⟨sl, s2, rfl, by rw [hZ]; exact h.args.1.keep hB (Nat.le_refl _), h.args.2.keep hB (Nat.le_refl _)⟩, hB⟩
set_option maxRecDepth 100000 in
set_option maxHeartbeats 4000000 in
theorem negated_x {P : Nat → Prop} {z : Int} {u : Nat} {v : Value} {w : World} (hX : XArgP P w v z u) (la : (wrds z.natAbs).length ≤ 1000000) :
   Calls Tryz.prog 48 #[v] w fun e w' => ∃ y, e = .returned y ∧ XArgP P w' y (-z) u ∧ Below w.heap.size w w' := by
 obtain ⟨pz, kz, qz, mz, rfl⟩ := hX.x.open
 have HX := Lib.hid hX
 clear hX
 have LA := Lib.hid la
 have HS : Hid ((!decide (z < 0) && !decide (z.natAbs = 0)) = decide (-z < 0)) := by
   show _ = _
   by_cases h1 : z < 0
   · rw [decide_eq_true h1, decide_eq_false (show ¬ -z < 0 by omega)]; rfl
   · by_cases h0 : z = 0
     · subst h0; rfl
     · rw [decide_eq_false h1, decide_eq_true (show -z < 0 by omega), decide_eq_false (show ¬ z.natAbs = 0 by omega)]; rfl
 obtain ⟨dz, hd⟩ : ∃ d, decide (z < 0) = d := ⟨_, rfl⟩
 have HD := Lib.hid hd
 rw [hd] at HX HS ⊢
 have HM : Hid ((-z).natAbs = z.natAbs) := Lib.hid (Int.natAbs_neg z)
 obtain ⟨Z, hZ⟩ : ∃ Z : Int, -z = Z := ⟨_, rfl⟩
 rw [hZ] at HS HM ⊢
 clear hd hZ
 have RA := (Row.new w (exC (.slice pz (wrds z.natAbs).length kz) dz (.slice qz (wrds u).length mz)) 43).alloc (.cells (exC (.slice none 0 0) false (.slice none 0 0)) 43)
 have RZ := Row.new2 w (.cells (exC (.slice pz (wrds z.natAbs).length kz) dz (.slice qz (wrds u).length mz)) 43) (exC (.slice none 0 0) false (.slice none 0 0)) 43
 go_enter Tryz.func48, Tryz.ntmps48
 go_wp2
 generalize hw : (w.alloc (.cells (exC (.slice pz (wrds z.natAbs).length kz) dz (.slice qz (wrds u).length mz)) 43)).alloc (.cells (exC (.slice none 0 0) false (.slice none 0 0)) 43) = W at *
 have B0 : Hid (Below w.heap.size w W) := by show Below _ _ _; rw [← hw]; go_grown
 clear hw
 obtain ⟨x0, x1, x2⟩ := RA.ex
 go_region_held3 (fun w' => w'.cell? ⟨w.heap.size, 0, none⟩ = some (.slice pz (wrds z.natAbs).length kz) ∧ w'.cell? ⟨w.heap.size, 1, none⟩ = some (.bool dz) ∧ w'.cell? ⟨w.heap.size, 2, none⟩ = some (.slice qz (wrds u).length mz))
   (first | go_keep | exact A2.ex | ((try dsimp only); (repeat' apply And.intro) <;> go_keep))
   (first
     | (go_at_call 62; (with_reducible refine (signed_d (B := 0) (neg := !dz) (HX.out.args.1.arg.keep B0.out (Nat.le_refl _)).drew LA.out).mono ?_); rw [HS.out]; rintro e w2 ⟨rfl, hb2⟩; have A2 := RA.keep (bl_drew hb2); have Z2 := RZ.keep (bl_drew hb2); obtain ⟨z0, z1, z2⟩ := Z2.ex; have f0 := Z2.free 0; have f1 := Z2.free 1; have f2 := Z2.free 2))
 go_wp2
 refine bodyPost_ret (v := exV (.slice pz (wrds z.natAbs).length kz) (decide (Z < 0)) (.slice qz (wrds u).length mz)) (by simp [results, Tryz.results48, go_sem, z0, z1, z2]) rfl (neg_fin HX.out HM.out ?_)
 (repeat refine Below.setCell ?_ (by simp <;> omega) _)
 exact bl_then B0.out (bl_drew hb2)
end Go.Proofs.YtpdoddhieblooaaGreatDoor
namespace Go.Proofs.YtpdoddhieblooaaGreatDoor
open Go.RowKit

theorem plusx_mk {P : Nat → Prop} {B : Nat} {w : World} {sl s2 : Value} {b : Bool} {z : Int} {u : Nat} (h : LArg B w (.agg #[sl, .bool b]) z) (hP : ∀ c, B ≤ c → P c) (hu : WArgP P w s2 u) : XArgP P w (exV sl b s2) z u := by
 obtain ⟨sl', e, h1⟩ := h
 cases e
 exact ⟨sl, s2, rfl, h1.inP (fun c hc _ => hP c hc), hu⟩
def plN (a : Int) (u : Nat) (b : Int) (t : Nat) : Int := if u = t then a + b else a * t + b * u
def plU (u t : Nat) : Nat := if u = t then u else u * t
set_option maxRecDepth 100000 in
set_option maxHeartbeats 8000000 in
theorem plus_x {P : Nat → Prop} {a b : Int} {u t : Nat} {va vb : Value} {w : World} (hX : XArgP P w va a u) (hY : XArgP P w vb b t) (hP : ∀ c, w.heap.size ≤ c → P c) (la : (wrds a.natAbs).length ≤ 4000) (lb : (wrds b.natAbs).length ≤ 4000) (lu : (wrds u).length ≤ 4000) (lt : (wrds t).length ≤ 4000) :
   Calls Tryz.prog 29 #[va, vb] w fun e w' => ∃ y, e = .returned y ∧ XArgP P w' y (plN a u b t) (plU u t) ∧ Below w.heap.size w w' := by
 obtain ⟨pa, ka, qa, ma, rfl⟩ := hX.x.open
 obtain ⟨pb, kb, qb, mb, rfl⟩ := hY.x.open
 have HX := Lib.hid hX.x
 have HY := Lib.hid hY.x
 have HXP := Lib.hid hX.args.2
 have HPP := Lib.hid hP
 clear hX hY hP
 obtain ⟨da, hda⟩ : ∃ d, decide (a < 0) = d := ⟨_, rfl⟩
 obtain ⟨db, hdb⟩ : ∃ d, decide (b < 0) = d := ⟨_, rfl⟩
 rw [hda] at HX ⊢
 rw [hdb] at HY ⊢
 clear hda hdb
 have RA := ((Row.new w (exC (.slice pa (wrds a.natAbs).length ka) da (.slice qa (wrds u).length ma)) 43).alloc (.cells (exC (.slice pb (wrds b.natAbs).length kb) db (.slice qb (wrds t).length mb)) 43)).alloc (.cells (exC (.slice none 0 0) false (.slice none 0 0)) 43)
 have RC := (Row.new2 w (.cells (exC (.slice pa (wrds a.natAbs).length ka) da (.slice qa (wrds u).length ma)) 43) (exC (.slice pb (wrds b.natAbs).length kb) db (.slice qb (wrds t).length mb)) 43).alloc (.cells (exC (.slice none 0 0) false (.slice none 0 0)) 43)
 have RZ := Row.new3 w (.cells (exC (.slice pa (wrds a.natAbs).length ka) da (.slice qa (wrds u).length ma)) 43) (.cells (exC (.slice pb (wrds b.natAbs).length kb) db (.slice qb (wrds t).length mb)) 43) (exC (.slice none 0 0) false (.slice none 0 0)) 43
 by_cases hu : u = t
 · have HC : Hid (cmpZ u t = 0) := Lib.hid (cmpZ_eq (by omega))
   have HN : Hid (plN a u b t = a + b) := Lib.hid (if_pos hu)
   have HU : Hid (plU u t = u) := Lib.hid (if_pos hu)
   rw [HN.out, HU.out]
   obtain ⟨Z, hZ⟩ : ∃ Z : Int, a + b = Z := ⟨_, rfl⟩
   have HPL : Hid (∀ (B C : Nat) (va vb : Value) (W : World), LArg B W va a → LArg C W vb b → Calls Tryz.prog 59 #[va, vb] W (GivesL W Z)) := Lib.hid fun B C va vb W h1 h2 => by
     rw [← hZ]; exact plus_l h1 h2 (by omega) (by omega)
   rw [hZ]
   clear hu hZ HN HU
   go_enter Tryz.func29, Tryz.ntmps29
   go_wp2_with fail
   generalize hw : ((w.alloc (.cells (exC (.slice pa (wrds a.natAbs).length ka) da (.slice qa (wrds u).length ma)) 43)).alloc (.cells (exC (.slice pb (wrds b.natAbs).length kb) db (.slice qb (wrds t).length mb)) 43)).alloc (.cells (exC (.slice none 0 0) false (.slice none 0 0)) 43) = W at *
   have B0 : Hid (Below w.heap.size w W) := by show Below _ _ _; rw [← hw]; go_grown
   have hsz : w.heap.size + 1 + 1 + 1 ≤ W.heap.size := by rw [← hw]; simp
   clear hw
   have n1 : ¬ w.heap.size + 1 + 1 = w.heap.size := by omega
   have n2 : ¬ w.heap.size = w.heap.size + 1 + 1 := by omega
   have n3 : ¬ w.heap.size + 1 + 1 = w.heap.size + 1 := by omega
   have n4 : ¬ w.heap.size + 1 = w.heap.size + 1 + 1 := by omega
   obtain ⟨x0, x1, x2⟩ := RA.ex
   obtain ⟨y0, y1, y2⟩ := RC.ex
   go_wp2_with (go_at_call 58; refine (compare_d (B := 0) (C := 0) (HX.out.args.2.1.keep B0.out (Nat.le_refl _)) (HY.out.args.2.1.keep B0.out (Nat.le_refl _)) (Nat.le_trans lu (by decide)) (Nat.le_trans lt (by decide))).mono ?_; rw [HC.out]; rintro e w1 ⟨rfl, hb1⟩; have RA := RA.keep hb1; have RC := RC.keep hb1; have RZ := RZ.keep hb1; have B0 := Lib.hid (bl_then B0.out hb1); have hsz := Nat.le_trans hsz hb1.size; obtain ⟨x0, x1, x2⟩ := RA.ex; obtain ⟨y0, y1, y2⟩ := RC.ex; clear hb1)
   go_region_held3 (fun w' => (w'.cell? ⟨w.heap.size, 0, none⟩ = some (.slice pa (wrds a.natAbs).length ka) ∧ w'.cell? ⟨w.heap.size, 1, none⟩ = some (.bool da) ∧ w'.cell? ⟨w.heap.size, 2, none⟩ = some (.slice qa (wrds u).length ma)) ∧ (w'.cell? ⟨w.heap.size + 1, 0, none⟩ = some (.slice pb (wrds b.natAbs).length kb) ∧ w'.cell? ⟨w.heap.size + 1, 1, none⟩ = some (.bool db) ∧ w'.cell? ⟨w.heap.size + 1, 2, none⟩ = some (.slice qb (wrds t).length mb)))
     (first | go_keep | exact ⟨A2.ex, C2.ex⟩ | ((try dsimp only); (repeat' apply And.intro) <;> go_keep))
     (first
       | (go_at_call 59; (with_reducible refine (HPL.out 0 0 _ _ _ (HX.out.long.keep (B0.out.drew) (Nat.le_refl _)) (HY.out.long.keep (B0.out.drew) (Nat.le_refl _))).mono ?_); rintro e w2 ⟨v2, rfl, L2, hb2⟩; have A2 := RA.keep (bl_drew hb2); have C2 := RC.keep (bl_drew hb2); have Z2 := RZ.keep (bl_drew hb2); have hs2 := hb2.size; have L2' := Lib.hid (L2.base (show w.heap.size + 1 + 1 + 1 ≤ _ by simpa using hsz)); obtain ⟨p2, k2, rfl⟩ := L2.open; clear L2; obtain ⟨z0, z1, z2⟩ := Z2.ex; have f0 := Z2.free 0; have f1 := Z2.free 1; have f2 := Z2.free 2))
   go_wp2
   refine bodyPost_ret (v := exV (.slice p2 (wrds Z.natAbs).length k2) (decide (Z < 0)) (.slice qa (wrds u).length ma)) (by simp [results, Tryz.results29, go_sem, z0, z1, z2]) rfl ⟨_, rfl, ?_, ?_⟩
   · refine plusx_mk (((L2'.out.put _ _ (by simp)).put _ _ (by simp)).put _ _ (by simp)) (fun c hc => HPP.out c (by omega)) (HXP.out.keep (C := w.heap.size) ?_ (Nat.le_refl _))
     (repeat refine Below.setCell ?_ (by simp <;> omega) _)
     exact bl_then B0.out (bl_drew hb2)
   · (repeat refine Below.setCell ?_ (by simp <;> omega) _)
     exact bl_then B0.out (bl_drew hb2)
 · have HC : ∃ cz : Int, Hid (cmpZ u t = cz) ∧ (cz == 0) = false := by
     refine ⟨_, rfl, ?_⟩
     rw [beq_eq_false_iff_ne]
     rcases Nat.lt_or_gt_of_ne hu with h | h
     · rw [cmpZ_lt (by omega)]; decide
     · rw [cmpZ_gt (by omega)]; decide
   obtain ⟨cz, HC, hcz⟩ := HC
   have HN : Hid (plN a u b t = a * t + b * u) := Lib.hid (if_neg hu)
   have HU : Hid (plU u t = u * t) := Lib.hid (if_neg hu)
   rw [HN.out, HU.out]
   obtain ⟨Z, hZ⟩ : ∃ Z : Int, a * t + b * u = Z := ⟨_, rfl⟩
   have HPL : Hid (∀ (B C : Nat) (va vb : Value) (W : World), LArg B W va (a * t) → LArg C W vb (b * u) → Calls Tryz.prog 59 #[va, vb] W (GivesL W Z)) := Lib.hid fun B C va vb W h1 h2 => by
     have k1 := wrds_mul_len a.natAbs t
     have k2 := wrds_mul_len b.natAbs u
     rw [← hZ]; exact plus_l h1 h2 (by rw [Int.natAbs_mul, Int.natAbs_natCast]; omega) (by rw [Int.natAbs_mul, Int.natAbs_natCast]; omega)
   rw [hZ]
   clear hu hZ HN HU
   go_enter Tryz.func29, Tryz.ntmps29
   go_wp2_with fail
   generalize hw : ((w.alloc (.cells (exC (.slice pa (wrds a.natAbs).length ka) da (.slice qa (wrds u).length ma)) 43)).alloc (.cells (exC (.slice pb (wrds b.natAbs).length kb) db (.slice qb (wrds t).length mb)) 43)).alloc (.cells (exC (.slice none 0 0) false (.slice none 0 0)) 43) = W at *
   have B0 : Hid (Below w.heap.size w W) := by show Below _ _ _; rw [← hw]; go_grown
   have hsz : w.heap.size + 1 + 1 + 1 ≤ W.heap.size := by rw [← hw]; simp
   clear hw
   have n1 : ¬ w.heap.size + 1 + 1 = w.heap.size := by omega
   have n2 : ¬ w.heap.size = w.heap.size + 1 + 1 := by omega
   have n3 : ¬ w.heap.size + 1 + 1 = w.heap.size + 1 := by omega
   have n4 : ¬ w.heap.size + 1 = w.heap.size + 1 + 1 := by omega
   obtain ⟨x0, x1, x2⟩ := RA.ex
   obtain ⟨y0, y1, y2⟩ := RC.ex
   go_wp2_with (go_at_call 58; refine (compare_d (B := 0) (C := 0) (HX.out.args.2.1.keep B0.out (Nat.le_refl _)) (HY.out.args.2.1.keep B0.out (Nat.le_refl _)) (Nat.le_trans lu (by decide)) (Nat.le_trans lt (by decide))).mono ?_; rw [HC.out]; rintro e w1 ⟨rfl, hb1⟩; have RA := RA.keep hb1; have RC := RC.keep hb1; have RZ := RZ.keep hb1; have B0 := Lib.hid (bl_then B0.out hb1); have hsz := Nat.le_trans hsz hb1.size; obtain ⟨x0, x1, x2⟩ := RA.ex; obtain ⟨y0, y1, y2⟩ := RC.ex; clear hb1)
   go_region_held3 (fun w' => (w'.cell? ⟨w.heap.size, 0, none⟩ = some (.slice pa (wrds a.natAbs).length ka) ∧ w'.cell? ⟨w.heap.size, 1, none⟩ = some (.bool da) ∧ w'.cell? ⟨w.heap.size, 2, none⟩ = some (.slice qa (wrds u).length ma)) ∧ (w'.cell? ⟨w.heap.size + 1, 0, none⟩ = some (.slice pb (wrds b.natAbs).length kb) ∧ w'.cell? ⟨w.heap.size + 1, 1, none⟩ = some (.bool db) ∧ w'.cell? ⟨w.heap.size + 1, 2, none⟩ = some (.slice qb (wrds t).length mb)))
     (first | go_keep | exact ⟨A5.ex, C5.ex⟩ | exact ⟨A4.ex, C4.ex⟩ | exact ⟨A3.ex, C3.ex⟩ | exact ⟨A2.ex, C2.ex⟩ | ((try dsimp only); (repeat' apply And.intro) <;> go_keep))
     (first
       | (go_at_call 60; (with_reducible refine (scaled_l (B := 0) (C := 0) (HX.out.long.keep (B0.out.drew) (Nat.le_refl _)) (HY.out.args.2.1.keep (B0.out.drew) (Nat.le_refl _)) (by omega) (by omega)).mono ?_); rintro e w2 ⟨v2, rfl, L2, hb2⟩; have A2 := RA.keep (bl_drew hb2); have C2 := RC.keep (bl_drew hb2); have Z2 := RZ.keep (bl_drew hb2); have BW2 := Lib.hid (bl_then B0.out (bl_drew hb2)))
       | (go_at_call 60; (with_reducible refine (scaled_l (B := 0) (C := 0) (HY.out.long.keep (BW2.out) (Nat.le_refl _)) (HX.out.args.2.1.keep (BW2.out) (Nat.le_refl _)) (by omega) (by omega)).mono ?_); rintro e w3 ⟨v3, rfl, L3, hb3⟩; have A3 := A2.keep hb3; have C3 := C2.keep hb3; have Z3 := Z2.keep hb3; have BW3 := Lib.hid (bl_then BW2.out hb3); have hs3 : w.heap.size + 1 + 1 + 1 ≤ w3.heap.size := Nat.le_trans (Nat.le_trans hsz (bl_drew hb2).size) hb3.size)
       | (go_at_call 59; (with_reducible refine (HPL.out _ _ _ _ _ (L2.keep hb3 (Nat.le_refl _)) L3).mono ?_); rintro e w4 ⟨v4, rfl, L4, hb4⟩; have A4 := A3.keep hb4; have C4 := C3.keep hb4; have Z4 := Z3.keep hb4; have BW4 := Lib.hid (bl_then BW3.out hb4); have L4' := Lib.hid L4; obtain ⟨p4, k4, rfl⟩ := L4.open; clear L4)
       | (go_at_call 61; (with_reducible refine (product_d (B := 0) (C := 0) (HX.out.args.2.1.keep (BW4.out) (Nat.le_refl _)) (HY.out.args.2.1.keep (BW4.out) (Nat.le_refl _)) (by omega) (by omega)).mono ?_); rintro e w5 ⟨v5, rfl, W5, hb5⟩; have A5 := A4.keep hb5; have C5 := C4.keep hb5; have Z5 := Z4.keep hb5; have W5' := Lib.hid W5; obtain ⟨p5, k5, rfl⟩ := W5.slice; clear W5; obtain ⟨z0, z1, z2⟩ := Z5.ex; have f0 := Z5.free 0; have f1 := Z5.free 1; have f2 := Z5.free 2))
   go_wp2
   refine bodyPost_ret (v := exV (.slice p4 (wrds Z.natAbs).length k4) (decide (Z < 0)) (.slice p5 (wrds (u * t)).length k5)) (by simp [results, Tryz.results29, go_sem, z0, z1, z2]) rfl ⟨_, rfl, ?_, ?_⟩
   · have h4 := (L4'.out.keep hb5 (Nat.le_refl _)).base (show w.heap.size + 1 + 1 + 1 ≤ w3.heap.size by have := BW3.out.size; have := hs3; omega)
     have h5 := W5'.out.base (show w.heap.size + 1 + 1 + 1 ≤ w4.heap.size by have := hb4.size; have := hs3; omega)
     exact plusx_mk (((h4.put _ _ (by simp)).put _ _ (by simp)).put _ _ (by simp)) (fun c hc => HPP.out c (by omega)) ((((h5.setCell _ (by simp)).setCell _ (by simp)).setCell _ (by simp)).inP fun c hc _ => HPP.out c (by omega))
   · (repeat refine Below.setCell ?_ (by simp <;> omega) _)
     exact bl_then B0.out (bl_then (bl_then (bl_then (bl_drew hb2) hb3) hb4) hb5)
end Go.Proofs.YtpdoddhieblooaaGreatDoor
namespace Go.Proofs.YtpdoddhieblooaaGreatDoor
open Go.RowKit

theorem hpow_bin (n : Nat) : (16 : Nat) ^ n = 2 ^ (4 * n) := by rw [Nat.pow_mul]
theorem wpow_bin (n : Nat) : (4294967296 : Nat) ^ n = 2 ^ (32 * n) := by rw [Nat.pow_mul]
theorem bpow_lt (a b : Nat) (h : a < b) : 2 ^ a < 2 ^ b := Nat.pow_lt_pow_right (by decide) h
theorem bpow_le (a b : Nat) (h : a ≤ b) : 2 ^ a ≤ 2 ^ b := Nat.pow_le_pow_right (by decide) h
theorem hpow_le (a b : Nat) (h : a ≤ b) : 16 ^ a ≤ 16 ^ b := Nat.pow_le_pow_right (by decide) h
theorem room_lt (b q K M : Nat) (hb : b ≤ 16) (hq : q ≤ K) (hK : 4 * K < 32 * M) : b ^ q < 4294967296 ^ M := by
 have h1 : b ^ q ≤ 16 ^ q := Nat.pow_le_pow_left hb q
 have h2 := hpow_le q K hq
 rw [hpow_bin K] at h2
 rw [wpow_bin M]
 exact Nat.lt_of_le_of_lt (Nat.le_trans h1 h2) (bpow_lt _ _ hK)
theorem pow_room {b q : Nat} (hb : b ≤ 16) (hq : q ≤ 20000) : b ^ q < 4294967296 ^ 10000 := room_lt b q 20000 10000 hb hq (by decide)
set_option maxRecDepth 100000 in
set_option maxHeartbeats 8000000 in
theorem minus_x {P : Nat → Prop} {a b : Int} {u t : Nat} {va vb : Value} {w : World} (hX : XArgP P w va a u) (hY : XArgP P w vb b t) (hP : ∀ c, w.heap.size ≤ c → P c) (la : (wrds a.natAbs).length ≤ 4000) (lb : (wrds b.natAbs).length ≤ 4000) (lu : (wrds u).length ≤ 4000) (lt : (wrds t).length ≤ 4000) :
   Calls Tryz.prog 23 #[va, vb] w fun e w' => ∃ y, e = .returned y ∧ XArgP P w' y (plN a u (-b) t) (plU u t) ∧ Below w.heap.size w w' := by
 obtain ⟨pa, ka, qa, ma, rfl⟩ := hX.x.open
 obtain ⟨pb, kb, qb, mb, rfl⟩ := hY.x.open
 obtain ⟨Q, hQ⟩ : ∃ Q : Nat → Prop, Q = fun c => P c ∧ c ≠ w.heap.size + 1 + 1 := ⟨_, rfl⟩
 have HX : Hid (XArgP Q w _ a u) := Lib.hid (hX.weak (Q := Q) fun c hc h => by rw [hQ]; exact ⟨h, by omega⟩)
 have HY : Hid (XArgP Q w _ b t) := Lib.hid (hY.weak (Q := Q) fun c hc h => by rw [hQ]; exact ⟨h, by omega⟩)
 have HQ : Hid (∀ c, w.heap.size + 1 + 1 + 1 ≤ c → Q c) := Lib.hid fun c hc => by rw [hQ]; exact ⟨hP c (by omega), by omega⟩
 have HQP : Hid (∀ c, Q c → P c) := Lib.hid fun c hc => by rw [hQ] at hc; exact hc.1
 have HQN : Hid (∀ c, Q c → c ≠ w.heap.size + 1 + 1) := Lib.hid fun c hc => by rw [hQ] at hc; exact hc.2
 obtain ⟨N, hN⟩ : ∃ N, plN a u (-b) t = N := ⟨_, rfl⟩
 obtain ⟨U, hU⟩ : ∃ U, plU u t = U := ⟨_, rfl⟩
 have HNG : Hid (∀ (v : Value) (W : World), XArgP Q W v b t → Calls Tryz.prog 48 #[v] W fun e w' => ∃ y, e = .returned y ∧ XArgP Q w' y (-b) t ∧ Below W.heap.size W w') := Lib.hid fun v W h => negated_x h (by omega)
 have HPL : Hid (∀ (v1 v2 : Value) (W : World), XArgP Q W v1 a u → XArgP Q W v2 (-b) t → (∀ c, W.heap.size ≤ c → Q c) → Calls Tryz.prog 29 #[v1, v2] W fun e w' => ∃ y, e = .returned y ∧ XArgP Q w' y N U ∧ Below W.heap.size W w') := Lib.hid fun v1 v2 W h1 h2 h3 => by
   rw [← hN, ← hU]; exact plus_x h1 h2 h3 la (by rw [Int.natAbs_neg]; exact lb) lu lt
 rw [hN, hU]
 clear hX hY hP hQ hN hU
 obtain ⟨da, hda⟩ : ∃ d, decide (a < 0) = d := ⟨_, rfl⟩
 obtain ⟨db, hdb⟩ : ∃ d, decide (b < 0) = d := ⟨_, rfl⟩
 rw [hda] at HX ⊢
 rw [hdb] at HY ⊢
 clear hda hdb
 have RA := ((Row.new w (exC (.slice pa (wrds a.natAbs).length ka) da (.slice qa (wrds u).length ma)) 43).alloc (.cells (exC (.slice pb (wrds b.natAbs).length kb) db (.slice qb (wrds t).length mb)) 43)).alloc (.cells (exC (.slice none 0 0) false (.slice none 0 0)) 43)
 have RC := (Row.new2 w (.cells (exC (.slice pa (wrds a.natAbs).length ka) da (.slice qa (wrds u).length ma)) 43) (exC (.slice pb (wrds b.natAbs).length kb) db (.slice qb (wrds t).length mb)) 43).alloc (.cells (exC (.slice none 0 0) false (.slice none 0 0)) 43)
 have RZ := Row.new3 w (.cells (exC (.slice pa (wrds a.natAbs).length ka) da (.slice qa (wrds u).length ma)) 43) (.cells (exC (.slice pb (wrds b.natAbs).length kb) db (.slice qb (wrds t).length mb)) 43) (exC (.slice none 0 0) false (.slice none 0 0)) 43
 go_enter Tryz.func23, Tryz.ntmps23
 go_wp2
 generalize hw : ((w.alloc (.cells (exC (.slice pa (wrds a.natAbs).length ka) da (.slice qa (wrds u).length ma)) 43)).alloc (.cells (exC (.slice pb (wrds b.natAbs).length kb) db (.slice qb (wrds t).length mb)) 43)).alloc (.cells (exC (.slice none 0 0) false (.slice none 0 0)) 43) = W at *
 have B0 : Hid (Below w.heap.size w W) := by show Below _ _ _; rw [← hw]; go_grown
 have hsz : w.heap.size + 1 + 1 + 1 ≤ W.heap.size := by rw [← hw]; simp
 clear hw
 have n1 : ¬ w.heap.size + 1 + 1 = w.heap.size := by omega
 have n2 : ¬ w.heap.size = w.heap.size + 1 + 1 := by omega
 have n3 : ¬ w.heap.size + 1 + 1 = w.heap.size + 1 := by omega
 have n4 : ¬ w.heap.size + 1 = w.heap.size + 1 + 1 := by omega
 obtain ⟨x0, x1, x2⟩ := RA.ex
 obtain ⟨y0, y1, y2⟩ := RC.ex
 go_region_held3 (fun w' => (w'.cell? ⟨w.heap.size, 0, none⟩ = some (.slice pa (wrds a.natAbs).length ka) ∧ w'.cell? ⟨w.heap.size, 1, none⟩ = some (.bool da) ∧ w'.cell? ⟨w.heap.size, 2, none⟩ = some (.slice qa (wrds u).length ma)) ∧ (w'.cell? ⟨w.heap.size + 1, 0, none⟩ = some (.slice pb (wrds b.natAbs).length kb) ∧ w'.cell? ⟨w.heap.size + 1, 1, none⟩ = some (.bool db) ∧ w'.cell? ⟨w.heap.size + 1, 2, none⟩ = some (.slice qb (wrds t).length mb)))
   (first | go_keep | exact ⟨A3.ex, C3.ex⟩ | exact ⟨A2.ex, C2.ex⟩ | ((try dsimp only); (repeat' apply And.intro) <;> go_keep))
   (first
     | (go_at_call 48; (with_reducible refine (HNG.out _ _ (HY.out.keep B0.out.drew (Nat.le_refl _))).mono ?_); rintro e w2 ⟨v2, rfl, X2, hb2⟩; have A2 := RA.keep (bl_drew hb2); have C2 := RC.keep (bl_drew hb2); have Z2 := RZ.keep (bl_drew hb2); have BW2 := Lib.hid (bl_then B0.out (bl_drew hb2)); have hs2 := Nat.le_trans hsz (bl_drew hb2).size)
     | (go_at_call 29; (with_reducible refine (HPL.out _ _ _ (HX.out.keep BW2.out (Nat.le_refl _)) X2 (fun c hc => HQ.out c (by omega))).mono ?_); rintro e w3 ⟨v3, rfl, X3, hb3⟩; have A3 := A2.keep hb3; have C3 := C2.keep hb3; have Z3 := Z2.keep hb3; have X3' := Lib.hid X3; obtain ⟨p3, k3, q3, m3, rfl⟩ := X3.x.open; clear X3; obtain ⟨z0, z1, z2⟩ := Z3.ex; have f0 := Z3.free 0; have f1 := Z3.free 1; have f2 := Z3.free 2))
 go_wp2
 refine bodyPost_ret (v := exV (.slice p3 (wrds N.natAbs).length k3) (decide (N < 0)) (.slice q3 (wrds U).length m3)) (by simp [results, Tryz.results23, go_sem, z0, z1, z2]) rfl ⟨_, rfl, ?_, ?_⟩
 · exact (((X3'.out.put _ _ HQN.out).put _ _ HQN.out).put _ _ HQN.out).weak fun c _ hc => HQP.out c hc
 · (repeat refine Below.setCell ?_ (by simp <;> omega) _)
   exact bl_then B0.out (bl_then (bl_drew hb2) hb3)
set_option maxRecDepth 100000 in
set_option maxHeartbeats 4000000 in
theorem exactBin_x {P : Nat → Prop} (k n : Int) (q : Nat) (s : ByteArray) (w : World) (hP : ∀ c, w.heap.size ≤ c → P c) (h1 : -9223372036854775807 ≤ n) (h2 : n ≤ 9223372036854775807) (hq : q ≤ 10000) :
   Calls Tryz.prog 77 #[.agg #[.int .i64 k, .int .i64 n, .int .i64 q, .string s]] w fun e w' => ∃ y, e = .returned y ∧ XArgP P w' y n (2 ^ q) ∧ Below w.heap.size w w' := by
 have HLO : Hid (∀ W, Calls Tryz.prog 121 #[.int .i64 n] W (GivesL W n)) := Lib.hid fun W => longOf_l n W h1 h2
 have HPO : Hid (∀ W, Calls Tryz.prog 122 #[.int .i64 2, .int .i64 (q : Int)] W (GivesW W (2 ^ q))) := Lib.hid fun W => power_d 2 q W (by decide) (by decide) (by omega) (pow_room (by decide) (by omega))
 have HPP := Lib.hid hP
 obtain ⟨U, hU⟩ : ∃ U, 2 ^ q = U := ⟨_, rfl⟩
 rw [hU] at HPO ⊢
 clear hP h1 h2 hq hU
 have RA := (Row.new w #[.int .i64 k, .int .i64 n, .int .i64 q, .string s] 23).alloc (.cells (exC (.slice none 0 0) false (.slice none 0 0)) 43)
 have RZ := Row.new2 w (.cells #[.int .i64 k, .int .i64 n, .int .i64 q, .string s] 23) (exC (.slice none 0 0) false (.slice none 0 0)) 43
 go_enter Tryz.func77, Tryz.ntmps77
 go_wp2
 generalize hw : (w.alloc (.cells #[.int .i64 k, .int .i64 n, .int .i64 q, .string s] 23)).alloc (.cells (exC (.slice none 0 0) false (.slice none 0 0)) 43) = W at *
 have B0 : Hid (Below w.heap.size w W) := by show Below _ _ _; rw [← hw]; go_grown
 have hsz : w.heap.size + 1 + 1 ≤ W.heap.size := by rw [← hw]; simp
 clear hw
 obtain ⟨x0, x1, x2, x3⟩ := RA.four
 go_region_held3 (fun w' => w'.cell? ⟨w.heap.size, 1, none⟩ = some (.int .i64 n) ∧ w'.cell? ⟨w.heap.size, 2, none⟩ = some (.int .i64 q))
   (first | go_keep | exact ⟨A3.four.2.1, A3.four.2.2.1⟩ | exact ⟨A2.four.2.1, A2.four.2.2.1⟩ | ((try dsimp only); (repeat' apply And.intro) <;> go_keep))
   (first
     | (go_at_call 121; (with_reducible refine (HLO.out _).mono ?_); rintro e w2 ⟨v2, rfl, L2, hb2⟩; have A2 := RA.keep (bl_drew hb2); have Z2 := RZ.keep (bl_drew hb2); have hs2 := Nat.le_trans hsz (bl_drew hb2).size; have L2' := Lib.hid (L2.base (show w.heap.size + 1 + 1 ≤ _ by simpa using hsz)); obtain ⟨p2, k2, rfl⟩ := L2.open; clear L2)
     | (go_at_call 122; (with_reducible refine (HPO.out _).mono ?_); rintro e w3 ⟨v3, rfl, W3, hb3⟩; have A3 := A2.keep hb3; have Z3 := Z2.keep hb3; have W3' := Lib.hid (W3.base hs2); obtain ⟨p3, k3, rfl⟩ := W3.slice; clear W3; obtain ⟨z0, z1, z2⟩ := Z3.ex; have f0 := Z3.free 0; have f1 := Z3.free 1; have f2 := Z3.free 2))
 go_wp2
 refine bodyPost_ret (v := exV (.slice p2 (wrds n.natAbs).length k2) (decide (n < 0)) (.slice p3 (wrds U).length k3)) (by simp [results, Tryz.results77, go_sem, z0, z1, z2]) rfl ⟨_, rfl, ?_, ?_⟩
 · exact plusx_mk (B := w.heap.size + 1 + 1) ((((L2'.out.keep hb3 (Nat.le_refl _)).put _ _ (by simp)).put _ _ (by simp)).put _ _ (by simp)) (fun c hc => HPP.out c (by omega)) ((((W3'.out.setCell _ (by simp)).setCell _ (by simp)).setCell _ (by simp)).inP fun c hc _ => HPP.out c (by omega))
 · (repeat refine Below.setCell ?_ (by simp <;> omega) _)
   exact bl_then B0.out (bl_then (bl_drew hb2) hb3)
set_option maxRecDepth 100000 in
set_option maxHeartbeats 4000000 in
theorem exactDec_x {P : Nat → Prop} (k n : Int) (q : Nat) (s : ByteArray) (w : World) (hP : ∀ c, w.heap.size ≤ c → P c) (h1 : -9223372036854775807 ≤ n) (h2 : n ≤ 9223372036854775807) (hq : q ≤ 10000) :
   Calls Tryz.prog 83 #[.agg #[.int .i64 k, .int .i64 n, .int .i64 q, .string s]] w fun e w' => ∃ y, e = .returned y ∧ XArgP P w' y n (10 ^ q) ∧ Below w.heap.size w w' := by
 have HLO : Hid (∀ W, Calls Tryz.prog 121 #[.int .i64 n] W (GivesL W n)) := Lib.hid fun W => longOf_l n W h1 h2
 have HPO : Hid (∀ W, Calls Tryz.prog 122 #[.int .i64 10, .int .i64 (q : Int)] W (GivesW W (10 ^ q))) := Lib.hid fun W => power_d 10 q W (by decide) (by decide) (by omega) (pow_room (by decide) (by omega))
 have HPP := Lib.hid hP
 obtain ⟨U, hU⟩ : ∃ U, 10 ^ q = U := ⟨_, rfl⟩
 rw [hU] at HPO ⊢
 clear hP h1 h2 hq hU
 have RA := (Row.new w #[.int .i64 k, .int .i64 n, .int .i64 q, .string s] 23).alloc (.cells (exC (.slice none 0 0) false (.slice none 0 0)) 43)
 have RZ := Row.new2 w (.cells #[.int .i64 k, .int .i64 n, .int .i64 q, .string s] 23) (exC (.slice none 0 0) false (.slice none 0 0)) 43
 go_enter Tryz.func83, Tryz.ntmps83
 go_wp2
 generalize hw : (w.alloc (.cells #[.int .i64 k, .int .i64 n, .int .i64 q, .string s] 23)).alloc (.cells (exC (.slice none 0 0) false (.slice none 0 0)) 43) = W at *
 have B0 : Hid (Below w.heap.size w W) := by show Below _ _ _; rw [← hw]; go_grown
 have hsz : w.heap.size + 1 + 1 ≤ W.heap.size := by rw [← hw]; simp
 clear hw
 obtain ⟨x0, x1, x2, x3⟩ := RA.four
 go_region_held3 (fun w' => w'.cell? ⟨w.heap.size, 1, none⟩ = some (.int .i64 n) ∧ w'.cell? ⟨w.heap.size, 2, none⟩ = some (.int .i64 q))
   (first | go_keep | exact ⟨A3.four.2.1, A3.four.2.2.1⟩ | exact ⟨A2.four.2.1, A2.four.2.2.1⟩ | ((try dsimp only); (repeat' apply And.intro) <;> go_keep))
   (first
     | (go_at_call 121; (with_reducible refine (HLO.out _).mono ?_); rintro e w2 ⟨v2, rfl, L2, hb2⟩; have A2 := RA.keep (bl_drew hb2); have Z2 := RZ.keep (bl_drew hb2); have hs2 := Nat.le_trans hsz (bl_drew hb2).size; have L2' := Lib.hid (L2.base (show w.heap.size + 1 + 1 ≤ _ by simpa using hsz)); obtain ⟨p2, k2, rfl⟩ := L2.open; clear L2)
     | (go_at_call 122; (with_reducible refine (HPO.out _).mono ?_); rintro e w3 ⟨v3, rfl, W3, hb3⟩; have A3 := A2.keep hb3; have Z3 := Z2.keep hb3; have W3' := Lib.hid (W3.base hs2); obtain ⟨p3, k3, rfl⟩ := W3.slice; clear W3; obtain ⟨z0, z1, z2⟩ := Z3.ex; have f0 := Z3.free 0; have f1 := Z3.free 1; have f2 := Z3.free 2))
 go_wp2
 refine bodyPost_ret (v := exV (.slice p2 (wrds n.natAbs).length k2) (decide (n < 0)) (.slice p3 (wrds U).length k3)) (by simp [results, Tryz.results83, go_sem, z0, z1, z2]) rfl ⟨_, rfl, ?_, ?_⟩
 · exact plusx_mk (B := w.heap.size + 1 + 1) ((((L2'.out.keep hb3 (Nat.le_refl _)).put _ _ (by simp)).put _ _ (by simp)).put _ _ (by simp)) (fun c hc => HPP.out c (by omega)) ((((W3'.out.setCell _ (by simp)).setCell _ (by simp)).setCell _ (by simp)).inP fun c hc _ => HPP.out c (by omega))
 · (repeat refine Below.setCell ?_ (by simp <;> omega) _)
   exact bl_then B0.out (bl_then (bl_drew hb2) hb3)
end Go.Proofs.YtpdoddhieblooaaGreatDoor
namespace Go.Proofs.YtpdoddhieblooaaGreatDoor
open Go.RowKit

def shN (a n : Int) : Int := if n < 0 then a else a * (10 ^ n.toNat : Nat)
def shU (u : Nat) (n : Int) : Nat := if n < 0 then u * 10 ^ (-n).toNat else u
theorem ten_lt (q N : Nat) (h : 16 ^ q ≤ 2 ^ N) (hN : 1 ≤ N) : 10 ^ q < 2 ^ N := by
 rcases Nat.eq_zero_or_pos q with rfl | hq
 · exact Nat.lt_of_lt_of_le (show 10 ^ 0 < 2 ^ 1 by decide) (bpow_le 1 N hN)
 · exact Nat.lt_of_lt_of_le (Nat.pow_lt_pow_left (by decide) (by omega)) h
theorem ten_room (q K M : Nat) (h : q ≤ K) (hK : 4 * K ≤ 32 * M) (h1 : 1 ≤ 4 * K) : 10 ^ q < 4294967296 ^ M := by
 have h2 := hpow_le q K h
 rw [hpow_bin K] at h2
 rw [wpow_bin M]
 exact Nat.lt_of_lt_of_le (ten_lt q (4 * K) h2 h1) (bpow_le _ _ hK)
theorem wrds_ten {q : Nat} (h : q ≤ 20000) : (wrds (10 ^ q)).length ≤ 2500 := by
 apply wrds_len
 exact ten_room q 20000 2500 h (by decide) (by decide)
set_option maxRecDepth 100000 in
set_option maxHeartbeats 4000000 in
theorem shift_x {P : Nat → Prop} {a : Int} {u : Nat} {va : Value} {w : World} (n : Int) (hX : XArgP P w va a u) (hP : ∀ c, w.heap.size ≤ c → P c) (la : (wrds a.natAbs).length ≤ 4000) (lu : (wrds u).length ≤ 4000) (h1 : -20000 ≤ n) (h2 : n ≤ 20000) :
   Calls Tryz.prog 129 #[va, .int .i64 n] w fun e w' => ∃ y, e = .returned y ∧ XArgP P w' y (shN a n) (shU u n) ∧ Below w.heap.size w w' := by
 obtain ⟨pa, ka, qa, ma, rfl⟩ := hX.x.open
 have HX := Lib.hid hX.x
 have HXP := Lib.hid hX
 have HPP := Lib.hid hP
 clear hX hP
 obtain ⟨da, hda⟩ : ∃ d, decide (a < 0) = d := ⟨_, rfl⟩
 rw [hda] at HX HXP ⊢
 have HDA := Lib.hid hda
 clear hda
 have RA := (Row.new w (exC (.slice pa (wrds a.natAbs).length ka) da (.slice qa (wrds u).length ma)) 43).alloc (.cells (exC (.slice none 0 0) false (.slice none 0 0)) 43)
 have RZ := Row.new2 w (.cells (exC (.slice pa (wrds a.natAbs).length ka) da (.slice qa (wrds u).length ma)) 43) (exC (.slice none 0 0) false (.slice none 0 0)) 43
 by_cases hn : n < 0
 · obtain ⟨m, hm⟩ := Int.eq_ofNat_of_zero_le (show 0 ≤ -n by omega)
   obtain rfl : n = -(m : Int) := by omega
   have e1 : shN a (-(m : Int)) = a := if_pos hn
   have e2 : shU u (-(m : Int)) = u * 10 ^ m := by rw [shU, if_pos hn, hm]; rfl
   rw [e1, e2]
   have HPO : Hid (∀ W, Calls Tryz.prog 122 #[.int .i64 10, .int .i64 (m : Int)] W (GivesW W (10 ^ m))) := Lib.hid fun W => power_d 10 m W (by decide) (by decide) (by omega) (pow_room (by decide) (by omega))
   have HTL : Hid ((wrds (10 ^ m)).length ≤ 10000) := Lib.hid (Nat.le_trans (wrds_ten (by omega)) (by decide))
   have hw1 : IntKind.i64.wrap (- -(m : Int)) = m := by rw [Int.neg_neg]; exact IntWalk.i64_in _ (by omega)
   have hw2 : IntKind.i64.wrap (m : Int) = m := IntWalk.i64_in _ (by omega)
   have hmm : 0 < (m : Int) := by omega
   generalize 10 ^ m = T at *
   clear hm e1 e2
   obtain ⟨U, hU⟩ : ∃ U, u * T = U := ⟨_, rfl⟩
   have HU := Lib.hid hU
   rw [hU]
   clear hU
   go_enter Tryz.func129, Tryz.ntmps129
   go_wp2
   generalize hw : (w.alloc (.cells (exC (.slice pa (wrds a.natAbs).length ka) da (.slice qa (wrds u).length ma)) 43)).alloc (.cells (exC (.slice none 0 0) false (.slice none 0 0)) 43) = W at *
   have B0 : Hid (Below w.heap.size w W) := by show Below _ _ _; rw [← hw]; go_grown
   have hsz : w.heap.size + 1 + 1 ≤ W.heap.size := by rw [← hw]; simp
   clear hw
   obtain ⟨x0, x1, x2⟩ := RA.ex
   go_region_held3 (fun w' => w'.cell? ⟨w.heap.size, 0, none⟩ = some (.slice pa (wrds a.natAbs).length ka) ∧ w'.cell? ⟨w.heap.size, 1, none⟩ = some (.bool da) ∧ w'.cell? ⟨w.heap.size, 2, none⟩ = some (.slice qa (wrds u).length ma))
     (first | go_keep | exact A3.ex | exact A2.ex | ((try dsimp only); (repeat' apply And.intro) <;> go_keep))
     (first
       | (go_at_call 122; (with_reducible refine (HPO.out _).mono ?_); rintro e w2 ⟨v2, rfl, W2, hb2⟩; have A2 := RA.keep (bl_drew hb2); have Z2 := RZ.keep (bl_drew hb2); have BW2 := Lib.hid (bl_then B0.out (bl_drew hb2)); have hs2 := Nat.le_trans hsz (bl_drew hb2).size)
       | (go_at_call 61; (with_reducible refine (product_d (HX.out.args.2.1.keep BW2.out (Nat.le_refl _)) W2 (by omega) HTL.out).mono ?_); rintro e w3 ⟨v3, rfl, W3, hb3⟩; have A3 := A2.keep hb3; have Z3 := Z2.keep hb3; rw [HU.out] at W3; have W3' := Lib.hid (W3.base hs2); obtain ⟨p3, k3, rfl⟩ := W3.slice; clear W3; obtain ⟨z0, z1, z2⟩ := Z3.ex; have f0 := Z3.free 0; have f1 := Z3.free 1; have f2 := Z3.free 2))
   go_wp2
   refine bodyPost_ret (v := exV (.slice pa (wrds a.natAbs).length ka) da (.slice p3 (wrds U).length k3)) (by simp [results, Tryz.results129, go_sem, z0, z1, z2]) rfl ⟨_, rfl, ?_, ?_⟩
   · refine ⟨_, _, by rw [HDA.out], HXP.out.args.1.keep (C := w.heap.size) ?_ (Nat.le_refl _), (((W3'.out.setCell _ (by simp)).setCell _ (by simp)).setCell _ (by simp)).inP fun c hc _ => HPP.out c (by omega)⟩
     (repeat refine Below.setCell ?_ (by simp <;> omega) _)
     exact bl_then B0.out (bl_then (bl_drew hb2) hb3)
   · (repeat refine Below.setCell ?_ (by simp <;> omega) _)
     exact bl_then B0.out (bl_then (bl_drew hb2) hb3)
 · obtain ⟨m, rfl⟩ := Int.eq_ofNat_of_zero_le (show 0 ≤ n by omega)
   have e1 : shN a (m : Int) = a * (10 ^ m : Nat) := by rw [shN, if_neg hn]; rfl
   have e2 : shU u (m : Int) = u := if_neg hn
   rw [e1, e2]
   have HPO : Hid (∀ W, Calls Tryz.prog 122 #[.int .i64 10, .int .i64 (m : Int)] W (GivesW W (10 ^ m))) := Lib.hid fun W => power_d 10 m W (by decide) (by decide) (by omega) (pow_room (by decide) (by omega))
   have HTL : Hid ((wrds (10 ^ m)).length ≤ 10000) := Lib.hid (Nat.le_trans (wrds_ten (by omega)) (by decide))
   have hmm : 0 ≤ (m : Int) := by omega
   generalize 10 ^ m = T at *
   clear e1 e2
   obtain ⟨Z, hZ⟩ : ∃ Z : Int, a * (T : Int) = Z := ⟨_, rfl⟩
   have HZ := Lib.hid hZ
   rw [hZ]
   clear hZ
   go_enter Tryz.func129, Tryz.ntmps129
   go_wp2
   generalize hw : (w.alloc (.cells (exC (.slice pa (wrds a.natAbs).length ka) da (.slice qa (wrds u).length ma)) 43)).alloc (.cells (exC (.slice none 0 0) false (.slice none 0 0)) 43) = W at *
   have B0 : Hid (Below w.heap.size w W) := by show Below _ _ _; rw [← hw]; go_grown
   have hsz : w.heap.size + 1 + 1 ≤ W.heap.size := by rw [← hw]; simp
   clear hw
   obtain ⟨x0, x1, x2⟩ := RA.ex
   go_region_held3 (fun w' => w'.cell? ⟨w.heap.size, 0, none⟩ = some (.slice pa (wrds a.natAbs).length ka) ∧ w'.cell? ⟨w.heap.size, 1, none⟩ = some (.bool da) ∧ w'.cell? ⟨w.heap.size, 2, none⟩ = some (.slice qa (wrds u).length ma))
     (first | go_keep | exact A3.ex | exact A2.ex | ((try dsimp only); (repeat' apply And.intro) <;> go_keep))
     (first
       | (go_at_call 122; (with_reducible refine (HPO.out _).mono ?_); rintro e w2 ⟨v2, rfl, W2, hb2⟩; have A2 := RA.keep (bl_drew hb2); have Z2 := RZ.keep (bl_drew hb2); have BW2 := Lib.hid (bl_then B0.out (bl_drew hb2)); have hs2 := Nat.le_trans hsz (bl_drew hb2).size)
       | (go_at_call 60; (with_reducible refine (scaled_l (HX.out.long.keep BW2.out (Nat.le_refl _)) W2 (by omega) HTL.out).mono ?_); rintro e w3 ⟨v3, rfl, L3, hb3⟩; have A3 := A2.keep hb3; have Z3 := Z2.keep hb3; rw [HZ.out] at L3; have L3' := Lib.hid (L3.base hs2); obtain ⟨p3, k3, rfl⟩ := L3.open; clear L3; obtain ⟨z0, z1, z2⟩ := Z3.ex; have f0 := Z3.free 0; have f1 := Z3.free 1; have f2 := Z3.free 2))
   go_wp2
   refine bodyPost_ret (v := exV (.slice p3 (wrds Z.natAbs).length k3) (decide (Z < 0)) (.slice qa (wrds u).length ma)) (by simp [results, Tryz.results129, go_sem, z0, z1, z2]) rfl ⟨_, rfl, ?_, ?_⟩
   · refine plusx_mk (B := w.heap.size + 1 + 1) (((L3'.out.put _ _ (by simp)).put _ _ (by simp)).put _ _ (by simp)) (fun c hc => HPP.out c (by omega)) (HXP.out.args.2.keep (C := w.heap.size) ?_ (Nat.le_refl _))
     (repeat refine Below.setCell ?_ (by simp <;> omega) _)
     exact bl_then B0.out (bl_then (bl_drew hb2) hb3)
   · (repeat refine Below.setCell ?_ (by simp <;> omega) _)
     exact bl_then B0.out (bl_then (bl_drew hb2) hb3)
set_option maxRecDepth 100000 in
set_option maxHeartbeats 4000000 in
theorem exactFloat_x {P : Nat → Prop} (k n q : Int) (s : ByteArray) (w : World) (hP : ∀ c, w.heap.size ≤ c → P c) (h1 : -9223372036854775807 ≤ n) (h2 : n ≤ 9223372036854775807) (hq1 : -20000 ≤ q) (hq2 : q ≤ 20000) :
   Calls Tryz.prog 90 #[.agg #[.int .i64 k, .int .i64 n, .int .i64 q, .string s]] w fun e w' => ∃ y, e = .returned y ∧ XArgP P w' y (shN n q) (shU 1 q) ∧ Below w.heap.size w w' := by
 have HLO : Hid (∀ W, Calls Tryz.prog 121 #[.int .i64 n] W (GivesL W n)) := Lib.hid fun W => longOf_l n W h1 h2
 have HNA : Hid (∀ W, Calls Tryz.prog 64 #[.int .i64 1] W (GivesW W 1)) := Lib.hid fun W => natural_d 1 W (by decide)
 have l1 : (wrds n.natAbs).length ≤ 4000 := Nat.le_trans (wrds_length n.natAbs 2 (by omega)) (by decide)
 have l2 : (wrds 1).length ≤ 4000 := Nat.le_trans (wrds_length 1 1 (by decide)) (by decide)
 obtain ⟨Q, hQ⟩ : ∃ Q : Nat → Prop, Q = fun c => P c ∧ c ≠ w.heap.size + 1 := ⟨_, rfl⟩
 have HQ : Hid (∀ c, w.heap.size + 1 + 1 ≤ c → Q c) := Lib.hid fun c hc => by rw [hQ]; exact ⟨hP c (by omega), by omega⟩
 have HQP : Hid (∀ c, Q c → P c) := Lib.hid fun c hc => by rw [hQ] at hc; exact hc.1
 have HQN : Hid (∀ c, Q c → c ≠ w.heap.size + 1) := Lib.hid fun c hc => by rw [hQ] at hc; exact hc.2
 obtain ⟨N, hN⟩ : ∃ N, shN n q = N := ⟨_, rfl⟩
 obtain ⟨U, hU⟩ : ∃ U, shU 1 q = U := ⟨_, rfl⟩
 have HSH : Hid (∀ (v : Value) (W : World), XArgP Q W v n 1 → (∀ c, W.heap.size ≤ c → Q c) → Calls Tryz.prog 129 #[v, .int .i64 q] W fun e w' => ∃ y, e = .returned y ∧ XArgP Q w' y N U ∧ Below W.heap.size W w') := Lib.hid fun v W h3 h4 => by
   rw [← hN, ← hU]; exact shift_x q h3 h4 l1 l2 hq1 hq2
 rw [hN, hU]
 clear hP h1 h2 hq1 hq2 hQ hN hU l1 l2
 have RA := (Row.new w #[.int .i64 k, .int .i64 n, .int .i64 q, .string s] 23).alloc (.cells (exC (.slice none 0 0) false (.slice none 0 0)) 43)
 have RZ := Row.new2 w (.cells #[.int .i64 k, .int .i64 n, .int .i64 q, .string s] 23) (exC (.slice none 0 0) false (.slice none 0 0)) 43
 go_enter Tryz.func90, Tryz.ntmps90
 go_wp2
 generalize hw : (w.alloc (.cells #[.int .i64 k, .int .i64 n, .int .i64 q, .string s] 23)).alloc (.cells (exC (.slice none 0 0) false (.slice none 0 0)) 43) = W at *
 have B0 : Hid (Below w.heap.size w W) := by show Below _ _ _; rw [← hw]; go_grown
 have hsz : w.heap.size + 1 + 1 ≤ W.heap.size := by rw [← hw]; simp
 clear hw
 obtain ⟨x0, x1, x2, x3⟩ := RA.four
 go_region_held3 (fun w' => w'.cell? ⟨w.heap.size, 1, none⟩ = some (.int .i64 n) ∧ w'.cell? ⟨w.heap.size, 2, none⟩ = some (.int .i64 q))
   (first | go_keep | exact ⟨A4.four.2.1, A4.four.2.2.1⟩ | exact ⟨A3.four.2.1, A3.four.2.2.1⟩ | exact ⟨A2.four.2.1, A2.four.2.2.1⟩ | ((try dsimp only); (repeat' apply And.intro) <;> go_keep))
   (first
     | (go_at_call 121; (with_reducible refine (HLO.out _).mono ?_); rintro e w2 ⟨v2, rfl, L2, hb2⟩; have A2 := RA.keep (bl_drew hb2); have Z2 := RZ.keep (bl_drew hb2); have hs2 := Nat.le_trans hsz (bl_drew hb2).size; have L2' := Lib.hid (L2.base (show w.heap.size + 1 + 1 ≤ _ by simpa using hsz)); obtain ⟨p2, k2, rfl⟩ := L2.open; clear L2)
     | (go_at_call 64; (with_reducible refine (HNA.out _).mono ?_); rintro e w3 ⟨v3, rfl, W3, hb3⟩; have A3 := A2.keep hb3; have Z3 := Z2.keep hb3; have W3' := Lib.hid (W3.base hs2); have hs3 := Nat.le_trans hs2 hb3.size; obtain ⟨p3, k3, rfl⟩ := W3.slice; clear W3; have X3 := Lib.hid (plusx_mk (P := Q) (L2'.out.keep hb3 (Nat.le_refl _)) HQ.out (W3'.out.inP fun c hc _ => HQ.out c hc)))
     | (go_at_call 129; (with_reducible refine (HSH.out _ _ X3.out (fun c hc => HQ.out c (Nat.le_trans hs3 hc))).mono ?_); rintro e w4 ⟨v4, rfl, X4, hb4⟩; have A4 := A3.keep hb4; have Z4 := Z3.keep hb4; have X4' := Lib.hid X4; obtain ⟨p4, k4, q4, m4, rfl⟩ := X4.x.open; clear X4; obtain ⟨z0, z1, z2⟩ := Z4.ex; have f0 := Z4.free 0; have f1 := Z4.free 1; have f2 := Z4.free 2))
 go_wp2
 refine bodyPost_ret (v := exV (.slice p4 (wrds N.natAbs).length k4) (decide (N < 0)) (.slice q4 (wrds U).length m4)) (by simp [results, Tryz.results90, go_sem, z0, z1, z2]) rfl ⟨_, rfl, ?_, ?_⟩
 · exact (((X4'.out.put _ _ HQN.out).put _ _ HQN.out).put _ _ HQN.out).weak fun c _ hc => HQP.out c hc
 · (repeat refine Below.setCell ?_ (by simp <;> omega) _)
   exact bl_then B0.out (bl_then (bl_then (bl_drew hb2) hb3) hb4)
end Go.Proofs.YtpdoddhieblooaaGreatDoor
