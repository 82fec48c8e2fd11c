import Derived.Test.YtpdoddhieblooaaGreatDoorKFtNoFit
import Derived.Test.YtpdoddhieblooaaGreatDoorKFtCmpR
import Derived.Test.YtpdoddhieblooaaGreatDoorKFtMod
namespace Go.Proofs.YtpdoddhieblooaaGreatDoor
open Go.RowKit

theorem good_lens (t : Va) (h : GoodP t.k t.n t.q t.s) (hk : t.number) : (digs t.num.natAbs).length ≤ 120 ∧ (digs t.den).length ≤ 120 := by
 have hr := right_of_good t h
 obtain ⟨k, n, q, s⟩ := t
 obtain ⟨r1, r2, r3⟩ := hr
 have small : -1000000000000000 < n → n < 1000000000000000 → (digs n.natAbs).length ≤ 15 := fun h1 h2 => digs_length _ _ (by omega)
 rcases hk with hk | hk | hk
 · obtain rfl : k = 1 := hk
   obtain ⟨b1, b2, b3, b4⟩ := r1 rfl
   have c4 : q ≤ 31 := b4
   refine ⟨Nat.le_trans (small (by have : -2147483648 < n := b1; omega) (by have : n < 2147483648 := b2; omega)) (by decide), ?_⟩
   show (digs (if (1 : Int) = 3 then shU 1 q else if (1 : Int) = 2 then 10 ^ q.toNat else 2 ^ q.toNat)).length ≤ 120
   rw [if_neg (by decide), if_neg (by decide)]
   have := digs_len_pow2 q.toNat
   omega
 · obtain rfl : k = 2 := hk
   obtain ⟨b1, b2, b3, b4⟩ := r2 rfl
   have c4 : q ≤ 31 := b4
   refine ⟨Nat.le_trans (small b1 b2) (by decide), ?_⟩
   show (digs (if (2 : Int) = 3 then shU 1 q else if (2 : Int) = 2 then 10 ^ q.toNat else 2 ^ q.toNat)).length ≤ 120
   rw [if_neg (by decide), if_pos rfl, len_ten]
   omega
 · obtain rfl : k = 3 := hk
   obtain ⟨b1, b2, b3, b4⟩ := r3 rfl
   have h' : GoodP 3 n q s := h
   rw [good_3] at h'
   have hs := small b1 b2
   have hq : -100 ≤ q ∧ ((digs n.natAbs).length : Int) + q ≤ 100 := by
     rcases h'.1 with ⟨h1, h2⟩ | ⟨h1, h2, h3, h4, h5, h6⟩
     · rw [h1, h2]
       simp [digs_zero]
     · omega
   obtain ⟨hq1, hq2⟩ := hq
   refine ⟨?_, ?_⟩
   · show (digs (if (3 : Int) = 3 then shN n q else n).natAbs).length ≤ 120
     rw [if_pos rfl, shN]
     split
     · exact Nat.le_trans hs (by decide)
     · rw [Int.natAbs_mul, Int.natAbs_natCast]
       have h1 := digs_len_mul n.natAbs (10 ^ q.toNat)
       rw [len_ten] at h1
       omega
   · show (digs (if (3 : Int) = 3 then shU 1 q else if (3 : Int) = 2 then 10 ^ q.toNat else 2 ^ q.toNat)).length ≤ 120
     rw [if_pos rfl, shU]
     split
     · rw [Nat.one_mul, len_ten]
       omega
     · rw [digs_len_one]
       decide
theorem wrds_le_digs {n L : Nat} (h : (digs n).length ≤ L) (hL : 1 ≤ L) : (wrds n).length ≤ L :=
 wrds_length _ L (Nat.lt_of_lt_of_le (digs_lt n) (Nat.le_trans (Nat.pow_le_pow_right (by decide) h) (Nat.le_of_lt (ten_room L L L (Nat.le_refl _) (by omega) (by omega)))))
theorem abs_len_add {x y : Int} {L : Nat} (hx : (digs x.natAbs).length ≤ L) (hy : (digs y.natAbs).length ≤ L) : (digs (x + y).natAbs).length ≤ L + 1 :=
 Nat.le_trans (digs_len_mono (Int.natAbs_add_le x y)) (Nat.le_trans (digs_len_add _ _) (by omega))
theorem abs_len_mul {x : Int} {m L M : Nat} (hx : (digs x.natAbs).length ≤ L) (hm : (digs m).length ≤ M) : (digs (x * (m : Int)).natAbs).length ≤ L + M := by
 rw [Int.natAbs_mul, Int.natAbs_natCast]
 exact Nat.le_trans (digs_len_mul _ _) (by omega)
theorem pl_len {x y : Int} {u t L : Nat} (hx : (digs x.natAbs).length ≤ L) (hy : (digs y.natAbs).length ≤ L) (hu : (digs u).length ≤ L) (ht : (digs t).length ≤ L) : (digs (plN x u y t).natAbs).length ≤ L + L + 1 ∧ (digs (plU u t)).length ≤ L + L := by
 unfold plN plU
 refine ⟨?_, ?_⟩
 · split
   · exact Nat.le_trans (abs_len_add hx hy) (by omega)
   · exact abs_len_add (abs_len_mul hx ht) (abs_len_mul hy hu)
 · split
   · omega
   · exact Nat.le_trans (digs_len_mul _ _) (by omega)
theorem pl_cross (x y : Int) (u t : Nat) : plN x u y t * ((u * t : Nat) : Int) = (x * t + y * u) * (plU u t : Int) := by
 unfold plN plU
 split
 · rename_i h
   subst h
   simp only [Int.natCast_mul, Int.add_mul, Int.mul_assoc]
 · rfl
theorem pl_pos {u t : Nat} (hu : 0 < u) (ht : 0 < t) : 0 < plU u t := by
 unfold plU
 split
 · exact hu
 · exact Nat.mul_pos hu ht
theorem ov_sgn (a b : Va) : ovN a.num b.num b.den = sgn (decide (a.n < 0) != decide (b.n < 0)) (a.num.natAbs * b.den) := by
 rw [sgn_mul]
 have ea := num_sgn a
 unfold ovN
 by_cases h : b.n < 0
 · rw [if_pos (num_lt h), decide_eq_true h]
   rw [← Int.neg_mul]
   congr 1
   rw [← ea, sgn_abs]
   cases decide (a.n < 0) <;> simp [sgn]
 · rw [if_neg (by have := num_ge (a := b) (by omega); omega), decide_eq_false h]
   congr 1
   rw [← ea, sgn_abs]
   cases decide (a.n < 0) <;> simp [sgn]
def Ex5 (k N Q c er : Int) : Int → Int → Int → Int → Int → Prop := fun k' N' Q' c' er' => k' = k ∧ N' = N ∧ Q' = Q ∧ c' = c ∧ er' = er
theorem doPost_gives {k : Int} {P q : Nat} {L Z z N Q c : Int} {U u : Nat} {w w' : World} {e : Ending} (hT : NumT k P q) (hU : 0 < U) (hu : 0 < u) (hx : Z * u = z * U) (hR : FitR k P q L Z U N Q c) (h : DoPost w k P q L z u e w') : Gives3 (Ex5 k N Q c 0) w e w' := by
 obtain ⟨N', Q', c', ⟨he, hb⟩, hR'⟩ := h
 obtain ⟨rfl, rfl, rfl⟩ := hR.same hR' hT hU hu hx
 exact ⟨_, _, _, _, _, ⟨he, hb⟩, rfl, rfl, rfl, rfl, rfl⟩
open Classical in
theorem goodB_of {a : Va} (ga : GoodP a.k a.n a.q a.s) : Va.goodB a = true := by unfold Va.goodB; exact decide_eq_true ga
theorem asks_0 {a b : Va} {k : Int} {P q : Nat} (hT : NumT k P q) (ga : GoodP a.k a.n a.q a.s) (gb : GoodP b.k b.n b.q b.s) (ka : a.number) (kb : b.number) (sa : a.s.size ≤ maxLen) (sb : b.s.size ≤ maxLen) (c cap : Nat) (W : World) (hA : VasAt W c 0 [a, b]) (hc : c < W.heap.size) :
   Calls Tryz.prog 34 #[.slice (some ⟨c, 0, none⟩) 2 cap, tyV k (P : Int) (q : Int) 0 false ⟨#[]⟩] W fun e w' => e = .returned (.int .i64 0) ∧ Below W.heap.size W w' := by
 have h := asked_d [a, b] c 0 cap k (P : Int) (q : Int) 0 false ⟨#[]⟩ W hA (by simp) hc (by simp [sa, sb]) (by decide)
 have e1 : Va.goodB a = true := goodB_of ga
 have e2 : Va.goodB b = true := goodB_of gb
 have e3 : Va.numB a = true := by unfold Va.numB; rcases ka with h | h | h <;> rw [h] <;> rfl
 have e4 : Va.numB b = true := by unfold Va.numB; rcases kb with h | h | h <;> rw [h] <;> rfl
 have e0 : numE [a, b] = 0 := by simp [numE, e1, e2, e3, e4]
 have ev : validS k (P : Int) (q : Int) 0 false ⟨#[]⟩ = true := by
   rcases hT with ⟨rfl, h1, h2, h3⟩ | ⟨rfl, h1, h2, h3⟩ | ⟨rfl, h1, h2, h3⟩ <;> simp [validS, validFixedS, validFloatS] <;> omega
 have hk : k ≤ 3 := by rcases hT with ⟨rfl, _⟩ | ⟨rfl, _⟩ | ⟨rfl, _⟩ <;> decide
 have ea : askE [a, b] (validS k (P : Int) (q : Int) 0 false ⟨#[]⟩) k = 0 := by unfold askE; rw [e0, ev, if_neg (by decide), if_neg (by decide), if_neg (by decide), if_pos hk]
 rw [ea] at h
 exact h
theorem plus_hcf2 : ∀ (args : Array Value) (W : World), (callFunc 29 args).run Tryz.prog W = .ok (.enter 29 args) W := fun _ _ => by kernel_rfl
theorem minus_hcf2 : ∀ (args : Array Value) (W : World), (callFunc 23 args).run Tryz.prog W = .ok (.enter 23 args) W := fun _ _ => by kernel_rfl
theorem times_hcf2 : ∀ (args : Array Value) (W : World), (callFunc 31 args).run Tryz.prog W = .ok (.enter 31 args) W := fun _ _ => by kernel_rfl
theorem over_hcf2 : ∀ (args : Array Value) (W : World), (callFunc 32 args).run Tryz.prog W = .ok (.enter 32 args) W := fun _ _ => by kernel_rfl
theorem modulo_hcf2 : ∀ (args : Array Value) (W : World), (callFunc 33 args).run Tryz.prog W = .ok (.enter 33 args) W := fun _ _ => by kernel_rfl
theorem two_add {a b : Va} {k : Int} {P q : Nat} (hT : NumT k P q) (ga : GoodP a.k a.n a.q a.s) (gb : GoodP b.k b.n b.q b.s) (ka : a.number) (kb : b.number) (sa : a.s.size ≤ maxLen) (sb : b.s.size ≤ maxLen) (hRa : ∀ W, Calls Tryz.prog 46 #[a.v] W (YesD W)) (hRb : ∀ W, Calls Tryz.prog 46 #[b.v] W (YesD W)) :
   ∃ N Q c : Int, (∀ w, Calls Tryz.prog 8 #[a.v, b.v, tyV k (P : Int) (q : Int) 0 false ⟨#[]⟩] w (Gives3 (Ex5 k N Q c 0) w)) ∧ (∀ w, Calls Tryz.prog 9 #[a.v, b.v, tyV k (P : Int) (q : Int) 0 false ⟨#[]⟩] w (Gives3 (Ex5 k N Q c 0) w)) := by
 have ra := right_of_good a ga
 have rb := right_of_good b gb
 obtain ⟨la, da⟩ := good_lens a ga ka
 obtain ⟨lb, db⟩ := good_lens b gb kb
 have n1 := wrds_le_digs la (by decide)
 have n2 := wrds_le_digs lb (by decide)
 have d1 := wrds_le_digs da (by decide)
 have d2 := wrds_le_digs db (by decide)
 have hAS := asks_0 hT ga gb ka kb sa sb
 obtain ⟨dZ, dU⟩ := pl_len (L := 120) la lb da db
 have hU := pl_pos a.den_pos b.den_pos
 obtain ⟨N, Q, c, hR, hC⟩ := rec_num (opf := 29) hT 2 a b ra rb ka kb hRa hRb (Z := plN a.num a.den b.num b.den) (U := plU a.den b.den) hU (Nat.le_trans (wrds_le_digs dZ (by omega)) (by omega)) (Nat.le_trans (wrds_le_digs dU (by omega)) (by omega)) (Nat.le_trans dZ (by omega)) (Nat.le_trans dU (by omega)) plus_hcf2
   (fun W vx vy hx hy => (plus_x (P := fun c => 0 ≤ c) hx hy (fun _ _ => Nat.zero_le _) (by omega) (by omega) (by omega) (by omega)).mono fun _ _ ⟨y, he, hx, hb⟩ => ⟨y, he, hx, hb⟩)
 refine ⟨N, Q, c, fun w => add_prog a b w fun W => (hC W).mono fun _ _ ⟨he, hb⟩ => ⟨_, _, _, _, _, ⟨he, hb⟩, rfl, rfl, rfl, rfl, rfl⟩, fun w => ?_⟩
 exact add_ref (fun W => (do_plus hT ra rb ka kb la lb da db hAS W).mono fun _ _ h => doPost_gives hT hU (Nat.mul_pos a.den_pos b.den_pos) (pl_cross _ _ _ _) hR h) w
theorem two_subtract {a b : Va} {k : Int} {P q : Nat} (hT : NumT k P q) (ga : GoodP a.k a.n a.q a.s) (gb : GoodP b.k b.n b.q b.s) (ka : a.number) (kb : b.number) (sa : a.s.size ≤ maxLen) (sb : b.s.size ≤ maxLen) (hRa : ∀ W, Calls Tryz.prog 46 #[a.v] W (YesD W)) (hRb : ∀ W, Calls Tryz.prog 46 #[b.v] W (YesD W)) :
   ∃ N Q c : Int, (∀ w, Calls Tryz.prog 10 #[a.v, b.v, tyV k (P : Int) (q : Int) 0 false ⟨#[]⟩] w (Gives3 (Ex5 k N Q c 0) w)) ∧ (∀ w, Calls Tryz.prog 11 #[a.v, b.v, tyV k (P : Int) (q : Int) 0 false ⟨#[]⟩] w (Gives3 (Ex5 k N Q c 0) w)) := by
 have ra := right_of_good a ga
 have rb := right_of_good b gb
 obtain ⟨la, da⟩ := good_lens a ga ka
 obtain ⟨lb, db⟩ := good_lens b gb kb
 have n1 := wrds_le_digs la (by decide)
 have n2 := wrds_le_digs lb (by decide)
 have d1 := wrds_le_digs da (by decide)
 have d2 := wrds_le_digs db (by decide)
 have hAS := asks_0 hT ga gb ka kb sa sb
 obtain ⟨dZ, dU⟩ := pl_len (L := 120) (y := -b.num) la (by rw [Int.natAbs_neg]; exact lb) da db
 have hU := pl_pos a.den_pos b.den_pos
 obtain ⟨N, Q, c, hR, hC⟩ := rec_num (opf := 23) hT 2 a b ra rb ka kb hRa hRb (Z := plN a.num a.den (-b.num) b.den) (U := plU a.den b.den) hU (Nat.le_trans (wrds_le_digs dZ (by omega)) (by omega)) (Nat.le_trans (wrds_le_digs dU (by omega)) (by omega)) (Nat.le_trans dZ (by omega)) (Nat.le_trans dU (by omega)) minus_hcf2
   (fun W vx vy hx hy => (minus_x (P := fun c => 0 ≤ c) hx hy (fun _ _ => Nat.zero_le _) (by omega) (by omega) (by omega) (by omega)).mono fun _ _ ⟨y, he, hx, hb⟩ => ⟨y, he, hx, hb⟩)
 refine ⟨N, Q, c, fun w => subtract_prog a b w fun W => (hC W).mono fun _ _ ⟨he, hb⟩ => ⟨_, _, _, _, _, ⟨he, hb⟩, rfl, rfl, rfl, rfl, rfl⟩, fun w => ?_⟩
 exact subtract_ref (fun W => (do_minus hT ra rb ka kb la lb da db hAS W).mono fun _ _ h => doPost_gives hT hU (Nat.mul_pos a.den_pos b.den_pos) (by rw [pl_cross, Int.neg_mul, Int.sub_eq_add_neg]) hR h) w
theorem two_multiply {a b : Va} {k : Int} {P q : Nat} (hT : NumT k P q) (ga : GoodP a.k a.n a.q a.s) (gb : GoodP b.k b.n b.q b.s) (ka : a.number) (kb : b.number) (sa : a.s.size ≤ maxLen) (sb : b.s.size ≤ maxLen) (hRa : ∀ W, Calls Tryz.prog 46 #[a.v] W (YesD W)) (hRb : ∀ W, Calls Tryz.prog 46 #[b.v] W (YesD W)) :
   ∃ N Q c : Int, (∀ w, Calls Tryz.prog 12 #[a.v, b.v, tyV k (P : Int) (q : Int) 0 false ⟨#[]⟩] w (Gives3 (Ex5 k N Q c 0) w)) ∧ (∀ w, Calls Tryz.prog 13 #[a.v, b.v, tyV k (P : Int) (q : Int) 0 false ⟨#[]⟩] w (Gives3 (Ex5 k N Q c 0) w)) := by
 have ra := right_of_good a ga
 have rb := right_of_good b gb
 obtain ⟨la, da⟩ := good_lens a ga ka
 obtain ⟨lb, db⟩ := good_lens b gb kb
 have n1 := wrds_le_digs la (by decide)
 have n2 := wrds_le_digs lb (by decide)
 have d1 := wrds_le_digs da (by decide)
 have d2 := wrds_le_digs db (by decide)
 have hAS := asks_0 hT ga gb ka kb sa sb
 have dZ : (digs (a.num * b.num).natAbs).length ≤ 241 := by rw [Int.natAbs_mul]; exact Nat.le_trans (digs_len_mul _ _) (by omega)
 have dU : (digs (a.den * b.den)).length ≤ 240 := Nat.le_trans (digs_len_mul _ _) (by omega)
 have hU := Nat.mul_pos a.den_pos b.den_pos
 obtain ⟨N, Q, c, hR, hC⟩ := rec_num (opf := 31) hT 2 a b ra rb ka kb hRa hRb (Z := a.num * b.num) (U := a.den * b.den) hU (Nat.le_trans (wrds_le_digs dZ (by omega)) (by omega)) (Nat.le_trans (wrds_le_digs dU (by omega)) (by omega)) (Nat.le_trans dZ (by omega)) (Nat.le_trans dU (by omega)) times_hcf2
   (fun W vx vy hx hy => (times_x (P := fun c => 0 ≤ c) hx hy (fun _ _ => Nat.zero_le _) (by omega) (by omega) (by omega) (by omega)).mono fun _ _ ⟨y, he, hx, hb⟩ => ⟨y, he, hx, hb⟩)
 refine ⟨N, Q, c, fun w => multiply_prog a b w fun W => (hC W).mono fun _ _ ⟨he, hb⟩ => ⟨_, _, _, _, _, ⟨he, hb⟩, rfl, rfl, rfl, rfl, rfl⟩, fun w => ?_⟩
 exact multiply_ref (fun W => (do_times hT ra rb ka kb la lb da db hAS W).mono fun _ _ h => doPost_gives hT hU (hU) (rfl) hR h) w
theorem two_divide {a b : Va} {k : Int} {P q : Nat} (hT : NumT k P q) (ga : GoodP a.k a.n a.q a.s) (gb : GoodP b.k b.n b.q b.s) (ka : a.number) (kb : b.number) (sa : a.s.size ≤ maxLen) (sb : b.s.size ≤ maxLen) (hRa : ∀ W, Calls Tryz.prog 46 #[a.v] W (YesD W)) (hRb : ∀ W, Calls Tryz.prog 46 #[b.v] W (YesD W)) (hb0 : b.num ≠ 0) :
   ∃ N Q c : Int, (∀ w, Calls Tryz.prog 14 #[a.v, b.v, tyV k (P : Int) (q : Int) 0 false ⟨#[]⟩] w (Gives3 (Ex5 k N Q c 0) w)) ∧ (∀ w, Calls Tryz.prog 15 #[a.v, b.v, tyV k (P : Int) (q : Int) 0 false ⟨#[]⟩] w (Gives3 (Ex5 k N Q c 0) w)) := by
 have ra := right_of_good a ga
 have rb := right_of_good b gb
 obtain ⟨la, da⟩ := good_lens a ga ka
 obtain ⟨lb, db⟩ := good_lens b gb kb
 have n1 := wrds_le_digs la (by decide)
 have n2 := wrds_le_digs lb (by decide)
 have d1 := wrds_le_digs da (by decide)
 have d2 := wrds_le_digs db (by decide)
 have hAS := asks_0 hT ga gb ka kb sa sb
 have hbp : 0 < b.num.natAbs := by omega
 have hUp : 0 < a.den * b.num.natAbs := Nat.mul_pos a.den_pos hbp
 have dO : (digs (ovN a.num b.num b.den).natAbs).length ≤ 241 := by rw [ovN_abs]; exact Nat.le_trans (digs_len_mul _ _) (by omega)
 have dP : (digs (a.den * b.num.natAbs)).length ≤ 240 := Nat.le_trans (digs_len_mul _ _) (by omega)
 have dZ := dO
 have dU := dP
 have hU := hUp
 obtain ⟨N, Q, c, hR, hC⟩ := rec_num (opf := 32) hT 2 a b ra rb ka kb hRa hRb (Z := ovN a.num b.num b.den) (U := a.den * b.num.natAbs) hU (Nat.le_trans (wrds_le_digs dZ (by omega)) (by omega)) (Nat.le_trans (wrds_le_digs dU (by omega)) (by omega)) (Nat.le_trans dZ (by omega)) (Nat.le_trans dU (by omega)) over_hcf2
   (fun W vx vy hx hy => (over_x (P := fun c => 0 ≤ c) hx hy (fun _ _ => Nat.zero_le _) (by omega) (by omega) (by omega) (by omega)).mono fun _ _ ⟨y, he, hx, hb⟩ => ⟨y, he, hx, hb⟩)
 refine ⟨N, Q, c, fun w => divide_prog a b w fun W => (hC W).mono fun _ _ ⟨he, hb⟩ => ⟨_, _, _, _, _, ⟨he, hb⟩, rfl, rfl, rfl, rfl, rfl⟩, fun w => ?_⟩
 exact divide_ref (fun W => (do_over hT ra rb ka kb la lb da db hAS hbp W).mono fun _ _ h => doPost_gives hT hU (hU) (by rw [ov_sgn]) hR h) w
theorem two_modulo {a b : Va} {k : Int} {P q : Nat} (hT : NumT k P q) (ga : GoodP a.k a.n a.q a.s) (gb : GoodP b.k b.n b.q b.s) (ka : a.number) (kb : b.number) (sa : a.s.size ≤ maxLen) (sb : b.s.size ≤ maxLen) (hRa : ∀ W, Calls Tryz.prog 46 #[a.v] W (YesD W)) (hRb : ∀ W, Calls Tryz.prog 46 #[b.v] W (YesD W)) (hb0 : b.num ≠ 0) :
   ∃ N Q c : Int, (∀ w, Calls Tryz.prog 16 #[a.v, b.v, tyV k (P : Int) (q : Int) 0 false ⟨#[]⟩] w (Gives3 (Ex5 k N Q c 0) w)) ∧ (∀ w, Calls Tryz.prog 17 #[a.v, b.v, tyV k (P : Int) (q : Int) 0 false ⟨#[]⟩] w (Gives3 (Ex5 k N Q c 0) w)) := by
 have ra := right_of_good a ga
 have rb := right_of_good b gb
 obtain ⟨la, da⟩ := good_lens a ga ka
 obtain ⟨lb, db⟩ := good_lens b gb kb
 have n1 := wrds_le_digs la (by decide)
 have n2 := wrds_le_digs lb (by decide)
 have d1 := wrds_le_digs da (by decide)
 have d2 := wrds_le_digs db (by decide)
 have hAS := asks_0 hT ga gb ka kb sa sb
 have hbp : 0 < b.num.natAbs := by omega
 have hUp : 0 < a.den * b.num.natAbs := Nat.mul_pos a.den_pos hbp
 have dO : (digs (ovN a.num b.num b.den).natAbs).length ≤ 241 := by rw [ovN_abs]; exact Nat.le_trans (digs_len_mul _ _) (by omega)
 have dP : (digs (a.den * b.num.natAbs)).length ≤ 240 := Nat.le_trans (digs_len_mul _ _) (by omega)
 have hD : DivOK (ovN a.num b.num b.den).natAbs (a.den * b.num.natAbs) := div_any hUp (Nat.le_trans (wrds_le_digs dO (by decide)) (by decide)) (Nat.le_trans (wrds_le_digs dP (by decide)) (by decide))
 have dF : (digs (flN (ovN a.num b.num b.den) (a.den * b.num.natAbs)).natAbs).length ≤ 242 := by
   rw [ov_sgn, flN, ← floor_sgn _ _ _ hUp, sgn_abs]
   have h1 := digs_len_add (a.num.natAbs * b.den) 1
   rw [digs_len_one] at h1
   have h2 := digs_len_mul a.num.natAbs b.den
   exact Nat.le_trans (digs_len_mono (flM_le _ _ _)) (by omega)
 have dM : (digs (-(b.num * flN (ovN a.num b.num b.den) (a.den * b.num.natAbs))).natAbs).length ≤ 400 := by
   rw [Int.natAbs_neg, Int.natAbs_mul]
   exact Nat.le_trans (digs_len_mul _ _) (by omega)
 have dB : (digs (b.den * 1)).length ≤ 400 := by rw [Nat.mul_one]; omega
 obtain ⟨dZ, dU⟩ := pl_len (L := 400) (Nat.le_trans la (by decide)) dM (Nat.le_trans da (by decide)) dB
 have hU : 0 < moU a.den b.den := pl_pos a.den_pos (by rw [Nat.mul_one]; exact b.den_pos)
 obtain ⟨N, Q, c, hR, hC⟩ := rec_num (opf := 33) hT 4 a b ra rb ka kb hRa hRb (Z := moN a.num a.den b.num b.den) (U := moU a.den b.den) hU (Nat.le_trans (wrds_le_digs dZ (by omega)) (by omega)) (Nat.le_trans (wrds_le_digs dU (by omega)) (by omega)) (Nat.le_trans dZ (by omega)) (Nat.le_trans dU (by omega)) modulo_hcf2
   (fun W vx vy hx hy => (modulo_x (P := fun c => 0 ≤ c) hx hy (fun _ _ => Nat.zero_le _) a.den_pos hb0 hD (by omega) (by omega) (by omega) (by omega)).mono fun _ _ ⟨y, he, hx, hb⟩ => ⟨y, he, hx, hb⟩)
 refine ⟨N, Q, c, fun w => modulo_prog a b w fun W => (hC W).mono fun _ _ ⟨he, hb⟩ => ⟨_, _, _, _, _, ⟨he, hb⟩, rfl, rfl, rfl, rfl, rfl⟩, fun w => ?_⟩
 exact (modulo_num hT ra rb ka kb la lb da db hAS hbp w).mono fun _ _ h => doPost_gives hT hU (Nat.mul_pos a.den_pos (by rw [Nat.mul_one]; exact b.den_pos)) (by rw [show moN a.num a.den b.num b.den = plN a.num a.den (-(b.num * flN (ovN a.num b.num b.den) (a.den * b.num.natAbs))) (b.den * 1) from rfl, show moU a.den b.den = plU a.den (b.den * 1) from rfl, pl_cross, Int.neg_mul, ← Int.sub_eq_add_neg, ov_sgn, flN]) hR h
end Go.Proofs.YtpdoddhieblooaaGreatDoor
namespace Go.Proofs.YtpdoddhieblooaaGreatDoor
open Go.RowKit

theorem two_divide_0 {a b : Va} {k : Int} {P q : Nat} (hT : NumT k P q) (ga : GoodP a.k a.n a.q a.s) (gb : GoodP b.k b.n b.q b.s) (ka : a.number) (kb : b.number) (sa : a.s.size ≤ maxLen) (sb : b.s.size ≤ maxLen) (hRa : ∀ W, Calls Tryz.prog 46 #[a.v] W (YesD W)) (hRb : ∀ W, Calls Tryz.prog 46 #[b.v] W (YesD W)) (hb0 : b.num = 0) :
   (∀ w, Calls Tryz.prog 14 #[a.v, b.v, tyV k (P : Int) (q : Int) 0 false ⟨#[]⟩] w (Gives3 (Ex5 k 0 (zQ k q) 9 0) w)) ∧ (∀ w, Calls Tryz.prog 15 #[a.v, b.v, tyV k (P : Int) (q : Int) 0 false ⟨#[]⟩] w (Gives3 (Ex5 k 0 (zQ k q) 9 0) w)) := by
 have ra := right_of_good a ga
 have rb := right_of_good b gb
 obtain ⟨la, da⟩ := good_lens a ga ka
 obtain ⟨lb, db⟩ := good_lens b gb kb
 have n1 := wrds_le_digs la (by decide)
 have n2 := wrds_le_digs lb (by decide)
 have d1 := wrds_le_digs da (by decide)
 have d2 := wrds_le_digs db (by decide)
 have hAS := asks_0 hT ga gb ka kb sa sb
 have hbn : b.num.natAbs = 0 := by omega
 have hU0 : a.den * b.num.natAbs = 0 := by rw [hbn]; rfl
 refine ⟨fun w => divide_prog a b w fun W => (rec_zero (opf := 32) hT 2 a b ra rb ka kb hRa hRb (Z := ovN a.num b.num b.den) over_hcf2 (fun W vx vy hx hy => (over_x (P := fun c => 0 ≤ c) hx hy (fun _ _ => Nat.zero_le _) (by omega) (by omega) (by omega) (by omega)).mono fun _ _ ⟨y, he, hx, hb⟩ => ⟨y, he, (by rw [hU0] at hx; exact hx), hb⟩) W).mono fun _ _ ⟨he, hb⟩ => ⟨_, _, _, _, _, ⟨he, hb⟩, rfl, rfl, rfl, rfl, rfl⟩, fun w => ?_⟩
 exact divide_ref (fun W => (do_zero hT ra rb ka kb la lb da db hAS hbn W).mono fun _ _ ⟨he, hb⟩ => ⟨_, _, _, _, _, ⟨he, hb⟩, rfl, rfl, rfl, rfl, rfl⟩) w
theorem two_modulo_0 {a b : Va} {k : Int} {P q : Nat} (hT : NumT k P q) (ga : GoodP a.k a.n a.q a.s) (gb : GoodP b.k b.n b.q b.s) (ka : a.number) (kb : b.number) (sa : a.s.size ≤ maxLen) (sb : b.s.size ≤ maxLen) (hRa : ∀ W, Calls Tryz.prog 46 #[a.v] W (YesD W)) (hRb : ∀ W, Calls Tryz.prog 46 #[b.v] W (YesD W)) (hb0 : b.num = 0) :
   (∀ w, Calls Tryz.prog 16 #[a.v, b.v, tyV k (P : Int) (q : Int) 0 false ⟨#[]⟩] w (Gives3 (Ex5 k 0 (zQ k q) 9 0) w)) ∧ (∀ w, Calls Tryz.prog 17 #[a.v, b.v, tyV k (P : Int) (q : Int) 0 false ⟨#[]⟩] w (Gives3 (Ex5 k 0 (zQ k q) 9 0) w)) := by
 have ra := right_of_good a ga
 have rb := right_of_good b gb
 obtain ⟨la, da⟩ := good_lens a ga ka
 obtain ⟨lb, db⟩ := good_lens b gb kb
 have n1 := wrds_le_digs la (by decide)
 have n2 := wrds_le_digs lb (by decide)
 have d1 := wrds_le_digs da (by decide)
 have d2 := wrds_le_digs db (by decide)
 have hAS := asks_0 hT ga gb ka kb sa sb
 have hbn : b.num.natAbs = 0 := by omega
 have hU0 : a.den * b.num.natAbs = 0 := by rw [hbn]; rfl
 refine ⟨fun w => modulo_prog a b w fun W => (rec_zero (opf := 33) hT 4 a b ra rb ka kb hRa hRb (Z := ovN a.num b.num b.den) modulo_hcf2 (fun W vx vy hx hy => (modulo_0 (P := fun c => 0 ≤ c) hx hy (fun _ _ => Nat.zero_le _) hb0 (by omega) (by omega) (by omega) (by omega)).mono fun _ _ ⟨y, he, hx, hb⟩ => ⟨y, he, hx, hb⟩) W).mono fun _ _ ⟨he, hb⟩ => ⟨_, _, _, _, _, ⟨he, hb⟩, rfl, rfl, rfl, rfl, rfl⟩, fun w => ?_⟩
 exact (modulo_zero hT ra rb ka kb la lb da db hAS hbn w).mono fun _ _ ⟨he, hb⟩ => ⟨_, _, _, _, _, ⟨he, hb⟩, rfl, rfl, rfl, rfl, rfl⟩
end Go.Proofs.YtpdoddhieblooaaGreatDoor
