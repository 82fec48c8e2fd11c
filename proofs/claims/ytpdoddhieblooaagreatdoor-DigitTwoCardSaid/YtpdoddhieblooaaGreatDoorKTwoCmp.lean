import Derived.Test.YtpdoddhieblooaaGreatDoorKTwoZero
import Derived.Test.YtpdoddhieblooaaGreatDoorKFtErrAll
import Derived.Test.YtpdoddhieblooaaGreatDoorKFtCmp
import Derived.Test.YtpdoddhieblooaaGreatDoorKFtCmpR
namespace Go.Proofs.YtpdoddhieblooaaGreatDoor
open Go.RowKit

theorem asks_e {a b : Va} {k p q n : Int} {vy : Bool} {pic : ByteArray} {E : Int} (hp : pic.size ≤ maxLen) (sa : a.s.size ≤ maxLen) (sb : b.s.size ≤ maxLen) (hE : askE [a, b] (validS k p q n vy pic) k = E) (c cap : Nat) (W : World) (hA : VasAt W c 0 [a, b]) (hc : c < W.heap.size) :
   Calls Tryz.prog 34 #[.slice (some ⟨c, 0, none⟩) 2 cap, tyV k p q n vy pic] W fun e w' => e = .returned (.int .i64 E) ∧ Below W.heap.size W w' := by
 have h := asked_d [a, b] c 0 cap k p q n vy pic W hA (by simp) hc (by simp [sa, sb]) hp
 rw [hE] at h
 exact h
theorem asks_num {a b : Va} {k p q n : Int} {vy : Bool} {pic : ByteArray} (hE : askE [a, b] (validS k p q n vy pic) k = 0) :
   GoodP a.k a.n a.q a.s ∧ GoodP b.k b.n b.q b.s ∧ a.number ∧ b.number ∧ ∃ P Q : Nat, p = P ∧ q = Q ∧ n = 0 ∧ vy = false ∧ pic = ⟨#[]⟩ ∧ NumT k P Q := by
 have hn1 : numE [a, b] = 0 ∧ validS k p q n vy pic = true ∧ k ≤ 3 := by
   unfold askE at hE
   split at hE
   · exact absurd hE (by decide)
   · split at hE
     · exact absurd hE (by decide)
     · rename_i h1 h2
       split at hE
       · rename_i h3
         exact absurd hE h3
       · rename_i h3
         split at hE
         · rename_i h4
           exact ⟨by simpa using h3, by simpa using h2, h4⟩
         · exact absurd hE (by decide)
 obtain ⟨hn, hv, hk⟩ := hn1
 have hg : [a, b].all Va.goodB = true := by
   cases h : [a, b].all Va.goodB
   · unfold numE at hn
     rw [h, if_neg (by decide)] at hn
     exact absurd hn (by decide)
   · rfl
 have hb : [a, b].all Va.numB = true := by
   unfold numE at hn
   rw [hg, if_pos rfl] at hn
   cases h : [a, b].all Va.numB
   · rw [h, if_neg (by decide)] at hn
     exact absurd hn (by decide)
   · rfl
 have hg2 : Va.goodB a = true ∧ Va.goodB b = true := by simpa using hg
 have hb2 : Va.numB a = true ∧ Va.numB b = true := by simpa using hb
 refine ⟨good_ofB hg2.1, good_ofB hg2.2, (numB_iff a).1 hb2.1, (numB_iff b).1 hb2.2, p.toNat, q.toNat, ?_⟩
 have h1 := (valid_kind hv).1
 obtain rfl | rfl | rfl : k = 1 ∨ k = 2 ∨ k = 3 := by omega
 · have h := hv
   simp [validS, validFixedS] at h
   obtain ⟨⟨⟨c1, c2⟩, c3, c4⟩, ⟨c5, c6⟩, c7⟩ := h
   exact ⟨by omega, by omega, c5, c6, by cases pic; simp_all [Lib.toList_data], .inl ⟨rfl, by omega, by omega, by omega⟩⟩
 · have h := hv
   simp [validS, validFixedS] at h
   obtain ⟨⟨⟨c1, c2⟩, c3, c4⟩, ⟨c5, c6⟩, c7⟩ := h
   exact ⟨by omega, by omega, c5, c6, by cases pic; simp_all [Lib.toList_data], .inr (.inl ⟨rfl, by omega, by omega, by omega⟩)⟩
 · have h := hv
   simp [validS, validFloatS] at h
   obtain ⟨⟨c1, c2⟩, ⟨⟨c3, c4⟩, c5⟩, c6⟩ := h
   exact ⟨by omega, by omega, c4, c5, by cases pic; simp_all [Lib.toList_data], .inr (.inr ⟨rfl, by omega, by omega, by omega⟩)⟩
theorem all_add (a b : Va) (k p q n : Int) (vy : Bool) (pic : ByteArray) (hp : pic.size ≤ maxLen) (sa : a.s.size ≤ maxLen) (sb : b.s.size ≤ maxLen) :
   ∃ k1 N Q c er : Int, (∀ w, Calls Tryz.prog 8 #[a.v, b.v, tyV k p q n vy pic] w (Gives3 (Ex5 k1 N Q c er) w)) ∧ (∀ w, Calls Tryz.prog 9 #[a.v, b.v, tyV k p q n vy pic] w (Gives3 (Ex5 k1 N Q c er) w)) := by
 by_cases h0 : askE [a, b] (validS k p q n vy pic) k = 0
 · obtain ⟨ga, gb, ka, kb, P, Q, rfl, rfl, rfl, rfl, rfl, hT⟩ := asks_num h0
   obtain ⟨N, Q, c, x1, x2⟩ := two_add hT ga gb ka kb sa sb (right_yes ga) (right_yes gb)
   exact ⟨_, _, _, _, _, x1, x2⟩
 · refine ⟨0, 0, 0, 0, _, fun w => add_prog a b w fun W => (reck_err a b _ hp rfl h0 W).mono fun _ _ ⟨he, hb⟩ => ⟨_, _, _, _, _, ⟨he, hb⟩, rfl, rfl, rfl, rfl, rfl⟩, fun w => ?_⟩
   exact add_ref (fun W => (do_err h0 (asks_e hp sa sb rfl) W).mono fun _ _ ⟨he, hb⟩ => ⟨_, _, _, _, _, ⟨he, hb⟩, rfl, rfl, rfl, rfl, rfl⟩) w
theorem all_subtract (a b : Va) (k p q n : Int) (vy : Bool) (pic : ByteArray) (hp : pic.size ≤ maxLen) (sa : a.s.size ≤ maxLen) (sb : b.s.size ≤ maxLen) :
   ∃ k1 N Q c er : Int, (∀ w, Calls Tryz.prog 10 #[a.v, b.v, tyV k p q n vy pic] w (Gives3 (Ex5 k1 N Q c er) w)) ∧ (∀ w, Calls Tryz.prog 11 #[a.v, b.v, tyV k p q n vy pic] w (Gives3 (Ex5 k1 N Q c er) w)) := by
 by_cases h0 : askE [a, b] (validS k p q n vy pic) k = 0
 · obtain ⟨ga, gb, ka, kb, P, Q, rfl, rfl, rfl, rfl, rfl, hT⟩ := asks_num h0
   obtain ⟨N, Q, c, x1, x2⟩ := two_subtract hT ga gb ka kb sa sb (right_yes ga) (right_yes gb)
   exact ⟨_, _, _, _, _, x1, x2⟩
 · refine ⟨0, 0, 0, 0, _, fun w => subtract_prog a b w fun W => (reck_err a b _ hp rfl h0 W).mono fun _ _ ⟨he, hb⟩ => ⟨_, _, _, _, _, ⟨he, hb⟩, rfl, rfl, rfl, rfl, rfl⟩, fun w => ?_⟩
   exact subtract_ref (fun W => (do_err h0 (asks_e hp sa sb rfl) W).mono fun _ _ ⟨he, hb⟩ => ⟨_, _, _, _, _, ⟨he, hb⟩, rfl, rfl, rfl, rfl, rfl⟩) w
theorem all_multiply (a b : Va) (k p q n : Int) (vy : Bool) (pic : ByteArray) (hp : pic.size ≤ maxLen) (sa : a.s.size ≤ maxLen) (sb : b.s.size ≤ maxLen) :
   ∃ k1 N Q c er : Int, (∀ w, Calls Tryz.prog 12 #[a.v, b.v, tyV k p q n vy pic] w (Gives3 (Ex5 k1 N Q c er) w)) ∧ (∀ w, Calls Tryz.prog 13 #[a.v, b.v, tyV k p q n vy pic] w (Gives3 (Ex5 k1 N Q c er) w)) := by
 by_cases h0 : askE [a, b] (validS k p q n vy pic) k = 0
 · obtain ⟨ga, gb, ka, kb, P, Q, rfl, rfl, rfl, rfl, rfl, hT⟩ := asks_num h0
   obtain ⟨N, Q, c, x1, x2⟩ := two_multiply hT ga gb ka kb sa sb (right_yes ga) (right_yes gb)
   exact ⟨_, _, _, _, _, x1, x2⟩
 · refine ⟨0, 0, 0, 0, _, fun w => multiply_prog a b w fun W => (reck_err a b _ hp rfl h0 W).mono fun _ _ ⟨he, hb⟩ => ⟨_, _, _, _, _, ⟨he, hb⟩, rfl, rfl, rfl, rfl, rfl⟩, fun w => ?_⟩
   exact multiply_ref (fun W => (do_err h0 (asks_e hp sa sb rfl) W).mono fun _ _ ⟨he, hb⟩ => ⟨_, _, _, _, _, ⟨he, hb⟩, rfl, rfl, rfl, rfl, rfl⟩) w
theorem all_divide (a b : Va) (k p q n : Int) (vy : Bool) (pic : ByteArray) (hp : pic.size ≤ maxLen) (sa : a.s.size ≤ maxLen) (sb : b.s.size ≤ maxLen) :
   ∃ k1 N Q c er : Int, (∀ w, Calls Tryz.prog 14 #[a.v, b.v, tyV k p q n vy pic] w (Gives3 (Ex5 k1 N Q c er) w)) ∧ (∀ w, Calls Tryz.prog 15 #[a.v, b.v, tyV k p q n vy pic] w (Gives3 (Ex5 k1 N Q c er) w)) := by
 by_cases h0 : askE [a, b] (validS k p q n vy pic) k = 0
 · obtain ⟨ga, gb, ka, kb, P, Q, rfl, rfl, rfl, rfl, rfl, hT⟩ := asks_num h0
   by_cases hb0 : b.num = 0
   · obtain ⟨x1, x2⟩ := two_divide_0 hT ga gb ka kb sa sb (right_yes ga) (right_yes gb) hb0
     exact ⟨_, _, _, _, _, x1, x2⟩
   · obtain ⟨N, Q, c, x1, x2⟩ := two_divide hT ga gb ka kb sa sb (right_yes ga) (right_yes gb) hb0
     exact ⟨_, _, _, _, _, x1, x2⟩
 · refine ⟨0, 0, 0, 0, _, fun w => divide_prog a b w fun W => (reck_err a b _ hp rfl h0 W).mono fun _ _ ⟨he, hb⟩ => ⟨_, _, _, _, _, ⟨he, hb⟩, rfl, rfl, rfl, rfl, rfl⟩, fun w => ?_⟩
   exact divide_ref (fun W => (do_err h0 (asks_e hp sa sb rfl) W).mono fun _ _ ⟨he, hb⟩ => ⟨_, _, _, _, _, ⟨he, hb⟩, rfl, rfl, rfl, rfl, rfl⟩) w
theorem all_modulo (a b : Va) (k p q n : Int) (vy : Bool) (pic : ByteArray) (hp : pic.size ≤ maxLen) (sa : a.s.size ≤ maxLen) (sb : b.s.size ≤ maxLen) :
   ∃ k1 N Q c er : Int, (∀ w, Calls Tryz.prog 16 #[a.v, b.v, tyV k p q n vy pic] w (Gives3 (Ex5 k1 N Q c er) w)) ∧ (∀ w, Calls Tryz.prog 17 #[a.v, b.v, tyV k p q n vy pic] w (Gives3 (Ex5 k1 N Q c er) w)) := by
 by_cases h0 : askE [a, b] (validS k p q n vy pic) k = 0
 · obtain ⟨ga, gb, ka, kb, P, Q, rfl, rfl, rfl, rfl, rfl, hT⟩ := asks_num h0
   by_cases hb0 : b.num = 0
   · obtain ⟨x1, x2⟩ := two_modulo_0 hT ga gb ka kb sa sb (right_yes ga) (right_yes gb) hb0
     exact ⟨_, _, _, _, _, x1, x2⟩
   · obtain ⟨N, Q, c, x1, x2⟩ := two_modulo hT ga gb ka kb sa sb (right_yes ga) (right_yes gb) hb0
     exact ⟨_, _, _, _, _, x1, x2⟩
 · refine ⟨0, 0, 0, 0, _, fun w => modulo_prog a b w fun W => (reck_err a b _ hp rfl h0 W).mono fun _ _ ⟨he, hb⟩ => ⟨_, _, _, _, _, ⟨he, hb⟩, rfl, rfl, rfl, rfl, rfl⟩, fun w => ?_⟩
   exact (modulo_err h0 (asks_e hp sa sb rfl) w).mono fun _ _ ⟨he, hb⟩ => ⟨_, _, _, _, _, ⟨he, hb⟩, rfl, rfl, rfl, rfl, rfl⟩
theorem sgnZ_mul (x : Int) {c : Nat} (h : 0 < c) : sgnZ (x * (c : Int)) = sgnZ x := by
 have hc : (0 : Int) < (c : Int) := Int.natCast_pos.2 h
 unfold sgnZ
 by_cases h1 : x < 0
 · have := Int.mul_neg_of_neg_of_pos h1 hc
   rw [if_pos this, if_pos h1]
 · by_cases h2 : x = 0
   · subst h2
     rw [Int.zero_mul]
   · have := Int.mul_pos (show 0 < x by omega) hc
     rw [if_neg (by omega), if_neg (by omega), if_neg h1, if_neg h2]
theorem sgnZ_pl (a b : Va) : sgnZ (plN a.num a.den (-b.num) b.den) = sgnZ (a.num * b.den - b.num * a.den) := by
 have h := pl_cross a.num (-b.num) a.den b.den
 have e1 := sgnZ_mul (plN a.num a.den (-b.num) b.den) (Nat.mul_pos a.den_pos b.den_pos)
 have e2 := sgnZ_mul (a.num * b.den + -b.num * a.den) (pl_pos a.den_pos b.den_pos)
 rw [← e1, h, e2, Int.neg_mul, Int.sub_eq_add_neg]
theorem all_compare (a b : Va) (sa : a.s.size ≤ maxLen) (sb : b.s.size ≤ maxLen) :
   ∃ o er : Int, (∀ w, Calls Tryz.prog 6 #[a.v, b.v] w fun e w' => e = .returned (.tuple #[.int .i64 o, .int .i64 er]) ∧ Below w.heap.size w w') ∧
     (∀ w, Calls Tryz.prog 7 #[a.v, b.v] w fun e w' => e = .returned (.tuple #[.int .i64 o, .int .i64 er]) ∧ Below w.heap.size w w') ∧ er = numE [a, b] ∧ (er = 0 → o = sgnZ (a.num * b.den - b.num * a.den)) := by
 have hN : ∀ (c cap : Nat) (W : World), VasAt W c 0 [a, b] → c < W.heap.size → Calls Tryz.prog 25 #[.slice (some ⟨c, 0, none⟩) 2 cap] W fun e w' => e = .returned (.int .i64 (numE [a, b])) ∧ Below W.heap.size W w' := fun c cap W h hc => numbers_d [a, b] c 0 cap W h (by simp) hc (by simp [sa, sb])
 have hDR : ∀ (c cap : Nat) (W : World), VasAt W c 0 [a, b] → c < W.heap.size → Calls Tryz.prog 21 #[.slice (some ⟨c, 0, none⟩) 2 cap] W fun e w' => e = (if [a, b].all Va.goodB then .returned (.tuple #[]) else dRef 1) ∧ Below W.heap.size W w' := fun c cap W h hc => demRight_ex [a, b] c 0 cap W h (by simp) hc
 cases hg : [a, b].all Va.goodB
 · have e0 : numE [a, b] = 1 := by unfold numE; rw [hg, if_neg (by decide)]
   rw [e0] at hN
   refine ⟨0, 1, fun w => ?_, fun w => rcompare_err (by decide) hN w, e0.symm, fun h => absurd h (by decide)⟩
   exact compare_e a b 1 w fun pa pb po W RA RB RO h1 h2 => cmpE_no a b pa pb po 0 W RA RB RO (fun c cap W h hc => (hDR c cap W h hc).mono fun e w' he => by rw [hg] at he; exact he) h1 h2
 · have hDR' : ∀ (c cap : Nat) (W : World), VasAt W c 0 [a, b] → c < W.heap.size → Calls Tryz.prog 21 #[.slice (some ⟨c, 0, none⟩) 2 cap] W fun e w' => e = .returned (.tuple #[]) ∧ Below W.heap.size W w' := fun c cap W h hc => (hDR c cap W h hc).mono fun e w' he => by rw [hg] at he; exact he
   have hg2 : Va.goodB a = true ∧ Va.goodB b = true := by simpa using hg
   have ga := good_ofB hg2.1
   have gb := good_ofB hg2.2
   have ra := right_of_good a ga
   have rb := right_of_good b gb
   by_cases ka : a.number
   · by_cases kb : b.number
     · have e0 : numE [a, b] = 0 := by
         have e3 := (numB_iff a).2 ka
         have e4 := (numB_iff b).2 kb
         unfold numE
         rw [hg, if_pos rfl]
         simp [e3, e4]
       rw [e0] at hN
       obtain ⟨la, da⟩ := good_lens a ga ka
       obtain ⟨lb, db⟩ := good_lens b gb kb
       refine ⟨sgnZ (a.num * b.den - b.num * a.den), 0, fun w => ?_, fun w => rcompare_num ra rb ka kb la lb da db hN w, e0.symm, fun _ => rfl⟩
       have h := compare_e a b 0 w fun pa pb po W RA RB RO h1 h2 => cmpE_yes a b pa pb po 0 W RA RB RO hDR' ra rb ka kb h1 h2
       rw [if_pos rfl, sgnZ_pl] at h
       exact h
     · have e0 : numE [a, b] = 10 := by
         have e4 : Va.numB b = false := by rw [← Bool.not_eq_true]; exact fun h => kb ((numB_iff b).1 h)
         unfold numE
         rw [hg, if_pos rfl]
         simp [e4]
       rw [e0] at hN
       refine ⟨0, 10, fun w => ?_, fun w => rcompare_err (by decide) hN w, e0.symm, fun h => absurd h (by decide)⟩
       exact compare_e a b 10 w fun pa pb po W RA RB RO h1 h2 => cmpE_noB a b pa pb po 0 W RA RB RO hDR' ra ka kb h1 h2
   · have e0 : numE [a, b] = 10 := by
       have e4 : Va.numB a = false := by rw [← Bool.not_eq_true]; exact fun h => ka ((numB_iff a).1 h)
       unfold numE
       rw [hg, if_pos rfl]
       simp [e4]
     rw [e0] at hN
     refine ⟨0, 10, fun w => ?_, fun w => rcompare_err (by decide) hN w, e0.symm, fun h => absurd h (by decide)⟩
     exact compare_e a b 10 w fun pa pb po W RA RB RO h1 h2 => cmpE_noA a b pa pb po 0 W RA RB RO hDR' ka h1 h2
theorem numE_comm (a b : Va) : numE [a, b] = numE [b, a] := by
 unfold numE
 simp only [List.all_cons, List.all_nil, Bool.and_true]
 rw [Bool.and_comm (Va.goodB a), Bool.and_comm (Va.numB a)]
theorem sgnZ_neg (x : Int) : sgnZ (-x) = -sgnZ x := by
 unfold sgnZ
 by_cases h1 : x < 0
 · rw [if_neg (by omega), if_neg (by omega), if_pos h1]
   rfl
 · by_cases h2 : x = 0
   · subst h2
     rfl
   · rw [if_pos (by omega), if_neg h1, if_neg h2]
theorem all_compare2 (a b : Va) (sa : a.s.size ≤ maxLen) (sb : b.s.size ≤ maxLen) :
   ∃ o er o2 er2 : Int, (∀ w, Calls Tryz.prog 6 #[a.v, b.v] w fun e w' => e = .returned (.tuple #[.int .i64 o, .int .i64 er]) ∧ Below w.heap.size w w') ∧
     (∀ w, Calls Tryz.prog 7 #[a.v, b.v] w fun e w' => e = .returned (.tuple #[.int .i64 o, .int .i64 er]) ∧ Below w.heap.size w w') ∧
     (∀ w, Calls Tryz.prog 6 #[b.v, a.v] w fun e w' => e = .returned (.tuple #[.int .i64 o2, .int .i64 er2]) ∧ Below w.heap.size w w') ∧ (er = 0 → er2 = 0 ∧ o2 = -o ∧ -1 ≤ o ∧ o ≤ 1) := by
 obtain ⟨o, er, h1, h2, h3, h4⟩ := all_compare a b sa sb
 obtain ⟨o2, er2, h5, h6, h7, h8⟩ := all_compare b a sb sa
 by_cases h0 : er = 0
 · have e2 : er2 = 0 := by rw [h7, numE_comm, ← h3, h0]
   have eo := h4 h0
   refine ⟨o, er, o2, er2, h1, h2, h5, fun _ => ⟨e2, ?_, ?_⟩⟩
   · rw [h8 e2, eo, ← sgnZ_neg]
     congr 1
     omega
   · rw [eo]
     unfold sgnZ
     split
     · decide
     · split <;> decide
 · exact ⟨o, er, o2, er2, h1, h2, h5, fun h => absurd h h0⟩
end Go.Proofs.YtpdoddhieblooaaGreatDoor
