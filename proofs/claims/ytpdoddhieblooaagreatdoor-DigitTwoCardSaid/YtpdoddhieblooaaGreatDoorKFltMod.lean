/- digit.divided by one word; digit.ended, cut. long.int: a long number as a plain one. digit: exact numbers: times; digit.ended, rounded to the nearest. digit: exact numbers: floor and modulo. -/
import Derived.Test.YtpdoddhieblooaaGreatDoorKWrdShare
import Derived.Test.YtpdoddhieblooaaGreatDoorKWrdDiff
import Derived.Test.YtpdoddhieblooaaGreatDoorKWrdXs
import Derived.Test.YtpdoddhieblooaaGreatDoorKFltPure
namespace Go.Proofs.YtpdoddhieblooaaGreatDoor
open Go.RowKit

set_option maxHeartbeats 1600000 in
set_option maxRecDepth 100000 in
theorem natural32_any (n : Nat) (w : World) (hn : n < 4294967296) :
   Calls Tryz.prog 146 #[.int .u32 (n : Int)] w fun e w' => ∃ v, e = .returned v ∧ w'.ownsRow w.heap.size 104 1 v (wrds n).length (wcells (wrds n)) ∧ Below w.heap.size w w' := by
 obtain ⟨i0, hi, hz0, hz1, hz2⟩ := info_parts Tryz.infoWord
 have hlen := wrds_length n 2 (by omega)
 have hmk : (Instr.makeSlice 39 (.int .i64 0) (.int .i64 2)).run Tryz.prog w = .ok (.slice (some ⟨w.heap.size, 0, none⟩) 0 2) (w.alloc (.cells #[.int .u32 0, .int .u32 0] 104)) := by kernel_rfl
 go_enter Tryz.func146, Tryz.ntmps146
 go_wp2
 go_loopw [3, 4] (fun v i wr => ∃ (m : Nat) (l : List Nat), i = .int .u64 (m : Int) ∧ m ≤ n ∧ l ++ wrds m = wrds n ∧ wr.ownsRow w.heap.size 104 1 v l.length (wcells l) ∧ Below w.heap.size w wr)
   (fun _ i _ => (intOf i).toNat)
 case atStart => exact ⟨n, [], rfl, Nat.le_refl _, rfl, ⟨rfl, .inr ⟨w.heap.size, 2, #[.int .u32 0, .int .u32 0], rfl, Nat.le_refl _, heap_alloc_new w _, by decide, by decide, rfl, rfl⟩⟩, (Below.refl _ w).alloc (Nat.le_refl _) _⟩
 case round =>
   obtain ⟨m, l, rfl, hm, hl, hown, hnx⟩ := hrel
   have hll : l.length ≤ 2 := by have := congrArg List.length hl; rw [List.length_append] at this; omega
   have hsz := hnx.size
   by_cases hpos : 0 < m
   · have hc31 : ((m : Int) % 4294967296) = ((m % 4294967296 : Nat) : Int) := by omega
     have HC := Lib.hid hc31
     have HL := Lib.hid hl
     clear hc31 hl
     go_wp2_with (at_builtin; refine wpList_append_own _ rfl _ _ 39 rfl w.heap.size 104 i0 (.int .u32 0) 1 4 Tryz.underlying39 hi hz0 hz1 hz2 rfl (by decide) _ _ _ rfl (hown.alloc _) ⟨wr.heap.size, 0, none⟩ 1 1 [.int .u32 ((m : Int) % 4294967296)] rfl rfl ?c1 ?c2 ?c3 ?c4 ?c5 ?_)
     case c1 =>
       intro j u hj
       match j, hj with
       | 0, hj => simp at hj; subst hj; simp [Addr.add] <;> omega
     case c2 => intro u hu; simp at hu; subst hu; rfl
     case c3 => unfold maxLen; omega
     case c4 => omega
     case c5 => simp; omega
     intro v' w1 hown' hgrow _
     have R : w1.ownsRow w.heap.size 104 1 v' (l ++ [m % 4294967296]).length (wcells (l ++ [m % 4294967296])) ∧ Below w.heap.size w w1 := by
       rw [HC.out] at hown'
       exact ⟨by simpa [wcells] using hown', (hnx.alloc (by omega) _).grown hgrow (by simp; omega) (fun j hj => (hown.lt j hj).1)⟩
     have HR := Lib.hid R
     clear hown' hgrow hown R
     go_wp2
     case roundEnd =>
       refine ⟨⟨m / 4294967296, l ++ [m % 4294967296], by rw [show ((m / 4294967296 : Nat) : Int) = (m : Int) / 4294967296 by omega], by omega, ?_, HR.out.1, HR.out.2⟩, by simp [intOf]; omega⟩
       rw [List.append_assoc, List.singleton_append, ← wrds_pos m hpos]; exact HL.out
   · have h0 : m = 0 := by omega
     subst h0
     rw [wrds_zero, List.append_nil] at hl
     subst hl
     go_wp2
     go_ret
     exact ⟨_, rfl, hown, hnx⟩
theorem natural32_d (n : Nat) (w : World) (hn : n < 4294967296) : Calls Tryz.prog 146 #[.int .u32 (n : Int)] w (GivesW w n) :=
 (natural32_any n w hn).mono fun _ _ h => givesW_of h
def GivesQ (w : World) (a b : Nat) (e : Ending) (w' : World) : Prop := ∃ vq vr, e = .returned (.tuple #[vq, vr]) ∧ WArg w.heap.size w' vq (a / b) ∧ WArg w.heap.size w' vr (a % b) ∧ Below w.heap.size w w'
def DivOK (a b : Nat) : Prop := ∀ (B C : Nat) (va vb : Value) (W : World), WArg B W va a → WArg C W vb b → Calls Tryz.prog 116 #[va, vb] W (GivesQ W a b)
theorem wrds_one {b : Nat} (h0 : 0 < b) (h1 : b < 4294967296) : wrds b = [b] := by
 rw [wrds_pos b h0, Nat.mod_eq_of_lt h1, Nat.div_eq_of_lt h1, wrds_zero]
set_option maxHeartbeats 2000000 in
set_option maxRecDepth 100000 in
theorem divided_1 {a b : Nat} (h0 : 0 < b) (h1 : b < 4294967296) (hle : b ≤ a) (la : (wrds a).length ≤ 10000) : DivOK a b := by
 intro B C va vb w hA hB
 obtain ⟨pa, ka, rfl⟩ := hA.slice
 have e1 := wrds_one h0 h1
 obtain ⟨pb, bb, kb, rfl, b1, b2, b3, b4⟩ := hB.parts
 have hl1 : (wrds b).length = 1 := by rw [e1]; rfl
 obtain rfl := b1 (by omega)
 have hc0 : w.cell? ⟨bb, 0, none⟩ = some (.int .u32 (b : Int)) := by
   have := b3 0 (by omega)
   simpa [e1] using this
 have hbb := b4 (by omega)
 have HCM := Lib.hid (compare_d hA hB (by omega) (by omega))
 have hcz : cmpZ a b = 0 ∨ cmpZ a b = 1 := by
   by_cases h : a = b
   · exact .inl (cmpZ_eq (by omega))
   · exact .inr (cmpZ_gt (by omega))
 have hcz' : ¬ cmpZ a b < 0 := by rcases hcz with h | h <;> rw [h] <;> decide
 obtain ⟨cz, hcze⟩ : ∃ cz, cmpZ a b = cz := ⟨_, rfl⟩
 rw [hcze] at HCM hcz'
 have HA := Lib.hid hA
 have HSH : Hid (∀ (W : World), Below w.heap.size w W → Calls Tryz.prog 145 #[.slice pa (wrds a).length ka, .int .u32 (b : Int)] W fun e w' => ∃ q, e = .returned (.tuple #[q, .int .u32 ((a % b : Nat) : Int)]) ∧ WArg W.heap.size w' q (a / b) ∧ Below W.heap.size W w') := Lib.hid fun W hW => shared_d (HA.out.keep hW (Nat.le_refl _)) la b h0 h1
 have hmod : a % b < 4294967296 := Nat.lt_trans (Nat.mod_lt _ h0) h1
 obtain ⟨r, hr⟩ : ∃ r, a % b = r := ⟨_, rfl⟩
 obtain ⟨q, hq⟩ : ∃ q, a / b = q := ⟨_, rfl⟩
 have HR : Hid (a % b = r) := Lib.hid hr
 have HQ : Hid (a / b = q) := Lib.hid hq
 rw [hr, hq] at HSH
 rw [hr] at hmod
 have HNA : Hid (∀ W, Calls Tryz.prog 146 #[.int .u32 (r : Int)] W (GivesW W r)) := Lib.hid fun W => natural32_d r W hmod
 rw [hl1] at HCM ⊢
 clear hA hB HA b1 b2 b3 b4 hl1 e1 hcz hcze hmod hr hq hle
 go_enter Tryz.func116, Tryz.ntmps116
 go_wp2_with (first
   | (go_at_call 58; refine HCM.out.mono ?_; rintro e w1 ⟨rfl, hb1⟩; have c1 := (hb1.cell (p := ⟨bb, 0, none⟩) hbb).trans hc0)
   | (go_at_call 145; refine (HSH.out _ hb1).mono ?_; rintro e w2 ⟨v2, rfl, W2, hb2⟩; have W2' := Lib.hid W2; obtain ⟨p2, k2, rfl⟩ := W2.slice; clear W2)
   | (go_at_call 146; refine (HNA.out _).mono ?_; rintro e w3 ⟨v3, rfl, W3, hb3⟩; have W3' := Lib.hid W3; obtain ⟨p3, k3, rfl⟩ := W3.slice; clear W3))
 refine bodyPost_ret (v := .tuple #[.slice p2 (wrds q).length k2, .slice p3 (wrds r).length k3]) (by simp [results, Tryz.results116, go_sem]) rfl ⟨_, _, rfl, ?_, ?_, ?_⟩
 · rw [HQ.out]; exact (W2'.out.keep hb3 (Nat.le_refl _)).base hb1.size
 · rw [HR.out]; exact W3'.out.base (Nat.le_trans hb1.size hb2.size)
 · exact bl_then hb1 (bl_then hb2 hb3)
set_option maxHeartbeats 1000000 in
set_option maxRecDepth 100000 in
theorem ended_cut {B C a u : Nat} {va vu : Value} {w : World} (hD : DivOK a u) (hA : WArg B w va a) (hU : WArg C w vu u) :
   Calls Tryz.prog 133 #[va, vu, .int .i64 0] w (GivesW w (a / u)) := by
 have HD := Lib.hid (hD _ _ _ _ _ hA hU)
 obtain ⟨pa, ka, rfl⟩ := hA.slice
 obtain ⟨pu, ku, rfl⟩ := hU.slice
 obtain ⟨q, hq⟩ : ∃ q, a / u = q := ⟨_, rfl⟩
 obtain ⟨r, hr⟩ : ∃ r, a % u = r := ⟨_, rfl⟩
 unfold GivesQ at HD
 rw [hq, hr] at HD
 rw [hq]
 clear hD hA hU hq hr
 go_enter Tryz.func133, Tryz.ntmps133
 go_wp2_with (go_at_call 116; refine HD.out.mono ?_; rintro e w2 ⟨v2, v3, rfl, W2, W3, hb2⟩; have W2' := Lib.hid W2; obtain ⟨p2, k2, rfl⟩ := W2.slice; obtain ⟨p3, k3, rfl⟩ := W3.slice; clear W2 W3)
 go_ret
 exact ⟨_, rfl, W2'.out, hb2⟩
end Go.Proofs.YtpdoddhieblooaaGreatDoor
namespace Go.Proofs.YtpdoddhieblooaaGreatDoor
open Go.RowKit

theorem wrd_two {n : Nat} (h : n < 18446744073709551616) : wrd n 1 * 4294967296 + wrd n 0 = n := by
 have e0 := wval_drop (wrds n) 0
 have e1 := wval_drop (wrds n) 1
 have e2 : wval ((wrds n).drop 2) = 0 := wval_drop_end _ _ (wrds_length n 2 (by omega))
 rw [List.drop_zero, wval_digs] at e0
 show (((wrds n)[1]?).getD 0) * 4294967296 + (((wrds n)[0]?).getD 0) = n
 rw [show (1 + 1 : Nat) = 2 from rfl, e2] at e1
 rw [show (0 + 1 : Nat) = 1 from rfl] at e0
 omega
set_option maxRecDepth 100000 in
set_option maxHeartbeats 2000000 in
theorem int_l {B : Nat} {z : Int} {v : Value} {w : World} (hL : LArg B w v z) (h1 : -9223372036854775808 < z) (h2 : z < 9223372036854775808) :
   Calls Tryz.prog 134 #[v] w fun e w' => e = .returned (.int .i64 z) ∧ Below w.heap.size w w' := by
 obtain ⟨sl, rfl, hA⟩ := hL
 have hn := wrd_two (n := z.natAbs) (by omega)
 have x1 := wrd_lt z.natAbs 1
 have x0 := wrd_lt z.natAbs 0
 have HA := Lib.hid hA
 have HW : Hid (∀ (i : Nat) (W : World), i ≤ 1 → Below w.heap.size w W → Calls Tryz.prog 143 #[sl, .int .i64 (i : Int)] W fun e w' => e = .returned (.int .u64 (wrd z.natAbs i : Int)) ∧ w' = W) := by
   show ∀ (_ : Nat), _
   exact fun i W hi hW => (word_d (HA.out.keep hW (Nat.le_refl _)) i (Nat.le_trans (wrds_length z.natAbs 2 (by omega)) (by decide)) (by omega)).mono fun _ _ ⟨h1, h2⟩ => ⟨h1, h2.symm⟩
 obtain ⟨p, k, rfl⟩ := hA.slice
 obtain ⟨wh, hwh⟩ : ∃ x, wrd z.natAbs 1 = x := ⟨_, rfl⟩
 obtain ⟨wl, hwl⟩ : ∃ x, wrd z.natAbs 0 = x := ⟨_, rfl⟩
 have HW1 : Hid (∀ (W : World), Below w.heap.size w W → Calls Tryz.prog 143 #[.slice p (wrds z.natAbs).length k, .int .i64 1] W fun e w' => e = .returned (.int .u64 (wh : Int)) ∧ w' = W) := Lib.hid fun W hW => by
   rw [← hwh]; exact HW.out 1 W (by decide) hW
 have HW0 : Hid (∀ (W : World), Below w.heap.size w W → Calls Tryz.prog 143 #[.slice p (wrds z.natAbs).length k, .int .i64 0] W fun e w' => e = .returned (.int .u64 (wl : Int)) ∧ w' = W) := Lib.hid fun W hW => by
   rw [← hwl]; exact HW.out 0 W (by decide) hW
 rw [hwh, hwl] at hn
 rw [hwh] at x1
 rw [hwl] at x0
 have hor := or_words wh wl x1 x0
 obtain ⟨N, hN⟩ : ∃ N, wh * 4294967296 + wl = N := ⟨_, rfl⟩
 rw [hN] at hor hn
 have hNz : N = z.natAbs := by omega
 have hw1 : IntKind.u64.wrap ((wh : Int) * 4294967296) = (wh : Int) * 4294967296 := IntWalk.u64_in _ (by omega)
 have hw2 : IntKind.i64.wrap (N : Int) = N := IntWalk.i64_in _ (by omega)
 have HZ := Lib.hid hNz
 have RA := Row.new w (lgC (.slice p (wrds z.natAbs).length k) (decide (z < 0))) 41
 clear hA HA HW hwh hwl hn hN
 have HB : Hid (Below w.heap.size w (w.alloc (.cells (lgC (.slice p (wrds z.natAbs).length k) (decide (z < 0))) 41))) := Lib.hid ((Below.refl _ w).alloc (Nat.le_refl _) _)
 by_cases hz : z < 0
 · have hw3 : IntKind.i64.wrap (-(N : Int)) = -(N : Int) := IntWalk.i64_in _ (by omega)
   have HR : Hid (-(N : Int) = z) := Lib.hid (by omega)
   rw [decide_eq_true hz] at RA HB ⊢
   clear hz hNz
   go_enter Tryz.func134, Tryz.ntmps134
   go_wp2
   generalize hw : w.alloc (.cells (lgC (.slice p (wrds z.natAbs).length k) true) 41) = W at *
   clear hw
   obtain ⟨c0, c1⟩ := RA.lg
   go_quiet ((go_at_call 143; first | (with_reducible exact Calls.quiet_of_same (HW1.out _ (below_drewN HB.out _))) | (with_reducible exact Calls.quiet_of_same (HW0.out _ (below_drewN HB.out _)))))
   have hB := Lib.hid (below_drewN HB.out nq)
   have d0 : (W.drewN nq).cell? ⟨w.heap.size, 0, none⟩ = _ := c0
   have d1 : (W.drewN nq).cell? ⟨w.heap.size, 1, none⟩ = _ := c1
   go_wp2
   go_ret
   exact ⟨by rw [HR.out]; rfl, hB.out⟩
 · have HR : Hid ((N : Int) = z) := Lib.hid (by omega)
   rw [decide_eq_false hz] at RA HB ⊢
   clear hz hNz
   go_enter Tryz.func134, Tryz.ntmps134
   go_wp2
   generalize hw : w.alloc (.cells (lgC (.slice p (wrds z.natAbs).length k) false) 41) = W at *
   clear hw
   obtain ⟨c0, c1⟩ := RA.lg
   go_quiet ((go_at_call 143; first | (with_reducible exact Calls.quiet_of_same (HW1.out _ (below_drewN HB.out _))) | (with_reducible exact Calls.quiet_of_same (HW0.out _ (below_drewN HB.out _)))))
   have hB := Lib.hid (below_drewN HB.out nq)
   have d0 : (W.drewN nq).cell? ⟨w.heap.size, 0, none⟩ = _ := c0
   have d1 : (W.drewN nq).cell? ⟨w.heap.size, 1, none⟩ = _ := c1
   go_wp2
   go_ret
   exact ⟨by rw [HR.out]; rfl, hB.out⟩
end Go.Proofs.YtpdoddhieblooaaGreatDoor
namespace Go.Proofs.YtpdoddhieblooaaGreatDoor
open Go.RowKit

theorem mul_sign (a b : Int) (h : a * b ≠ 0) : (decide (a < 0) != decide (b < 0)) = decide (a * b < 0) := by
 have ha : a ≠ 0 := by rintro rfl; apply h; simp
 have hb : b ≠ 0 := by rintro rfl; apply h; simp
 by_cases h1 : a < 0 <;> by_cases h2 : b < 0
 · have := Int.mul_pos_of_neg_of_neg h1 h2
   rw [decide_eq_true h1, decide_eq_true h2, decide_eq_false (by omega)]; rfl
 · have := Int.mul_neg_of_neg_of_pos h1 (show 0 < b by omega)
   rw [decide_eq_true h1, decide_eq_false h2, decide_eq_true this]; rfl
 · have := Int.mul_neg_of_pos_of_neg (show 0 < a by omega) h2
   rw [decide_eq_false h1, decide_eq_true h2, decide_eq_true this]; rfl
 · have := Int.mul_pos (show 0 < a by omega) (show 0 < b by omega)
   rw [decide_eq_false h1, decide_eq_false h2, decide_eq_false (by omega)]; rfl
set_option maxRecDepth 100000 in
set_option maxHeartbeats 8000000 in
theorem times_x {P : Nat → Prop} {a b : Int} {u t : Nat} {va vb : Value} {w : World} (hX : XArgP P w va a u) (hY : XArgP P w vb b t) (hP : ∀ c, w.heap.size ≤ c → P c) (la : (wrds a.natAbs).length ≤ 4000) (lb : (wrds b.natAbs).length ≤ 4000) (lu : (wrds u).length ≤ 4000) (lt : (wrds t).length ≤ 4000) :
   Calls Tryz.prog 31 #[va, vb] w fun e w' => ∃ y, e = .returned y ∧ XArgP P w' y (a * b) (u * t) ∧ Below w.heap.size w w' := by
 obtain ⟨pa, ka, qa, ma, rfl⟩ := hX.x.open
 obtain ⟨pb, kb, qb, mb, rfl⟩ := hY.x.open
 have HX := Lib.hid hX.x
 have HY := Lib.hid hY.x
 have HPP := Lib.hid hP
 clear hX hY hP
 have hng := mul_sign a b
 have hab : (a * b).natAbs = a.natAbs * b.natAbs := Int.natAbs_mul _ _
 have k1 := wrds_mul_len a.natAbs b.natAbs
 obtain ⟨Z, hZ⟩ : ∃ Z : Int, a * b = Z := ⟨_, rfl⟩
 obtain ⟨U, hU⟩ : ∃ U : Nat, u * t = U := ⟨_, rfl⟩
 rw [hZ] at hng hab ⊢
 obtain ⟨da, hda⟩ : ∃ d, decide (a < 0) = d := ⟨_, rfl⟩
 obtain ⟨db, hdb⟩ : ∃ d, decide (b < 0) = d := ⟨_, rfl⟩
 rw [hda] at HX hng ⊢
 rw [hdb] at HY hng ⊢
 obtain ⟨dx, hdx⟩ : ∃ d, (da != db) = d := ⟨_, rfl⟩
 rw [hdx] at hng
 have HPA : Hid (∀ (W : World), Below w.heap.size w W → Calls Tryz.prog 61 #[.slice pa (wrds a.natAbs).length ka, .slice pb (wrds b.natAbs).length kb] W (GivesW W Z.natAbs)) := Lib.hid fun W hW => by
   rw [hab]; exact product_d (HX.out.args.1.keep hW (Nat.le_refl _)) (HY.out.args.1.keep hW (Nat.le_refl _)) (by omega) (by omega)
 have HPU : Hid (∀ (W : World), Below w.heap.size w W → Calls Tryz.prog 61 #[.slice qa (wrds u).length ma, .slice qb (wrds t).length mb] W (GivesW W U)) := Lib.hid fun W hW => by
   rw [← hU]; exact product_d (HX.out.args.2.1.keep hW (Nat.le_refl _)) (HY.out.args.2.1.keep hW (Nat.le_refl _)) (by omega) (by omega)
 have HSG : Hid (∀ (B : Nat) (v : Value) (W : World), WArg B W v Z.natAbs → Calls Tryz.prog 62 #[v, .bool dx] W fun e w' => ∃ s, e = .returned s ∧ LArg B w' s Z ∧ Below W.heap.size W w') := Lib.hid fun B v W h => signed_z h (by rw [hab]; omega) hng
 rw [hU]
 have hqn : ∀ W, (binOp .neq 4 (.bool da) (.bool db)).run Tryz.prog W = .ok (.bool dx) W := fun W => by
   rw [← hdx]; cases da <;> cases db <;> kernel_rfl
 clear hda hdb hZ hU hng hab k1 HX HY hdx
 have RA := ((Row.new w (exC (.slice pa (wrds a.natAbs).length ka) da (.slice qa (wrds u).length ma)) 43).alloc (.cells (exC (.slice pb (wrds b.natAbs).length kb) db (.slice qb (wrds t).length mb)) 43)).alloc (.cells (exC (.slice none 0 0) false (.slice none 0 0)) 43)
 have RC := (Row.new2 w (.cells (exC (.slice pa (wrds a.natAbs).length ka) da (.slice qa (wrds u).length ma)) 43) (exC (.slice pb (wrds b.natAbs).length kb) db (.slice qb (wrds t).length mb)) 43).alloc (.cells (exC (.slice none 0 0) false (.slice none 0 0)) 43)
 have RZ := Row.new3 w (.cells (exC (.slice pa (wrds a.natAbs).length ka) da (.slice qa (wrds u).length ma)) 43) (.cells (exC (.slice pb (wrds b.natAbs).length kb) db (.slice qb (wrds t).length mb)) 43) (exC (.slice none 0 0) false (.slice none 0 0)) 43
 go_enter Tryz.func31, Tryz.ntmps31
 go_wp2_with fail
 generalize hw : ((w.alloc (.cells (exC (.slice pa (wrds a.natAbs).length ka) da (.slice qa (wrds u).length ma)) 43)).alloc (.cells (exC (.slice pb (wrds b.natAbs).length kb) db (.slice qb (wrds t).length mb)) 43)).alloc (.cells (exC (.slice none 0 0) false (.slice none 0 0)) 43) = W at *
 have B0 : Hid (Below w.heap.size w W) := by show Below _ _ _; rw [← hw]; go_grown
 have hsz : w.heap.size + 1 + 1 + 1 ≤ W.heap.size := by rw [← hw]; simp
 clear hw
 have n1 : ¬ w.heap.size + 1 + 1 = w.heap.size := by omega
 have n2 : ¬ w.heap.size = w.heap.size + 1 + 1 := by omega
 have n3 : ¬ w.heap.size + 1 + 1 = w.heap.size + 1 := by omega
 have n4 : ¬ w.heap.size + 1 = w.heap.size + 1 + 1 := by omega
 obtain ⟨x0, x1, x2⟩ := RA.ex
 obtain ⟨y0, y1, y2⟩ := RC.ex
 go_region_held3 (fun w' => (w'.cell? ⟨w.heap.size, 0, none⟩ = some (.slice pa (wrds a.natAbs).length ka) ∧ w'.cell? ⟨w.heap.size, 1, none⟩ = some (.bool da) ∧ w'.cell? ⟨w.heap.size, 2, none⟩ = some (.slice qa (wrds u).length ma)) ∧ (w'.cell? ⟨w.heap.size + 1, 0, none⟩ = some (.slice pb (wrds b.natAbs).length kb) ∧ w'.cell? ⟨w.heap.size + 1, 1, none⟩ = some (.bool db) ∧ w'.cell? ⟨w.heap.size + 1, 2, none⟩ = some (.slice qb (wrds t).length mb)))
   (first | go_keep | exact ⟨A3.ex, C3.ex⟩ | exact ⟨A2.ex, C2.ex⟩ | exact ⟨A1.ex, C1.ex⟩ | ((try dsimp only); (repeat' apply And.intro) <;> go_keep))
   (first
     | (go_at_call 61; (with_reducible refine (HPA.out _ (B0.out.drew)).mono ?_); rintro e w1 ⟨v1, rfl, W1, hb1⟩; have A1 := RA.keep (bl_drew hb1); have C1 := RC.keep (bl_drew hb1); have Z1 := RZ.keep (bl_drew hb1); have BW1 := Lib.hid (bl_then B0.out (bl_drew hb1)); have hs1 := Nat.le_trans hsz (bl_drew hb1).size; have W1' := Lib.hid (W1.base (show w.heap.size + 1 + 1 + 1 ≤ _ by simpa using hsz)); obtain ⟨p1, k1, rfl⟩ := W1.slice; clear W1)
     | (go_at_call 62; (with_reducible refine (HSG.out _ _ _ W1'.out).mono ?_); rintro e w2 ⟨v2, rfl, L2, hb2⟩; have A2 := A1.keep hb2; have C2 := C1.keep hb2; have Z2 := Z1.keep hb2; have BW2 := Lib.hid (bl_then BW1.out hb2); have hs2 := Nat.le_trans hs1 hb2.size; have L2' := Lib.hid L2; obtain ⟨p2, k2, rfl⟩ := L2.open; clear L2)
     | (go_at_call 61; (with_reducible refine (HPU.out _ BW2.out).mono ?_); rintro e w3 ⟨v3, rfl, W3, hb3⟩; have A3 := A2.keep hb3; have C3 := C2.keep hb3; have Z3 := Z2.keep hb3; have W3' := Lib.hid (W3.base hs2); obtain ⟨p3, k3, rfl⟩ := W3.slice; clear W3; obtain ⟨z0, z1, z2⟩ := Z3.ex; have f0 := Z3.free 0; have f1 := Z3.free 1; have f2 := Z3.free 2))
 go_wp2
 refine bodyPost_ret (v := exV (.slice p2 (wrds Z.natAbs).length k2) (decide (Z < 0)) (.slice p3 (wrds U).length k3)) (by simp [results, Tryz.results31, go_sem, z0, z1, z2]) rfl ⟨_, rfl, ?_, ?_⟩
 · have h2 := L2'.out.keep hb3 (Nat.le_refl _)
   exact plusx_mk (((h2.put _ _ (by simp)).put _ _ (by simp)).put _ _ (by simp)) (fun c hc => HPP.out c (by omega)) ((((W3'.out.setCell _ (by simp)).setCell _ (by simp)).setCell _ (by simp)).inP fun c hc _ => HPP.out c (by omega))
 · (repeat refine Below.setCell ?_ (by simp <;> omega) _)
   exact bl_then BW2.out hb3
set_option maxHeartbeats 4000000 in
set_option maxRecDepth 100000 in
theorem ended_near {B C a u : Nat} {va vu : Value} {w : World} (hD : DivOK a u) (hA : WArg B w va a) (hU : WArg C w vu u) (hu : 0 < u) (la : (wrds a).length ≤ 9000) (lu : (wrds u).length ≤ 9000) :
   Calls Tryz.prog 133 #[va, vu, .int .i64 1] w (GivesW w (rndN a u)) := by
 have HD := Lib.hid (hD _ _ _ _ _ hA hU)
 have HU := Lib.hid hU
 obtain ⟨pa, ka, rfl⟩ := hA.slice
 obtain ⟨pu, ku, rfl⟩ := hU.slice
 have lr : (wrds (a % u)).length ≤ 9000 := Nat.le_trans (wrds_le_len (Nat.le_of_lt (Nat.mod_lt a hu))) lu
 have lq : (wrds (a / u)).length ≤ 9000 := Nat.le_trans (wrds_le_len (Nat.div_le_self _ _)) la
 have lrr := wrds_add_len (a % u) (a % u)
 have lqq := wrds_add_len (a / u) 1
 have lo : (wrds 1).length ≤ 1 := wrds_length 1 1 (by decide)
 unfold rndN
 unfold GivesQ at HD
 obtain ⟨q, hq⟩ : ∃ q, a / u = q := ⟨_, rfl⟩
 obtain ⟨r, hr⟩ : ∃ r, a % u = r := ⟨_, rfl⟩
 rw [hq, hr] at HD
 rw [hr] at lr lrr
 rw [hq] at lq lqq
 rw [hq, hr]
 obtain ⟨s, hs⟩ : ∃ s, r + r = s := ⟨_, rfl⟩
 have HSR : Hid (∀ (B C : Nat) (v v' : Value) (W : World), WArg B W v r → WArg C W v' r → Calls Tryz.prog 113 #[v, v'] W (GivesW W s)) := Lib.hid fun B C v v' W h h' => by
   rw [← hs]; exact sum_d h h' (by omega) (by omega)
 have HSQ : Hid (∀ (B C : Nat) (v v' : Value) (W : World), WArg B W v q → WArg C W v' 1 → Calls Tryz.prog 113 #[v, v'] W (GivesW W (q + 1))) := Lib.hid fun B C v v' W h h' => sum_d h h' (by omega) (by omega)
 have HNA : Hid (∀ W, Calls Tryz.prog 64 #[.int .i64 1] W (GivesW W 1)) := Lib.hid fun W => natural_d 1 W (by decide)
 have HCM : Hid (∀ (B : Nat) (v : Value) (W : World), WArg B W v s → Below w.heap.size w W → Calls Tryz.prog 58 #[v, .slice pu (wrds u).length ku] W fun e w' => e = .returned (.int .i64 (cmpZ s u)) ∧ Below W.heap.size W w') := Lib.hid fun B v W h hW => compare_d h (HU.out.keep hW (Nat.le_refl _)) (by rw [← hs]; omega) (by omega)
 obtain ⟨c, hc⟩ : ∃ c, cmpZ s u = c := ⟨_, rfl⟩
 rw [hc] at HCM
 by_cases h : u ≤ 2 * r
 · rw [if_pos h]
   have hcz : 0 ≤ c := by
     rw [← hc]
     by_cases he : s = u
     · rw [cmpZ_eq (by omega)]; decide
     · rw [cmpZ_gt (by omega)]; decide
   obtain ⟨Q, hQ⟩ : ∃ Q, q + 1 = Q := ⟨_, rfl⟩
   rw [hQ] at HSQ ⊢
   clear hD hA hU hq hr hs hc h lr lq lrr lqq lo la lu HU hu hQ
   go_enter Tryz.func133, Tryz.ntmps133
   go_wp2_with (first
     | (go_at_call 116; refine HD.out.mono ?_; rintro e w2 ⟨v2, v3, rfl, W2, W3, hb2⟩; have W2' := Lib.hid W2; have W3' := Lib.hid W3; obtain ⟨p2, k2, rfl⟩ := W2.slice; obtain ⟨p3, k3, rfl⟩ := W3.slice; clear W2 W3)
     | (go_at_call 113; (with_reducible refine (HSR.out _ _ _ _ _ W3'.out W3'.out).mono ?_); rintro e w4 ⟨v4, rfl, W4, hb4⟩; have W4' := Lib.hid W4; obtain ⟨p4, k4, rfl⟩ := W4.slice; clear W4; have BW4 := Lib.hid (bl_then hb2 hb4))
     | (go_at_call 58; (with_reducible refine (HCM.out _ _ _ W4'.out BW4.out).mono ?_); rintro e w5 ⟨rfl, hb5⟩; have BW5 := Lib.hid (bl_then BW4.out hb5); have W2'' := Lib.hid ((W2'.out.keep hb4 (Nat.le_refl _)).keep hb5 (Nat.le_refl _)))
     | (go_at_call 64; (with_reducible refine (HNA.out _).mono ?_); rintro e w6 ⟨v6, rfl, W6, hb6⟩; have BW6 := Lib.hid (bl_then BW5.out hb6); have W2a := Lib.hid (W2''.out.keep hb6 (Nat.le_refl _)); have W6' := Lib.hid W6; obtain ⟨p6, k6, rfl⟩ := W6.slice; clear W6)
     | (go_at_call 113; (with_reducible refine (HSQ.out _ _ _ _ _ W2a.out W6'.out).mono ?_); rintro e w7 ⟨v7, rfl, W7, hb7⟩; have BW7 := Lib.hid (bl_then BW6.out hb7); have hs7 := BW6.out.size; have W7' := Lib.hid (W7.base hs7); obtain ⟨p7, k7, rfl⟩ := W7.slice; clear W7))
   go_ret
   exact ⟨_, rfl, W7'.out, BW7.out⟩
 · rw [if_neg h, Nat.add_zero]
   have hcz : ¬ 0 ≤ c := by
     rw [← hc, cmpZ_lt (by omega)]; decide
   clear hD hA hU hq hr hs hc h lr lq lrr lqq lo la lu HU hu
   go_enter Tryz.func133, Tryz.ntmps133
   go_wp2_with (first
     | (go_at_call 116; refine HD.out.mono ?_; rintro e w2 ⟨v2, v3, rfl, W2, W3, hb2⟩; have W2' := Lib.hid W2; have W3' := Lib.hid W3; obtain ⟨p2, k2, rfl⟩ := W2.slice; obtain ⟨p3, k3, rfl⟩ := W3.slice; clear W2 W3)
     | (go_at_call 113; (with_reducible refine (HSR.out _ _ _ _ _ W3'.out W3'.out).mono ?_); rintro e w4 ⟨v4, rfl, W4, hb4⟩; have W4' := Lib.hid W4; obtain ⟨p4, k4, rfl⟩ := W4.slice; clear W4; have BW4 := Lib.hid (bl_then hb2 hb4))
     | (go_at_call 58; (with_reducible refine (HCM.out _ _ _ W4'.out BW4.out).mono ?_); rintro e w5 ⟨rfl, hb5⟩; have BW5 := Lib.hid (bl_then BW4.out hb5); have W2'' := Lib.hid ((W2'.out.keep hb4 (Nat.le_refl _)).keep hb5 (Nat.le_refl _))))
   go_ret
   exact ⟨_, rfl, W2''.out, BW5.out⟩
def flN (z : Int) (u : Nat) : Int := z / (u : Int)
theorem flN_of {z q r : Int} {u : Nat} (hu : 0 < u) (h : r + u * q = z) (h0 : 0 ≤ r) (h1 : r < u) : flN z u = q :=
 ((Int.ediv_emod_unique (show (0 : Int) < u by omega)).2 ⟨h, h0, h1⟩).1
theorem div_parts (n u : Nat) : ((n % u : Nat) : Int) + (u : Int) * ((n / u : Nat) : Int) = n := by
 have h := Nat.mod_add_div n u
 rw [← Int.natCast_mul, ← Int.natCast_add, h]
theorem flN_pos {z : Int} {u : Nat} (hu : 0 < u) (h : ¬ z < 0) : flN z u = ((z.natAbs / u : Nat) : Int) :=
 flN_of hu (r := ((z.natAbs % u : Nat) : Int)) (by rw [div_parts]; omega) (by omega) (by have := Nat.mod_lt z.natAbs hu; omega)
theorem flN_neg0 {z : Int} {u : Nat} (hu : 0 < u) (h : z < 0) (hr : z.natAbs % u = 0) : flN z u = -((z.natAbs / u : Nat) : Int) :=
 flN_of hu (r := 0) (by have := div_parts z.natAbs u; rw [hr] at this; rw [Int.mul_neg]; omega) (by omega) (by omega)
theorem flN_neg1 {z : Int} {u : Nat} (hu : 0 < u) (h : z < 0) (hr : z.natAbs % u ≠ 0) : flN z u = -((z.natAbs / u + 1 : Nat) : Int) :=
 flN_of hu (r := (u : Int) - ((z.natAbs % u : Nat) : Int)) (by have := div_parts z.natAbs u; rw [Int.natCast_add, Int.mul_neg, Int.mul_add]; omega) (by have := Nat.mod_lt z.natAbs hu; omega) (by omega)
theorem flN_abs (z : Int) {u : Nat} (hu : 0 < u) : (flN z u).natAbs ≤ z.natAbs / u + 1 := by
 by_cases h : z < 0
 · by_cases hr : z.natAbs % u = 0
   · rw [flN_neg0 hu h hr, Int.natAbs_neg, Int.natAbs_natCast]; exact Nat.le_succ _
   · rw [flN_neg1 hu h hr, Int.natAbs_neg, Int.natAbs_natCast]; exact Nat.le_refl _
 · rw [flN_pos hu h, Int.natAbs_natCast]; exact Nat.le_succ _
set_option maxRecDepth 100000 in
set_option maxHeartbeats 8000000 in
theorem floor_l {B : Nat} {z : Int} {u : Nat} {v : Value} {w : World} (hX : XArg B w v z u) (hu : 0 < u) (hD : DivOK z.natAbs u) (la : (wrds z.natAbs).length ≤ 9000) :
   Calls Tryz.prog 63 #[v] w (GivesL w (flN z u)) := by
 obtain ⟨px, kx, qx, mx, rfl⟩ := hX.open
 have HDV : Hid (∀ W, Below w.heap.size w W → Calls Tryz.prog 116 #[.slice px (wrds z.natAbs).length kx, .slice qx (wrds u).length mx] W (GivesQ W z.natAbs u)) := Lib.hid fun W hW => hD _ _ _ _ _ (hX.args.1.keep hW (Nat.le_refl _)) (hX.args.2.1.keep hW (Nat.le_refl _))
 have lr : (wrds (z.natAbs % u)).length ≤ 9000 := Nat.le_trans (wrds_le_len (Nat.mod_le _ _)) la
 have lq : (wrds (z.natAbs / u)).length ≤ 9000 := Nat.le_trans (wrds_le_len (Nat.div_le_self _ _)) la
 have lqq := wrds_add_len (z.natAbs / u) 1
 have lo : (wrds 1).length ≤ 1 := wrds_length 1 1 (by decide)
 have f1 := flN_pos (z := z) hu
 have f2 := flN_neg0 (z := z) hu
 have f3 := flN_neg1 (z := z) hu
 obtain ⟨F, hF⟩ : ∃ F, flN z u = F := ⟨_, rfl⟩
 rw [hF] at f1 f2 f3 ⊢
 obtain ⟨q, hq⟩ : ∃ q, z.natAbs / u = q := ⟨_, rfl⟩
 obtain ⟨r, hr⟩ : ∃ r, z.natAbs % u = r := ⟨_, rfl⟩
 unfold GivesQ at HDV
 rw [hq, hr] at HDV
 rw [hr] at lr f2 f3
 rw [hq] at lq lqq f1 f2 f3
 have HNA : Hid (∀ W, Calls Tryz.prog 64 #[.int .i64 1] W (GivesW W 1)) := Lib.hid fun W => natural_d 1 W (by decide)
 have HSQ : Hid (∀ (B C : Nat) (v v' : Value) (W : World), WArg B W v q → WArg C W v' 1 → Calls Tryz.prog 113 #[v, v'] W (GivesW W (q + 1))) := Lib.hid fun B C v v' W h h' => sum_d h h' (by omega) (by omega)
 have HIZ : Hid (∀ (B : Nat) (v : Value) (W : World), WArg B W v r → Calls Tryz.prog 49 #[v] W fun e w' => e = .returned (.bool (decide (r = 0))) ∧ W = w') := Lib.hid fun B v W h => isZero_d h (by omega)
 obtain ⟨Q, hQ⟩ : ∃ Q, q + 1 = Q := ⟨_, rfl⟩
 rw [hQ] at HSQ lqq f3
 obtain ⟨dz, hdz⟩ : ∃ d, decide (z < 0) = d := ⟨_, rfl⟩
 rw [hdz] at hX ⊢
 have RX := (Row.new w (exC (.slice px (wrds z.natAbs).length kx) dz (.slice qx (wrds u).length mx)) 43).alloc (.cells (lgC (.slice none 0 0) false) 41)
 have RZ := Row.new2 w (.cells (exC (.slice px (wrds z.natAbs).length kx) dz (.slice qx (wrds u).length mx)) 43) (lgC (.slice none 0 0) false) 41
 have hcase : (dz = false ∧ F = (if dz then -(q : Int) else q)) ∨ (dz = true ∧ decide (r = 0) = true ∧ F = (if dz then -(q : Int) else q)) ∨ (dz = true ∧ decide (r = 0) = false ∧ F = (if dz then -(Q : Int) else Q)) := by
   by_cases h1 : z < 0
   · by_cases h2 : r = 0
     · exact .inr (.inl ⟨by rw [← hdz]; exact decide_eq_true h1, decide_eq_true h2, by rw [← hdz, decide_eq_true h1]; exact f2 h1 h2⟩)
     · exact .inr (.inr ⟨by rw [← hdz]; exact decide_eq_true h1, decide_eq_false h2, by rw [← hdz, decide_eq_true h1]; exact f3 h1 h2⟩)
   · exact .inl ⟨by rw [← hdz]; exact decide_eq_false h1, by rw [← hdz, decide_eq_false h1]; exact f1 h1⟩
 have lQ : (wrds Q).length ≤ 9001 := by omega
 have lq' : (wrds q).length ≤ 9001 := by omega
 have HSG : ∀ M : Nat, (wrds M).length ≤ 9001 → F = (if dz then -(M : Int) else M) → Hid (∀ (B : Nat) (v : Value) (W : World), WArg B W v M → Calls Tryz.prog 62 #[v, .bool dz] W fun e w' => ∃ s, e = .returned s ∧ LArg B w' s F ∧ Below W.heap.size W w') := fun M lM hF => Lib.hid fun B v W h => by rw [hF]; exact signed_l h (by omega) dz
 clear hX hD f1 f2 f3 hF hq hr hQ hdz lr lq lqq lo la hu
 have hs0 : w.heap.size + 1 + 1 ≤ ((w.alloc (.cells (exC (.slice px (wrds z.natAbs).length kx) dz (.slice qx (wrds u).length mx)) 43)).alloc (.cells (lgC (.slice none 0 0) false) 41)).heap.size := by simp
 rcases hcase with ⟨hd, hF⟩ | ⟨hd, h0, hF⟩ | ⟨hd, h0, hF⟩
 · have HS := HSG q lq' hF
   clear HSG hF lQ lq'
   subst hd
   go_enter Tryz.func63, Tryz.ntmps63
   go_wp2_with fail
   generalize hw : (w.alloc (.cells (exC (.slice px (wrds z.natAbs).length kx) false (.slice qx (wrds u).length mx)) 43)).alloc (.cells (lgC (.slice none 0 0) false) 41) = W at *
   have B0 : Hid (Below w.heap.size w W) := by show Below _ _ _; rw [← hw]; go_grown
   clear hw
   obtain ⟨x0, x1, x2⟩ := RX.ex
   go_wp2_with (first
     | (go_at_call 116; (with_reducible refine (HDV.out _ B0.out).mono ?_); rintro e w2 ⟨v2, v3, rfl, W2, W3, hb2⟩; have RX := RX.keep hb2; have RZ := RZ.keep hb2; have BW := Lib.hid (bl_then B0.out hb2); have W2 := Lib.hid (W2.base hs0); have hs := Nat.le_trans hs0 hb2.size; have W3 := Lib.hid W3; obtain ⟨p2, k2, rfl⟩ := W2.out.slice; obtain ⟨p3, k3, rfl⟩ := W3.out.slice; have WM := W2; obtain ⟨x0, x1, x2⟩ := RX.ex; clear hb2)
     | (go_at_call 62; (with_reducible refine (HS.out _ _ _ WM.out).mono ?_); rintro e w5 ⟨v5, rfl, L5, hb5⟩; have RZ := RZ.keep hb5; have BW := Lib.hid (bl_then BW.out hb5); have L5' := Lib.hid L5; obtain ⟨p5, k5, rfl⟩ := L5.open; clear L5; obtain ⟨z0, z1⟩ := RZ.lg; have f0 := RZ.free 0; have f1 := RZ.free 1))
   refine bodyPost_ret (v := .agg #[.slice p5 (wrds F.natAbs).length k5, .bool (decide (F < 0))]) (by simp [results, Tryz.results63, go_sem, z0, z1]) rfl ⟨_, rfl, ?_, ?_⟩
   · exact (((L5'.out.put _ _ (by simp)).put _ _ (by simp)).base (by omega))
   · (repeat refine Below.setCell ?_ (by simp <;> omega) _)
     exact BW.out
 · have HS := HSG q lq' hF
   clear HSG hF lQ lq'
   subst hd
   rw [h0] at HIZ
   clear h0
   go_enter Tryz.func63, Tryz.ntmps63
   go_wp2_with fail
   generalize hw : (w.alloc (.cells (exC (.slice px (wrds z.natAbs).length kx) true (.slice qx (wrds u).length mx)) 43)).alloc (.cells (lgC (.slice none 0 0) false) 41) = W at *
   have B0 : Hid (Below w.heap.size w W) := by show Below _ _ _; rw [← hw]; go_grown
   clear hw
   obtain ⟨x0, x1, x2⟩ := RX.ex
   go_wp2_with (first
     | (go_at_call 116; (with_reducible refine (HDV.out _ B0.out).mono ?_); rintro e w2 ⟨v2, v3, rfl, W2, W3, hb2⟩; have RX := RX.keep hb2; have RZ := RZ.keep hb2; have BW := Lib.hid (bl_then B0.out hb2); have W2 := Lib.hid (W2.base hs0); have hs := Nat.le_trans hs0 hb2.size; have W3 := Lib.hid W3; obtain ⟨p2, k2, rfl⟩ := W2.out.slice; obtain ⟨p3, k3, rfl⟩ := W3.out.slice; have WM := W2; obtain ⟨x0, x1, x2⟩ := RX.ex; clear hb2)
     | (go_at_call 49; (with_reducible refine (HIZ.out _ _ _ W3.out).mono ?_); rintro e w3 ⟨rfl, rfl⟩)
     | (go_at_call 62; (with_reducible refine (HS.out _ _ _ WM.out).mono ?_); rintro e w5 ⟨v5, rfl, L5, hb5⟩; have RZ := RZ.keep hb5; have BW := Lib.hid (bl_then BW.out hb5); have L5' := Lib.hid L5; obtain ⟨p5, k5, rfl⟩ := L5.open; clear L5; obtain ⟨z0, z1⟩ := RZ.lg; have f0 := RZ.free 0; have f1 := RZ.free 1))
   refine bodyPost_ret (v := .agg #[.slice p5 (wrds F.natAbs).length k5, .bool (decide (F < 0))]) (by simp [results, Tryz.results63, go_sem, z0, z1]) rfl ⟨_, rfl, ?_, ?_⟩
   · exact (((L5'.out.put _ _ (by simp)).put _ _ (by simp)).base (by omega))
   · (repeat refine Below.setCell ?_ (by simp <;> omega) _)
     exact BW.out
 · have HS := HSG Q lQ hF
   clear HSG hF lQ lq'
   subst hd
   rw [h0] at HIZ
   clear h0
   go_enter Tryz.func63, Tryz.ntmps63
   go_wp2_with fail
   generalize hw : (w.alloc (.cells (exC (.slice px (wrds z.natAbs).length kx) true (.slice qx (wrds u).length mx)) 43)).alloc (.cells (lgC (.slice none 0 0) false) 41) = W at *
   have B0 : Hid (Below w.heap.size w W) := by show Below _ _ _; rw [← hw]; go_grown
   clear hw
   obtain ⟨x0, x1, x2⟩ := RX.ex
   go_wp2_with (first
     | (go_at_call 116; (with_reducible refine (HDV.out _ B0.out).mono ?_); rintro e w2 ⟨v2, v3, rfl, W2, W3, hb2⟩; have RX := RX.keep hb2; have RZ := RZ.keep hb2; have BW := Lib.hid (bl_then B0.out hb2); have W2 := Lib.hid (W2.base hs0); have hs := Nat.le_trans hs0 hb2.size; have W3 := Lib.hid W3; obtain ⟨p2, k2, rfl⟩ := W2.out.slice; obtain ⟨p3, k3, rfl⟩ := W3.out.slice; obtain ⟨x0, x1, x2⟩ := RX.ex; clear hb2)
     | (go_at_call 49; (with_reducible refine (HIZ.out _ _ _ W3.out).mono ?_); rintro e w3 ⟨rfl, rfl⟩)
     | (go_at_call 64; (with_reducible refine (HNA.out _).mono ?_); rintro e w4 ⟨v4, rfl, W4, hb4⟩; have RX := RX.keep hb4; have RZ := RZ.keep hb4; have BW := Lib.hid (bl_then BW.out hb4); have hs := Nat.le_trans hs hb4.size; have W2 := Lib.hid (W2.out.keep hb4 (Nat.le_refl _)); have W4 := Lib.hid W4; obtain ⟨p4, k4, rfl⟩ := W4.out.slice; clear hb4)
     | (go_at_call 113; (with_reducible refine (HSQ.out _ _ _ _ _ W2.out W4.out).mono ?_); rintro e w6 ⟨v6, rfl, W6, hb6⟩; have RX := RX.keep hb6; have RZ := RZ.keep hb6; have BW := Lib.hid (bl_then BW.out hb6); have WM := Lib.hid (W6.base hs); obtain ⟨p6, k6, rfl⟩ := WM.out.slice; obtain ⟨x0, x1, x2⟩ := RX.ex; clear hb6 W6)
     | (go_at_call 62; (with_reducible refine (HS.out _ _ _ WM.out).mono ?_); rintro e w5 ⟨v5, rfl, L5, hb5⟩; have RZ := RZ.keep hb5; have BW := Lib.hid (bl_then BW.out hb5); have L5' := Lib.hid L5; obtain ⟨p5, k5, rfl⟩ := L5.open; clear L5; obtain ⟨z0, z1⟩ := RZ.lg; have f0 := RZ.free 0; have f1 := RZ.free 1))
   refine bodyPost_ret (v := .agg #[.slice p5 (wrds F.natAbs).length k5, .bool (decide (F < 0))]) (by simp [results, Tryz.results63, go_sem, z0, z1]) rfl ⟨_, rfl, ?_, ?_⟩
   · exact (((L5'.out.put _ _ (by simp)).put _ _ (by simp)).base (by omega))
   · (repeat refine Below.setCell ?_ (by simp <;> omega) _)
     exact BW.out
end Go.Proofs.YtpdoddhieblooaaGreatDoor
