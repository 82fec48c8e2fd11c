/- Guessing a word of a quotient by the two highest words of the divisor: what is guessed is right, or one too many: no program in this text. digit.takeAway, giveBack: a window of words, less a multiple of the divisor; and the divisor given back. digit.guessed: how often a divisor goes, by its two highest words: right, or one too many. -/
import Derived.Test.YtpdoddhieblooaaGreatDoorKWrdShare
import Derived.Test.YtpdoddhieblooaaGreatDoorKWrdXs
import Derived.Test.YtpdoddhieblooaaGreatDoorKWrdMid
import Derived.Test.YtpdoddhieblooaaGreatDoorKBit0
import Derived.Below
import Derived.Deep.QuietTactic
import Derived.BigQuiet
namespace Go.Proofs.YtpdoddhieblooaaGreatDoor

theorem guess_ge {L D P u v : Nat} (hL : L < (u + 1) * P) (hD : v * P ≤ D) : L / D * v ≤ u := by
 have h1 : L / D * D ≤ L := Nat.div_mul_le_self L D
 have h2 : L / D * (v * P) ≤ L / D * D := Nat.mul_le_mul_left _ hD
 have h3 : L / D * v * P < (u + 1) * P := by rw [Nat.mul_assoc]; omega
 have := Nat.lt_of_mul_lt_mul_right h3
 omega
theorem guess_le {L D P u v W t : Nat} (hD0 : 0 < D) (ht : t * v ≤ u) (htW : t ≤ W) (hWP : W * P ≤ D) (hD : D ≤ v * P + P) (hL : u * P ≤ L) : t ≤ L / D + 1 := by
 have h1 : t * D ≤ t * (v * P + P) := Nat.mul_le_mul_left _ hD
 rw [Nat.mul_add, ← Nat.mul_assoc] at h1
 have h2 : t * v * P ≤ u * P := Nat.mul_le_mul_right _ ht
 have h3 : t * P ≤ W * P := Nat.mul_le_mul_right _ htW
 rcases Nat.eq_zero_or_pos t with h0 | h0
 · rw [h0]; exact Nat.zero_le _
 · have h4 : (t - 1) * D + D = t * D := by
     rw [← Nat.succ_mul]; congr 1; omega
   have h6 : t * D ≤ u * P + W * P := Nat.le_trans h1 (Nat.add_le_add h2 h3)
   have h5 : (t - 1) * D ≤ L := by omega
   have h7 := (Nat.le_div_iff_mul_le hD0).2 h5
   generalize L / D = Q at h7 ⊢
   omega
theorem guess_step {f h r t x y W q : Nat} (hf : t * h + r = f) (hlow : r * W + y < t * x) (hq : q * (h * W + x) ≤ f * W + y) : q < t := by
 apply Decidable.byContradiction
 intro hn
 have h1 : t * (h * W + x) ≤ q * (h * W + x) := Nat.mul_le_mul_right _ (by omega)
 rw [← hf, Nat.add_mul] at hq
 rw [Nat.mul_add, ← Nat.mul_assoc] at h1
 omega
theorem guess_end {f h r t x y W : Nat} (hf : t * h + r = f) (hlow : t * x ≤ r * W + y) : t * (h * W + x) ≤ f * W + y := by
 rw [← hf, Nat.add_mul, Nat.mul_add, ← Nat.mul_assoc]
 omega
end Go.Proofs.YtpdoddhieblooaaGreatDoor
namespace Go.Proofs.YtpdoddhieblooaaGreatDoor
open Go.RowKit

theorem and_low (c : Nat) (h : c < 18446744073709551616) : bits .and .u64 (c : Int) 4294967295 = ((c % 4294967296 : Nat) : Int) := by
 have e := u64_and_nat c 4294967295 h (by decide)
 rw [show ((4294967295 : Nat) : Int) = 4294967295 from rfl] at e
 rw [e]
 congr 1
 exact Nat.and_two_pow_sub_one_eq_mod c 32
theorem wtake_succ (n i : Nat) : wval ((wrds n).take (i + 1)) = wval ((wrds n).take i) + 4294967296 ^ i * wrd n i := by
 by_cases h : i < (wrds n).length
 · exact wval_take_wrd n i h
 · rw [List.take_of_length_le (by omega), List.take_of_length_le (by omega), wrd, List.getElem?_eq_none (by omega)]
   rfl
theorem set_mid (pre x post : List Nat) (i v : Nat) (hi : i < x.length) : (pre ++ x ++ post).set (pre.length + i) v = pre ++ x.set i v ++ post := by
 rw [List.append_assoc, List.set_append_right _ _ (by omega), Nat.add_sub_cancel_left, List.set_append_left _ _ hi, ← List.append_assoc]
theorem at_mid (pre x post : List Nat) (i : Nat) (hi : i < x.length) : (pre ++ x ++ post)[pre.length + i]'(by simp; omega) = x[i] := by
 rw [List.getElem_append_left (by simp; omega), List.getElem_append_right (by omega)]
 congr 1; omega
def TakP (x0 x : List Nat) (D t i c bw : Nat) : Prop :=
 x.length = x0.length ∧ Wrds x ∧ bw ≤ 1 ∧ c < 4294967296 ∧ ((wrds D).length < i → c = 0) ∧ x.drop i = x0.drop i ∧ wval (x.take i) + t * wval ((wrds D).take i) = wval (x0.take i) + 4294967296 ^ i * (c + bw)
theorem TakP.next {x0 x : List Nat} {D t i c bw L : Nat} (h : TakP x0 x D t i c bw) (hi : i < x0.length) (ht : t < 4294967296) (hL : L / 9223372036854775808 ≤ 1)
   (e : L % 4294967296 + (c + t * wrd D i) % 4294967296 + bw = x[i]'(by rw [h.1]; exact hi) + 4294967296 * (L / 9223372036854775808)) :
   TakP x0 (x.set i (L % 4294967296)) D t (i + 1) ((c + t * wrd D i) / 4294967296) (L / 9223372036854775808) := by
 obtain ⟨h1, h2, h3, h4, hz, h5, h6⟩ := h
 have hx : i < x.length := by omega
 have e0 : x[i] = x0[i] := by
   have := congrArg (fun l => l[0]?) h5
   simp only [List.getElem?_drop, Nat.add_zero] at this
   rw [List.getElem?_eq_getElem hx, List.getElem?_eq_getElem hi] at this
   exact Option.some.inj this
 have hd := wrd_lt D i
 have hm : t * wrd D i ≤ 4294967295 * 4294967295 := Nat.mul_le_mul (by omega) (by omega)
 refine ⟨by rw [List.length_set]; exact h1, h2.set _ (Nat.mod_lt _ (by decide)), hL, by omega, ?_, ?_, ?_⟩
 · intro hl
   have e : wrd D i = 0 := by rw [wrd, List.getElem?_eq_none (by omega)]; rfl
   rw [e, Nat.mul_zero, Nat.add_zero]
   omega
 · rw [List.drop_set_of_lt (by omega), ← List.drop_drop, ← List.drop_drop, h5]
 · have e1 : (x.set i (L % 4294967296)).take (i + 1) = x.take i ++ [L % 4294967296] := by
     rw [List.take_succ_eq_append_getElem (by simpa using hx), List.getElem_set_self, List.take_set_of_le (Nat.le_refl i)]
   rw [e1, wval_push, List.length_take_of_le (Nat.le_of_lt hx), wtake_succ, wval_take_succ x0 i hi, ← e0, Nat.pow_succ]
   generalize 4294967296 ^ i = P at h6 ⊢
   generalize hq : c + t * wrd D i = q at e ⊢
   have k1 : t * (wval ((wrds D).take i) + P * wrd D i) = t * wval ((wrds D).take i) + P * (t * wrd D i) := by rw [Nat.mul_add, Nat.mul_left_comm]
   have k2 : P * (L % 4294967296) + P * (q % 4294967296) + P * bw = P * x[i] + P * 4294967296 * (L / 9223372036854775808) := by
     rw [← Nat.mul_add, ← Nat.mul_add, e, Nat.mul_add, Nat.mul_assoc]
   have k3 : P * c + P * (t * wrd D i) = P * (q % 4294967296) + P * 4294967296 * (q / 4294967296) := by
     rw [← Nat.mul_add, hq, Nat.mul_assoc, ← Nat.mul_add, Nat.mod_add_div]
   rw [k1, Nat.mul_add (P * 4294967296)]
   rw [Nat.mul_add P c] at h6
   omega
theorem TakP.end {x0 x : List Nat} {D t c bw : Nat} (h : TakP x0 x D t x0.length c bw) (hD : (wrds D).length < x0.length) : wval x + t * D = wval x0 + 4294967296 ^ x0.length * bw := by
 obtain ⟨h1, _, _, _, hz, _, h6⟩ := h
 have hc := hz hD
 rw [← h1, List.take_length, h1, List.take_length, List.take_of_length_le (by omega), wval_digs, hc, Nat.zero_add] at h6
 exact h6
theorem WArgP.but {b : Nat} {w w' : World} {v : Value} {n : Nat} (h : WArgP (fun c => c ≠ b) w v n) (hb : But b b w w') : WArgP (fun c => c ≠ b) w' v n := by
 rcases h with h | ⟨c, cap, rfl, h1, h2, h3, h4⟩
 · exact .inl h
 · exact .inr ⟨c, cap, rfl, h1, h2, Nat.lt_of_lt_of_le h3 hb.size, fun j hj => (World.cell?_of_block (hb.block c h3 h2 h2)).trans (h4 j hj)⟩
theorem But.trans {b c : Nat} {w w1 w2 : World} (h : But b c w w1) (k : But b c w1 w2) : But b c w w2 :=
 ⟨k.os.trans h.os, k.tape.trans h.tape, k.output.trans h.output, Nat.le_trans h.size k.size, fun j hj h1 h2 => (k.block j (Nat.lt_of_lt_of_le hj h.size) h1 h2).trans (h.block j hj h1 h2)⟩
theorem But.refl (b c : Nat) (w : World) : But b c w w := .of (Below.refl _ w)
theorem But.drewN {b c : Nat} {w w1 : World} (h : But b c w w1) (n : Nat) : But b c w (w1.drewN n) := ⟨h.os, h.tape, h.output, h.size, h.block⟩
set_option maxHeartbeats 4000000 in
set_option maxRecDepth 100000 in
theorem takeAway_w {b D t cap : Nat} {pre x post : List Nat} {vd : Value} {w : World} (hR : Row w b (wrow (pre ++ x ++ post)) 104) (hx : Wrds x) (hD : WArgP (fun c => c ≠ b) w vd D) (ld : (wrds D).length < x.length) (lx : x.length ≤ 20000) (ht : t < 4294967296) :
   Calls Tryz.prog 166 #[.slice (some ⟨b, pre.length, none⟩) x.length cap, vd, .int .u64 (t : Int)] w fun e w' => ∃ bw x', e = .returned (.bool (decide (0 < bw))) ∧ x'.length = x.length ∧ Wrds x' ∧ bw ≤ 1 ∧ wval x' + t * D = wval x + 4294967296 ^ x.length * bw ∧ Row w' b (wrow (pre ++ x' ++ post)) 104 ∧ But b b w w' := by
 obtain ⟨pd, kd, rfl⟩ := hD.arg.slice
 have HD := Lib.hid hD
 have HR0 := Lib.hid hR
 have HX := Lib.hid hx
 have HLD := Lib.hid ld
 obtain ⟨m, hm⟩ : ∃ m, x.length = m := ⟨_, rfl⟩
 have HM := Lib.hid hm
 rw [hm] at lx ⊢
 clear hD hR hx ld hm
 go_enter Tryz.func166, Tryz.ntmps166
 go_wp2
 go_loopw [7, 8, 13] (fun cv bv iv wr => ∃ (i c bw : Nat) (y : List Nat), iv = .int .i64 (i : Int) ∧ cv = .int .u64 (c : Int) ∧ bv = .int .u64 (bw : Int) ∧ i ≤ m ∧ TakP x y D t i c bw ∧ Row wr b (wrow (pre ++ y ++ post)) 104 ∧ But b b w wr) (fun _ _ iv _ => m - (intOf iv).toNat)
 case atStart => exact ⟨0, 0, 0, x, rfl, rfl, rfl, Nat.zero_le _, ⟨rfl, HX.out, by decide, by decide, fun h => absurd h (Nat.not_lt_zero _), rfl, by simp [wval]⟩, HR0.out, But.refl _ _ _⟩
 case round =>
   obtain ⟨i, c, bw, y, rfl, rfl, rfl, hi, hP, hrow, hB⟩ := hrel
   by_cases hlt : i < m
   · have hyl : i < y.length := by rw [hP.1, HM.out]; exact hlt
     have hbw := hP.2.2.1
     have hc := hP.2.2.2.1
     have hd := wrd_lt D i
     obtain ⟨d, hde⟩ : ∃ d, wrd D i = d := ⟨_, rfl⟩
     have hmul : t * d ≤ 4294967295 * 4294967295 := Nat.mul_le_mul (by omega) (by omega)
     obtain ⟨q, hq⟩ : ∃ q, c + t * d = q := ⟨_, rfl⟩
     have hyW := hP.2.1.at i hyl
     obtain ⟨L1, L, l1, l2, l3, l4, l5⟩ := lack (x := y[i]) (y := q % 4294967296) (c := bw) hyW (Nat.mod_lt _ (by decide)) hbw
     have NX := hP.next (by rw [HM.out]; exact hlt) ht l4 (by rw [hde, hq]; exact l5)
     rw [hde, hq] at NX
     have hsm : (pre ++ y ++ post).set (pre.length + i) (L % 4294967296) = pre ++ y.set i (L % 4294967296) ++ post := set_mid pre y post i _ hyl
     have hcell : wr.cell? ⟨b, pre.length + i, none⟩ = some (.int .u32 (y[i] : Int)) := by
       rw [hrow.wat (j := pre.length + i) (by simp; omega), at_mid pre y post i hyl]
     have hfr := hrow.free (pre.length + i)
     obtain ⟨Y, hY⟩ : ∃ Y, y[i] = Y := ⟨_, rfl⟩
     rw [hY] at hcell l1 hyW
     have HROW : Hid (Row (wr.setCell ⟨b, pre.length + i, none⟩ (.int .u32 ((L % 4294967296 : Nat) : Int))) b (wrow (pre ++ y.set i (L % 4294967296) ++ post)) 104) := Lib.hid (by rw [← hsm]; exact hrow.wput _ _)
     have HBUT : Hid (But b b w (wr.setCell ⟨b, pre.length + i, none⟩ (.int .u32 ((L % 4294967296 : Nat) : Int)))) := Lib.hid (hB.setCell (a := ⟨b, pre.length + i, none⟩) (.inl rfl) _)
     have HWD : Hid (Calls Tryz.prog 143 #[.slice pd (wrds D).length kd, .int .i64 (i : Int)] wr fun e w' => e = .returned (.int .u64 (d : Int)) ∧ wr = w') := Lib.hid (by
       rw [← hde]; exact word_d (HD.out.but hB).arg i (by have := HLD.out; have := HM.out; omega) (by omega))
     have i1 : (i : Int) < m := by omega
     have w1 : IntKind.u64.wrap ((t : Int) * (d : Int)) = ((t * d : Nat) : Int) := by rw [← Int.natCast_mul]; exact IntWalk.u64_in _ (by omega)
     obtain ⟨td, htd⟩ : ∃ td, t * d = td := ⟨_, rfl⟩
     rw [htd] at w1 hq hmul
     have w2 : IntKind.u64.wrap ((c : Int) + (td : Int)) = (q : Int) := by rw [show (c : Int) + (td : Int) = q by omega]; exact IntWalk.u64_in _ (by omega)
     have w3 := and_low q (by omega)
     obtain ⟨ql, hql⟩ : ∃ ql, q % 4294967296 = ql := ⟨_, rfl⟩
     rw [hql] at w3 l1
     have HL1 : Hid ((L : Int) % 4294967296 = ((L % 4294967296 : Nat) : Int)) := Lib.hid (by omega)
     have HL2 : Hid ((L : Int) / 9223372036854775808 = ((L / 9223372036854775808 : Nat) : Int)) := Lib.hid (by omega)
     have HQ2 : Hid ((q : Int) / 4294967296 = ((q / 4294967296 : Nat) : Int)) := Lib.hid (by omega)
     have HNX := Lib.hid NX
     clear NX hP hrow hB hsm l5 hql hq hde hY
     go_wp2_with (go_at_call 143; refine HWD.out.mono ?_; rintro e w2 ⟨rfl, rfl⟩)
     case roundEnd =>
       rw [HL1.out, HL2.out, HQ2.out]
       exact ⟨⟨i + 1, _, _, _, rfl, rfl, rfl, by omega, HNX.out, HROW.out, HBUT.out⟩, by simp [intOf]; omega⟩
   · obtain rfl : i = m := by omega
     have HE := Lib.hid ((show TakP x y D t x.length c bw from by rw [HM.out]; exact hP).end HLD.out)
     have HBW := Lib.hid hP.2.2.1
     have HY1 := Lib.hid hP.1
     have HY2 := Lib.hid hP.2.1
     have HROW := Lib.hid hrow
     have HBUT := Lib.hid hB
     clear hP hrow hB
     go_wp2
     go_ret
     exact ⟨bw, y, by simp, by rw [HY1.out, HM.out], HY2.out, HBW.out, by rw [← HM.out]; exact HE.out, HROW.out, HBUT.out⟩
def GivP (x0 x : List Nat) (D i c : Nat) : Prop :=
 x.length = x0.length ∧ Wrds x ∧ c ≤ 1 ∧ x.drop i = x0.drop i ∧ wval (x.take i) + 4294967296 ^ i * c = wval (x0.take i) + wval ((wrds D).take i)
theorem GivP.next {x0 x : List Nat} {D i c T : Nat} (h : GivP x0 x D i c) (hi : i < x0.length) (e : c + (x[i]'(by rw [h.1]; exact hi) + wrd D i) = T) :
   GivP x0 (x.set i (T % 4294967296)) D (i + 1) (T / 4294967296) := by
 obtain ⟨h1, h2, h3, h5, h6⟩ := h
 have hx : i < x.length := by omega
 have e0 : x[i] = x0[i] := by
   have := congrArg (fun l => l[0]?) h5
   simp only [List.getElem?_drop, Nat.add_zero] at this
   rw [List.getElem?_eq_getElem hx, List.getElem?_eq_getElem hi] at this
   exact Option.some.inj this
 have hd := wrd_lt D i
 have hxi := h2.at i hx
 refine ⟨by rw [List.length_set]; exact h1, h2.set _ (Nat.mod_lt _ (by decide)), by omega, ?_, ?_⟩
 · rw [List.drop_set_of_lt (by omega), ← List.drop_drop, ← List.drop_drop, h5]
 · have e1 : (x.set i (T % 4294967296)).take (i + 1) = x.take i ++ [T % 4294967296] := by
     rw [List.take_succ_eq_append_getElem (by simpa using hx), List.getElem_set_self, List.take_set_of_le (Nat.le_refl i)]
   rw [e1, wval_push, List.length_take_of_le (Nat.le_of_lt hx), wtake_succ, wval_take_succ x0 i hi, ← e0, Nat.pow_succ]
   generalize 4294967296 ^ i = P at h6 ⊢
   have k3 : P * c + (P * x[i] + P * wrd D i) = P * (T % 4294967296) + P * 4294967296 * (T / 4294967296) := by
     rw [← Nat.mul_add, ← Nat.mul_add, e, Nat.mul_assoc, ← Nat.mul_add, Nat.mod_add_div]
   omega
theorem GivP.end {x0 x : List Nat} {D c : Nat} (h : GivP x0 x D x0.length c) (hD : (wrds D).length < x0.length) : wval x + 4294967296 ^ x0.length * c = wval x0 + D := by
 obtain ⟨h1, _, _, _, h6⟩ := h
 rw [← h1, List.take_length, h1, List.take_length, List.take_of_length_le (by omega), wval_digs] at h6
 exact h6
theorem WArg.drewN {B : Nat} {w : World} {v : Value} {n : Nat} (h : WArg B w v n) (k : Nat) : WArg B (w.drewN k) v n := h.keep (C := w.heap.size) (below_drewN (Below.refl _ w) k) (Nat.le_refl _)
set_option maxHeartbeats 4000000 in
set_option maxRecDepth 100000 in
theorem giveBack_w {b D cap : Nat} {pre x post : List Nat} {vd : Value} {w : World} (hR : Row w b (wrow (pre ++ x ++ post)) 104) (hx : Wrds x) (hD : WArgP (fun c => c ≠ b) w vd D) (ld : (wrds D).length < x.length) (lx : x.length ≤ 20000) :
   Calls Tryz.prog 167 #[.slice (some ⟨b, pre.length, none⟩) x.length cap, vd] w fun e w' => ∃ c x', e = .returned (.tuple #[]) ∧ x'.length = x.length ∧ Wrds x' ∧ c ≤ 1 ∧ wval x' + 4294967296 ^ x.length * c = wval x + D ∧ Row w' b (wrow (pre ++ x' ++ post)) 104 ∧ But b b w w' := by
 obtain ⟨pd, kd, rfl⟩ := hD.arg.slice
 have HD := Lib.hid hD
 have HR0 := Lib.hid hR
 have HX := Lib.hid hx
 have HLD := Lib.hid ld
 obtain ⟨m, hm⟩ : ∃ m, x.length = m := ⟨_, rfl⟩
 have HM := Lib.hid hm
 rw [hm] at lx ⊢
 clear hD hR hx ld hm
 go_enter Tryz.func167, Tryz.ntmps167
 go_wp2
 go_loopw [4, 8] (fun cv iv wr => ∃ (i c : Nat) (y : List Nat), iv = .int .i64 (i : Int) ∧ cv = .int .u64 (c : Int) ∧ i ≤ m ∧ GivP x y D i c ∧ Row wr b (wrow (pre ++ y ++ post)) 104 ∧ But b b w wr) (fun _ iv _ => m - (intOf iv).toNat)
 case atStart => exact ⟨0, 0, x, rfl, rfl, Nat.zero_le _, ⟨rfl, HX.out, by decide, rfl, by simp [wval]⟩, HR0.out, But.refl _ _ _⟩
 case round =>
   obtain ⟨i, c, y, rfl, rfl, hi, hP, hrow, hB⟩ := hrel
   by_cases hlt : i < m
   · have hyl : i < y.length := by rw [hP.1, HM.out]; exact hlt
     have hc := hP.2.2.1
     have hd := wrd_lt D i
     have hyW := hP.2.1.at i hyl
     obtain ⟨T, hT⟩ : ∃ T, c + (y[i] + wrd D i) = T := ⟨_, rfl⟩
     have NX := hP.next (by rw [HM.out]; exact hlt) hT
     have hsm : (pre ++ y ++ post).set (pre.length + i) (T % 4294967296) = pre ++ y.set i (T % 4294967296) ++ post := set_mid pre y post i _ hyl
     have hcell : wr.cell? ⟨b, pre.length + i, none⟩ = some (.int .u32 (y[i] : Int)) := by
       rw [hrow.wat (j := pre.length + i) (by simp; omega), at_mid pre y post i hyl]
     have hfr := hrow.free (pre.length + i)
     obtain ⟨Y, hY⟩ : ∃ Y, y[i] = Y := ⟨_, rfl⟩
     rw [hY] at hcell hT hyW
     have HROW : Hid (∀ k, Row ((wr.drewN k).setCell ⟨b, pre.length + i, none⟩ (.int .u32 ((T % 4294967296 : Nat) : Int))) b (wrow (pre ++ y.set i (T % 4294967296) ++ post)) 104) := Lib.hid (fun k => by rw [← hsm]; exact (show Row (wr.drewN k) _ _ _ from hrow).wput _ _)
     have HBUT : Hid (∀ k, But b b w ((wr.drewN k).setCell ⟨b, pre.length + i, none⟩ (.int .u32 ((T % 4294967296 : Nat) : Int)))) := Lib.hid (fun k => (hB.drewN k).setCell (a := ⟨b, pre.length + i, none⟩) (.inl rfl) _)
     obtain ⟨d, hde⟩ : ∃ d, wrd D i = d := ⟨_, rfl⟩
     have HWD : Hid (∀ k, Calls Tryz.prog 143 #[.slice pd (wrds D).length kd, .int .i64 (i : Int)] (wr.drewN k) fun e w' => e = .returned (.int .u64 (d : Int)) ∧ w' = wr.drewN k) := Lib.hid (fun k => by
       rw [← hde]; exact (word_d ((HD.out.but hB).arg.drewN k) i (by have := HLD.out; have := HM.out; omega) (by omega)).mono fun _ _ h => ⟨h.1, h.2.symm⟩)
     rw [hde] at hT hd
     have i1 : (i : Int) < m := by omega
     have w1 : IntKind.u64.wrap ((Y : Int) + (d : Int)) = ((Y + d : Nat) : Int) := by rw [← Int.natCast_add]; exact IntWalk.u64_in _ (by omega)
     obtain ⟨yd, hyd⟩ : ∃ yd, Y + d = yd := ⟨_, rfl⟩
     rw [hyd] at w1 hT
     have w2 : IntKind.u64.wrap ((c : Int) + (yd : Int)) = (T : Int) := by rw [show (c : Int) + (yd : Int) = T by omega]; exact IntWalk.u64_in _ (by omega)
     have HQ1 : Hid ((T : Int) % 4294967296 = ((T % 4294967296 : Nat) : Int)) := Lib.hid (by omega)
     have HQ2 : Hid ((T : Int) / 4294967296 = ((T / 4294967296 : Nat) : Int)) := Lib.hid (by omega)
     have HNX := Lib.hid NX
     clear NX hP hrow hB hsm hde hY hT hyd
     go_wp2
     go_quiet ((go_at_call 143; exact Calls.quiet_of_same (HWD.out _)))
     go_wp2
     case roundEnd =>
       rw [HQ1.out, HQ2.out]
       exact ⟨⟨i + 1, _, _, rfl, rfl, by omega, HNX.out, HROW.out _, HBUT.out _⟩, by simp [intOf]; omega⟩
   · obtain rfl : i = m := by omega
     have HE := Lib.hid ((show GivP x y D x.length c from by rw [HM.out]; exact hP).end HLD.out)
     have HBW := Lib.hid hP.2.2.1
     have HY1 := Lib.hid hP.1
     have HY2 := Lib.hid hP.2.1
     have HROW := Lib.hid hrow
     have HBUT := Lib.hid hB
     clear hP hrow hB
     go_wp2
     go_end0
     exact ⟨c, y, rfl, by rw [HY1.out, HM.out], HY2.out, HBW.out, by rw [← HM.out]; exact HE.out, HROW.out, HBUT.out⟩
end Go.Proofs.YtpdoddhieblooaaGreatDoor
namespace Go.Proofs.YtpdoddhieblooaaGreatDoor
open Go.RowKit

def GueP (f h _s q t r : Nat) : Prop := t * h + r = f ∧ q ≤ t ∧ t ≤ 4294967300 ∧ r ≤ 8589934592
theorem GueP.next {f h s q t r y : Nat} (hP : GueP f h s q t r) (hh : h < 4294967296) (hq : q < 4294967296) (hqv : q * (h * 4294967296 + s) ≤ f * 4294967296 + y) (h1 : r < 4294967296) (h2 : 4294967296 ≤ t ∨ r * 4294967296 + y < t * s) : 0 < t ∧ GueP f h s q (t - 1) (r + h) := by
 obtain ⟨e, h3, h4, h5⟩ := hP
 have hlt : q < t := by
   rcases h2 with h2 | h2
   · omega
   · exact guess_step e h2 hqv
 refine ⟨by omega, ?_, by omega, by omega, by omega⟩
 obtain ⟨k, rfl⟩ : ∃ k, t = k + 1 := ⟨t - 1, by omega⟩
 rw [Nat.add_sub_cancel]
 rw [Nat.add_mul, Nat.one_mul] at e
 omega
theorem GueP.end {f h s q t r y : Nat} (hP : GueP f h s q t r) (hs : s < 4294967296) (_hh0 : 0 < h) (hf : f ≤ h * 4294967296 + s) (h2 : 4294967296 ≤ r ∨ (t < 4294967296 ∧ t * s ≤ r * 4294967296 + y)) : t < 4294967296 ∧ t * (h * 4294967296 + s) ≤ f * 4294967296 + y := by
 obtain ⟨e, _, _, _⟩ := hP
 rcases h2 with h2 | ⟨h2, h3⟩
 · have hlt : t < 4294967296 := by
     apply Decidable.byContradiction
     intro hn
     have : 4294967296 * h ≤ t * h := Nat.mul_le_mul_right _ (by omega)
     omega
   refine ⟨hlt, ?_⟩
   have k1 : t * s ≤ 4294967296 * 4294967296 := Nat.mul_le_mul (by omega) (by omega)
   rw [← e, Nat.add_mul, Nat.mul_add, ← Nat.mul_assoc]
   have k2 : 4294967296 * 4294967296 ≤ r * 4294967296 := Nat.mul_le_mul_right _ h2
   omega
 · exact ⟨h2, guess_end e h3⟩
theorem two_high {l : List Nat} {n : Nat} (hl : l.length = n + 2) (hd : Wrds l) : ∃ low, low < 4294967296 ^ n ∧ wval l = ((l[n + 1]'(by omega)) * 4294967296 + l[n]'(by omega)) * 4294967296 ^ n + low := by
 refine ⟨wval (l.take n), ?_, ?_⟩
 · have := wval_lt (l.take n) (hd.take n)
   rwa [List.length_take_of_le (by omega)] at this
 · have e1 := wval_take_succ l n (by omega)
   have e2 := wval_take_succ l (n + 1) (by omega)
   rw [List.take_of_length_le (by omega)] at e2
   rw [e2, e1, Nat.pow_succ, Nat.add_mul]
   generalize 4294967296 ^ n = P
   have : P * 4294967296 * l[n + 1] = l[n + 1] * 4294967296 * P := by rw [Nat.mul_comm (P * 4294967296), Nat.mul_comm P, ← Nat.mul_assoc]
   have k2 : P * l[n] = l[n] * P := Nat.mul_comm _ _
   omega
theorem three_high {l : List Nat} {n : Nat} (hl : l.length = n + 3) (hd : Wrds l) : ∃ low, low < 4294967296 ^ n ∧ wval l = (((l[n + 2]'(by omega)) * 4294967296 + l[n + 1]'(by omega)) * 4294967296 + l[n]'(by omega)) * 4294967296 ^ n + low := by
 refine ⟨wval (l.take n), ?_, ?_⟩
 · have := wval_lt (l.take n) (hd.take n)
   rwa [List.length_take_of_le (by omega)] at this
 · have e1 := wval_take_succ l n (by omega)
   have e2 := wval_take_succ l (n + 1) (by omega)
   have e3 := wval_take_succ l (n + 2) (by omega)
   rw [List.take_of_length_le (by omega)] at e3
   have p1 : 4294967296 ^ (n + 1) = 4294967296 ^ n * 4294967296 := Nat.pow_succ ..
   have p2 : 4294967296 ^ (n + 2) = 4294967296 ^ n * 4294967296 * 4294967296 := by rw [Nat.pow_succ, p1]
   rw [e3, e2, e1, p1, p2, Nat.add_mul, Nat.add_mul, Nat.add_mul]
   generalize 4294967296 ^ n = P
   have k1 : P * 4294967296 * l[n + 1] = l[n + 1] * 4294967296 * P := by rw [Nat.mul_comm (P * 4294967296), Nat.mul_comm P, ← Nat.mul_assoc]
   have k2 : P * l[n] = l[n] * P := Nat.mul_comm _ _
   have k3 : P * 4294967296 * 4294967296 * l[n + 2] = l[n + 2] * 4294967296 * 4294967296 * P := by
     rw [Nat.mul_comm (P * 4294967296 * 4294967296), Nat.mul_assoc P, Nat.mul_comm P, ← Nat.mul_assoc, ← Nat.mul_assoc]
   have k4 : (l[n + 2] * 4294967296 + l[n + 1]) * 4294967296 * P = l[n + 2] * 4294967296 * 4294967296 * P + l[n + 1] * 4294967296 * P := by
     rw [Nat.add_mul, Nat.add_mul]
   omega
theorem gue_first {f h s : Nat} (h1 : 2147483648 ≤ h) (hs : s < 4294967296) (hf : f ≤ h * 4294967296 + s) : f / h ≤ 4294967300 :=
 Nat.le_of_lt_succ (Nat.div_lt_of_lt_mul (by omega))
set_option maxHeartbeats 4000000 in
set_option maxRecDepth 100000 in
theorem guessed_c {b bd n p capx capd h s u v y q : Nat} {w : World}
   (ch : w.cell? ⟨bd, n + 1, none⟩ = some (.int .u32 (h : Int))) (cs : w.cell? ⟨bd, n, none⟩ = some (.int .u32 (s : Int)))
   (cu : w.cell? ⟨b, p + (n + 2), none⟩ = some (.int .u32 (u : Int))) (cv : w.cell? ⟨b, p + (n + 1), none⟩ = some (.int .u32 (v : Int))) (cy : w.cell? ⟨b, p + n, none⟩ = some (.int .u32 (y : Int)))
   (hn : n ≤ 20000) (h1 : 2147483648 ≤ h) (h2 : h < 4294967296) (hs : s < 4294967296) (hu : u < 4294967296) (hv : v < 4294967296) (hy : y < 4294967296)
   (hf : u * 4294967296 + v ≤ h * 4294967296 + s) (hq : q < 4294967296) (hqv : q * (h * 4294967296 + s) ≤ (u * 4294967296 + v) * 4294967296 + y) :
   Calls Tryz.prog 165 #[.slice (some ⟨b, p, none⟩) (n + 3) capx, .slice (some ⟨bd, 0, none⟩) (n + 2) capd] w fun e w' => ∃ t k, e = .returned (.int .u64 ((t : Nat) : Int)) ∧ w' = w.drewN k ∧ q ≤ t ∧ t < 4294967296 ∧ t * (h * 4294967296 + s) ≤ (u * 4294967296 + v) * 4294967296 + y := by
 obtain ⟨N, hN⟩ : ∃ N, n + 2 = N := ⟨_, rfl⟩
 obtain ⟨N1, hN1⟩ : ∃ N1, n + 1 = N1 := ⟨_, rfl⟩
 obtain ⟨M, hM⟩ : ∃ M, n + 3 = M := ⟨_, rfl⟩
 rw [hN] at cu
 rw [hN1] at ch cv
 rw [hN, hM]
 have HM := Lib.hid hM
 have wN1 : IntKind.i64.wrap ((N : Int) - 1) = (N1 : Int) := by rw [show (N : Int) - 1 = (N1 : Int) by omega]; exact IntWalk.i64_in _ (by omega)
 have wN2 : IntKind.i64.wrap ((N : Int) - 2) = (n : Int) := by rw [show (N : Int) - 2 = (n : Int) by omega]; exact IntWalk.i64_in _ (by omega)
 have b1 : (N1 : Int) < (N : Int) := by omega
 have b2 : (n : Int) < (N : Int) := by omega
 have b3 : (N : Int) < (M : Int) := by omega
 have b4 : (N1 : Int) < (M : Int) := by omega
 have b5 : (n : Int) < (M : Int) := by omega
 have hw1 : IntKind.u64.wrap ((u : Int) * 4294967296) = (u : Int) * 4294967296 := IntWalk.u64_in _ (by omega)
 have hor := or_words u v hu hv
 obtain ⟨f, hfe⟩ : ∃ f, u * 4294967296 + v = f := ⟨_, rfl⟩
 rw [hfe] at hor hf hqv ⊢
 have hf64 : f < 18446744073709551616 := by omega
 have hq0 : q ≤ f / h := by
   rw [Nat.le_div_iff_mul_le (by omega)]
   rw [Nat.mul_add, ← Nat.mul_assoc] at hqv
   omega
 have ht0 : f / h ≤ 4294967300 := gue_first h1 hs hf
 have hr0 : f % h < h := Nat.mod_lt _ (by omega)
 have P0 : GueP f h s q (f / h) (f % h) := ⟨by rw [Nat.mul_comm]; exact Nat.div_add_mod f h, hq0, ht0, by omega⟩
 obtain ⟨t0, ht0e⟩ : ∃ t, f / h = t := ⟨_, rfl⟩
 obtain ⟨r0, hr0e⟩ : ∃ r, f % h = r := ⟨_, rfl⟩
 rw [ht0e, hr0e] at P0
 rw [ht0e] at ht0
 rw [hr0e] at hr0
 have hqI : ((f : Int) / (h : Int)) = (t0 : Int) := by rw [← ht0e]; rfl
 have hrI : ((f : Int) % (h : Int)) = (r0 : Int) := by rw [← hr0e]; rfl
 have HP0 := Lib.hid P0
 have HF := Lib.hid hf
 have HQ := Lib.hid hq
 have HQV := Lib.hid hqv
 have h0 : ¬ (h : Int) = 0 := by omega
 have h0' : ((h : Int) == 0) = false := beq_eq_false_iff_ne.2 h0
 clear hN hN1 hM hfe hf hqv hq hq0 P0 ht0e hr0e
 go_enter Tryz.func165, Tryz.ntmps165
 go_wp2
 go_quiet (fail)
 go_wp2
 go_quiet (fail)
 go_wp2
 go_quiet (fail)
 go_wp2
 go_loopw [9, 10] (fun tv rv wr => ∃ k t r : Nat, tv = .int .u64 (t : Int) ∧ rv = .int .u64 (r : Int) ∧ GueP f h s q t r ∧ wr = w.drewN k) (fun tv _ _ => (intOf tv).toNat)
 case atStart => exact ⟨_, t0, r0, rfl, by first | rfl | rw [hrI], HP0.out, by rw [World.drewN_drewN, World.drewN_drewN]⟩
 case round =>
   obtain ⟨k, t, r, rfl, rfl, hP, rfl⟩ := hrel
   have ht := hP.2.2.1
   have hr := hP.2.2.2
   have NX := Lib.hid (fun a b => hP.next h2 HQ.out HQV.out (y := y) a b)
   have EX := Lib.hid (fun a => hP.end hs (by omega) HF.out (y := y) a)
   have QT := Lib.hid hP.2.1
   clear hP
   by_cases g1 : r < 4294967296
   · have g1' : decide ((r : Int) < 4294967296) = true := decide_eq_true (by omega)
     have ws : IntKind.u64.wrap ((r : Int) * 4294967296) = (r : Int) * 4294967296 := IntWalk.u64_in _ (by omega)
     have ho2 := or_words r y g1 hy
     obtain ⟨ry, hry⟩ : ∃ ry, r * 4294967296 + y = ry := ⟨_, rfl⟩
     rw [hry] at ho2 NX EX
     have HNX1 := Lib.hid (NX.out g1)
     by_cases g2 : 4294967296 ≤ t
     · have g2' : decide ((4294967296 : Int) ≤ (t : Int)) = true := decide_eq_true (by omega)
       have HN := Lib.hid (HNX1.out (.inl g2))
       have wt : IntKind.u64.wrap ((t : Int) - 1) = ((t - 1 : Nat) : Int) := by rw [show (t : Int) - 1 = ((t - 1 : Nat) : Int) by omega]; exact IntWalk.u64_in _ (by omega)
       have wr : IntKind.u64.wrap ((r : Int) + (h : Int)) = ((r + h : Nat) : Int) := by rw [show (r : Int) + (h : Int) = ((r + h : Nat) : Int) by omega]; exact IntWalk.u64_in _ (by omega)
       clear NX EX HNX1 hry
       go_wp2
       case roundEnd => exact ⟨⟨k, t - 1, r + h, rfl, by rw [Int.natCast_add], HN.out.2, rfl⟩, by have := HN.out.1; simp [intOf]; omega⟩
     · have g2' : decide ((4294967296 : Int) ≤ (t : Int)) = false := decide_eq_false (by omega)
       have wm : IntKind.u64.wrap ((t : Int) * (s : Int)) = ((t * s : Nat) : Int) := by
         have : t * s ≤ 4294967295 * 4294967295 := Nat.mul_le_mul (by omega) (by omega)
         rw [← Int.natCast_mul]; exact IntWalk.u64_in _ (by omega)
       obtain ⟨ts, hts⟩ : ∃ ts, t * s = ts := ⟨_, rfl⟩
       rw [hts] at wm NX EX HNX1
       by_cases g3 : ry < ts
       · have HN := Lib.hid (HNX1.out (.inr g3))
         have wt : IntKind.u64.wrap ((t : Int) - 1) = ((t - 1 : Nat) : Int) := by have := HN.out.1; rw [show (t : Int) - 1 = ((t - 1 : Nat) : Int) by omega]; exact IntWalk.u64_in _ (by omega)
         have wr : IntKind.u64.wrap ((r : Int) + (h : Int)) = ((r + h : Nat) : Int) := by rw [show (r : Int) + (h : Int) = ((r + h : Nat) : Int) by omega]; exact IntWalk.u64_in _ (by omega)
         clear NX EX HNX1 hry hts
         go_wp2
         case roundEnd => exact ⟨⟨k, t - 1, r + h, rfl, by rw [Int.natCast_add], HN.out.2, rfl⟩, by have := HN.out.1; simp [intOf]; omega⟩
       · have HE := Lib.hid (EX.out (.inr ⟨by omega, by omega⟩))
         clear NX EX HNX1 hry hts
         go_wp2
         go_ret
         exact ⟨t, k, rfl, rfl, QT.out, HE.out.1, HE.out.2⟩
   · have g1' : decide ((r : Int) < 4294967296) = false := decide_eq_false (by omega)
     have HE := Lib.hid (EX.out (.inl (by omega)))
     clear NX EX
     go_wp2
     go_ret
     exact ⟨t, k, rfl, rfl, QT.out, HE.out.1, HE.out.2⟩
theorem wrd_get {n i : Nat} (h : i < (wrds n).length) : wrd n i = (wrds n)[i] := by rw [wrd, List.getElem?_eq_getElem h]; rfl
theorem guess_facts {x : List Nat} {D n : Nat} (hl : x.length = n + 3) (hx : Wrds x) (hD : (wrds D).length = n + 2) (ht : 2147483648 ≤ wrd D (n + 1)) (hL : wval x < 4294967296 * D) :
   x[n + 2] * 4294967296 + x[n + 1] ≤ wrd D (n + 1) * 4294967296 + wrd D n ∧ wval x / D < 4294967296 ∧
   wval x / D * (wrd D (n + 1) * 4294967296 + wrd D n) ≤ (x[n + 2] * 4294967296 + x[n + 1]) * 4294967296 + x[n] ∧
   ∀ t, t < 4294967296 → t * (wrd D (n + 1) * 4294967296 + wrd D n) ≤ (x[n + 2] * 4294967296 + x[n + 1]) * 4294967296 + x[n] → t ≤ wval x / D + 1 := by
 obtain ⟨lo, k1, k2⟩ := two_high hD (wrds_digs D)
 obtain ⟨lp, k3, k4⟩ := three_high hl hx
 rw [wval_digs, ← wrd_get (by omega), ← wrd_get (by omega)] at k2
 obtain ⟨v, hv⟩ : ∃ v, wrd D (n + 1) * 4294967296 + wrd D n = v := ⟨_, rfl⟩
 obtain ⟨f, hf⟩ : ∃ f, x[n + 2] * 4294967296 + x[n + 1] = f := ⟨_, rfl⟩
 obtain ⟨y, hy⟩ : ∃ y, x[n] = y := ⟨_, rfl⟩
 have hyl : y < 4294967296 := by rw [← hy]; exact hx.at n (by omega)
 have hv1 : 4294967296 ≤ v := by omega
 rw [hv] at k2 ⊢
 rw [hf, hy] at k4 ⊢
 generalize wval x = L at hL k4 ⊢
 generalize 4294967296 ^ n = P at k1 k2 k3 k4
 have e1 : (f * 4294967296 + y) * P = f * 4294967296 * P + y * P := Nat.add_mul ..
 have hDp : 0 < D := by
   apply Decidable.byContradiction
   intro hn
   have : D = 0 := by omega
   rw [this, Nat.mul_zero] at hL
   omega
 refine ⟨?_, Nat.div_lt_of_lt_mul (by rw [Nat.mul_comm]; exact hL), guess_ge (P := P) (by rw [Nat.add_mul, Nat.one_mul]; omega) (by omega), ?_⟩
 · have e2 : 4294967296 * D = v * 4294967296 * P + 4294967296 * lo := by rw [k2, Nat.mul_add, ← Nat.mul_assoc, Nat.mul_comm 4294967296 v]
   have h3 : f * 4294967296 * P < (v + 1) * 4294967296 * P := by rw [Nat.add_mul, Nat.add_mul, Nat.one_mul]; omega
   have h4 := Nat.lt_of_mul_lt_mul_right h3
   have h5 := Nat.lt_of_mul_lt_mul_right h4
   omega
 · intro t h1 h2
   refine guess_le (P := P) (v := v) (W := 4294967296) hDp h2 (Nat.le_of_lt h1) ?_ (by omega) (by omega)
   have : 4294967296 * P ≤ v * P := Nat.mul_le_mul_right _ hv1
   omega
theorem left_over {L D t bw z M : Nat} (hDp : 0 < D) (h1 : L / D ≤ t) (h2 : t ≤ L / D + 1) (hz : z < M) (_hLM : L < M) (hb : bw ≤ 1) (e : z + t * D = L + M * bw) :
   (bw = 0 → t = L / D ∧ z = L % D) ∧ (0 < bw → t = L / D + 1 ∧ ∀ c x, x < M → c ≤ 1 → x + M * c = z + D → x = L % D) := by
 have k := Nat.div_add_mod L D
 have km := Nat.mod_lt L hDp
 rw [Nat.mul_comm] at k
 have e2 : (L / D + 1) * D = L / D * D + D := by rw [Nat.add_mul, Nat.one_mul]
 generalize L / D = q at k h1 h2 e2 ⊢
 generalize L % D = r at k km ⊢
 have hcase : t = q ∨ t = q + 1 := by omega
 constructor
 · rintro rfl
   rw [Nat.mul_zero, Nat.add_zero] at e
   rcases hcase with rfl | rfl
   · exact ⟨rfl, by omega⟩
   · rw [e2] at e; omega
 · intro hb1
   obtain rfl : bw = 1 := by omega
   rw [Nat.mul_one] at e
   rcases hcase with rfl | rfl
   · omega
   · refine ⟨rfl, ?_⟩
     intro c x hx hc hxe
     rw [e2] at e
     have : c = 0 ∨ c = 1 := by omega
     rcases this with rfl | rfl
     · rw [Nat.mul_zero] at hxe; omega
     · rw [Nat.mul_one] at hxe; omega
set_option maxHeartbeats 4000000 in
set_option maxRecDepth 100000 in
theorem taken_w {b D n cap : Nat} {pre x post : List Nat} {vd : Value} {w : World} (hR : Row w b (wrow (pre ++ x ++ post)) 104) (hx : Wrds x) (hD : WArgP (fun c => c ≠ b) w vd D) (hl : x.length = n + 3) (ld : (wrds D).length = n + 2) (ht : 2147483648 ≤ wrd D (n + 1)) (hL : wval x < 4294967296 * D) (hn : n ≤ 15000) :
   Calls Tryz.prog 149 #[.slice (some ⟨b, pre.length, none⟩) x.length cap, vd] w fun e w' => ∃ x', e = .returned (.int .u32 ((wval x / D : Nat) : Int)) ∧ x'.length = x.length ∧ Wrds x' ∧ wval x' = wval x % D ∧ Row w' b (wrow (pre ++ x' ++ post)) 104 ∧ But b b w w' := by
 obtain ⟨pd, kd, rfl⟩ := hD.arg.slice
 obtain ⟨f1, f2, f3, f4⟩ := guess_facts hl hx ld ht hL
 have hDp : 0 < D := by
   apply Decidable.byContradiction
   intro h
   obtain rfl : D = 0 := by omega
   rw [wrds_zero] at ld
   simp at ld
 have hA := hD.arg
 obtain ⟨bd, rfl, hbd, c1⟩ := hA.at (j := n + 1) (by omega)
 obtain ⟨bd', e, _, c2⟩ := hA.at (j := n) (by omega)
 obtain rfl : bd = bd' := by injection e with e; injection e
 clear e
 have cx : ∀ j (h : j < x.length), w.cell? ⟨b, pre.length + j, none⟩ = some (.int .u32 (x[j] : Int)) := fun j h => by
   rw [hR.wat (j := pre.length + j) (by simp; omega), at_mid pre x post j h]
 have HG := Lib.hid (guessed_c (capx := cap) (capd := kd) c1 c2 (cx (n + 2) (by omega)) (cx (n + 1) (by omega)) (cx n (by omega)) (by omega) ht (wrd_lt D _) (wrd_lt D _) (hx.at _ _) (hx.at _ _) (hx.at _ _) f1 f2 f3)
 have hM : wval x < 4294967296 ^ x.length := wval_lt x hx
 have HT : Hid (∀ (k t : Nat), t < 4294967296 → Calls Tryz.prog 166 #[.slice (some ⟨b, pre.length, none⟩) (n + 3) cap, .slice (some ⟨bd, 0, none⟩) (n + 2) kd, .int .u64 (t : Int)] (w.drewN k) fun e w' => ∃ bw x', e = .returned (.bool (decide (0 < bw))) ∧ x'.length = x.length ∧ Wrds x' ∧ bw ≤ 1 ∧ wval x' + t * D = wval x + 4294967296 ^ x.length * bw ∧ Row w' b (wrow (pre ++ x' ++ post)) 104 ∧ But b b (w.drewN k) w') := Lib.hid fun k t h => by
   have := takeAway_w (cap := cap) (hR.drewN k) hx (hD.but ((But.refl b b w).drewN k)) (by omega) (by omega) h
   rw [hl, ld] at this
   rw [hl]; exact this
 have HV : Hid (∀ (w1 : World) (y : List Nat), y.length = x.length → Wrds y → Row w1 b (wrow (pre ++ y ++ post)) 104 → But b b w w1 → Calls Tryz.prog 167 #[.slice (some ⟨b, pre.length, none⟩) (n + 3) cap, .slice (some ⟨bd, 0, none⟩) (n + 2) kd] w1 fun e w' => ∃ c x', e = .returned (.tuple #[]) ∧ x'.length = y.length ∧ Wrds x' ∧ c ≤ 1 ∧ wval x' + 4294967296 ^ y.length * c = wval y + D ∧ Row w' b (wrow (pre ++ x' ++ post)) 104 ∧ But b b w1 w') := Lib.hid fun w1 y h1 h2 h3 h4 => by
   have := giveBack_w (cap := cap) h3 h2 (hD.but h4) (by omega) (by omega)
   rw [ld, h1, hl] at this
   rw [h1, hl]; exact this
 have HM := Lib.hid hM
 have HF4 := Lib.hid f4
 have HDP := Lib.hid hDp
 have HB0 : Hid (∀ k, But b b w (w.drewN k)) := Lib.hid fun k => (But.refl b b w).drewN k
 obtain ⟨q, hq⟩ : ∃ q, wval x / D = q := ⟨_, rfl⟩
 have HQ := Lib.hid hq
 have hqb : q < 4294967296 := by rw [← hq]; exact f2
 rw [hq] at HG
 rw [ld, hq, hl]
 clear hR hx hD hA f1 f2 f3 f4 c1 c2 cx hM hDp hL ht hq
 go_enter Tryz.func149, Tryz.ntmps149
 go_wp2_with (go_at_call 165; refine HG.out.mono ?_; rintro e w1 ⟨t, k, rfl, rfl, g1, g2, g3⟩)
 have G4 := HF4.out t g2 g3
 rw [HQ.out] at G4
 clear g3
 go_wp2_with (go_at_call 166; refine (HT.out k t g2).mono ?_; rintro e w2 ⟨bw, y, rfl, y1, y2, y3, y4, y5, y6⟩)
 · have LO := left_over HDP.out (by rw [HQ.out]; exact g1) (by rw [HQ.out]; exact G4) (by rw [← y1]; exact wval_lt y y2) HM.out y3 y4
   have Y2 := Lib.hid y2
   have Y5 := Lib.hid y5
   have Y1 := Lib.hid y1
   have HB := Lib.hid ((HB0.out k).trans y6)
   obtain ⟨e1, hz⟩ := LO.2 (by assumption)
   rw [HQ.out] at e1
   subst e1
   have HZ := Lib.hid hz
   have hm : (q : Int) % 4294967296 = q := by omega
   have ws : IntKind.u64.wrap (((q + 1 : Nat) : Int) - 1) = (q : Int) := by rw [show ((q + 1 : Nat) : Int) - 1 = (q : Int) by omega]; exact IntWalk.u64_in _ (by omega)
   have HVY := Lib.hid (HV.out w2 y Y1.out Y2.out Y5.out HB.out)
   clear LO hz y1 y2 y3 y4 y5 y6 G4 g1
   go_wp2_with (go_at_call 167; refine HVY.out.mono ?_; rintro e w3 ⟨c, z, rfl, z1, z2, z3, z4, z5, z6⟩)
   go_ret
   exact ⟨z, rfl, by rw [z1, Y1.out, hl], z2, HZ.out c (wval z) (by rw [← Y1.out, ← z1]; exact wval_lt z z2) z3 (by rw [← Y1.out]; exact z4), z5, HB.out.trans z6⟩
 · have LO := left_over HDP.out (by rw [HQ.out]; exact g1) (by rw [HQ.out]; exact G4) (by rw [← y1]; exact wval_lt y y2) HM.out y3 y4
   have hb : bw = 0 := by omega
   obtain ⟨e1, hz⟩ := LO.1 hb
   rw [HQ.out] at e1
   subst e1
   have HZ := Lib.hid hz
   have Y2 := Lib.hid y2
   have Y5 := Lib.hid y5
   have Y1 := Lib.hid y1
   have HB := Lib.hid ((HB0.out k).trans y6)
   have hm : (t : Int) % 4294967296 = t := by omega
   clear LO hz y1 y2 y3 y4 y5 y6 G4 g1
   first | go_wp2 | skip
   go_ret
   exact ⟨y, rfl, by rw [Y1.out, hl], Y2.out, HZ.out, Y5.out, HB.out⟩
end Go.Proofs.YtpdoddhieblooaaGreatDoor
