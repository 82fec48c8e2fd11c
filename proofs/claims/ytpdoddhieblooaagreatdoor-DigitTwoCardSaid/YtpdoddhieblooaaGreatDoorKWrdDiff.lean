/- digit.sum: the words of a sum. digit.difference: the words of a difference. digit.compare: the order of two numbers by their words; cmp.Compare of ints and of words. -/
import Derived.Test.YtpdoddhieblooaaGreatDoorKWrdRow
import Derived.IntWalk
import Derived.WalkSmall
namespace Go.Proofs.YtpdoddhieblooaaGreatDoor
open Go.RowKit

theorem wsum_step {a b S k c : Nat} {l : List Nat} (hk : k < l.length) (hd : Wrds (l.take k)) (hc : c ≤ 1) (h : wval (l.take k) + 4294967296 ^ k * (c + wval ((wrds a).drop k) + wval ((wrds b).drop k)) = S) (d : Nat) (ed : d = c + (wrd a k + wrd b k)) :
   Wrds ((l.set k (d % 4294967296)).take (k + 1)) ∧ d / 4294967296 ≤ 1 ∧ wval ((l.set k (d % 4294967296)).take (k + 1)) + 4294967296 ^ (k + 1) * (d / 4294967296 + wval ((wrds a).drop (k + 1)) + wval ((wrds b).drop (k + 1))) = S := by
 have h1 := wrd_lt a k
 have h2 := wrd_lt b k
 have e1 : (l.set k (d % 4294967296)).take (k + 1) = l.take k ++ [d % 4294967296] := by
   rw [List.take_succ_eq_append_getElem (by simpa using hk), List.getElem_set_self, List.take_set_of_le (Nat.le_refl k)]
 rw [e1]
 refine ⟨hd.push (by omega), by omega, ?_⟩
 have e2 : wval ((wrds a).drop k) = wrd a k + 4294967296 * wval ((wrds a).drop (k + 1)) := wval_drop (wrds a) k
 have e3 : wval ((wrds b).drop k) = wrd b k + 4294967296 * wval ((wrds b).drop (k + 1)) := wval_drop (wrds b) k
 rw [e2, e3] at h
 rw [wval_push, List.length_take_of_le (Nat.le_of_lt hk), Nat.pow_succ, Nat.mul_assoc, Nat.add_assoc, ← Nat.mul_add, ← h]
 congr 2
 omega
theorem wsum_end {a b N c : Nat} {l : List Nat} (hl : l.length = N) (hN : max (wrds a).length (wrds b).length + 1 = N) (h : wval (l.take N) + 4294967296 ^ N * (c + wval ((wrds a).drop N) + wval ((wrds b).drop N)) = a + b) : wval l = a + b := by
 rw [wval_drop_end _ _ (by omega), wval_drop_end _ _ (by omega), ← hl, List.take_length, hl] at h
 have ha := wval_lt (wrds a) (wrds_digs a)
 have hb := wval_lt (wrds b) (wrds_digs b)
 rw [wval_digs] at ha hb
 have h1 : 4294967296 ^ (wrds a).length ≤ 4294967296 ^ (N - 1) := Nat.pow_le_pow_right (by decide) (by omega)
 have h2 : 4294967296 ^ (wrds b).length ≤ 4294967296 ^ (N - 1) := Nat.pow_le_pow_right (by decide) (by omega)
 have h3 : 4294967296 ^ N = 4294967296 ^ (N - 1) * 4294967296 := by rw [← Nat.pow_succ]; congr 1; omega
 rcases Nat.eq_zero_or_pos c with h0 | h0
 · rw [h0] at h; simpa using h
 · have h4 : 4294967296 ^ N * 1 ≤ 4294967296 ^ N * (c + 0 + 0) := Nat.mul_le_mul_left _ (by omega)
   omega
def SumR (w : World) (a b N : Nat) (k c : Nat) (l : List Nat) (wr : World) : Prop :=
 k ≤ N ∧ c ≤ 1 ∧ l.length = N ∧ Wrds (l.take k) ∧ wval (l.take k) + 4294967296 ^ k * (c + wval ((wrds a).drop k) + wval ((wrds b).drop k)) = a + b ∧ Row wr w.heap.size (wrow l) 104 ∧ Below w.heap.size w wr
theorem SumR.next {w wr : World} {a b N k c : Nat} {l : List Nat} (h : SumR w a b N k c l wr) (hk : k < N) :
   SumR w a b N (k + 1) ((c + (wrd a k + wrd b k)) / 4294967296) (l.set k ((c + (wrd a k + wrd b k)) % 4294967296)) (wr.setCell ⟨w.heap.size, k, none⟩ (.int .u32 ((((c + (wrd a k + wrd b k)) % 4294967296 : Nat)) : Int))) := by
 obtain ⟨h1, h2, h3, h4, h5, h6, h7⟩ := h
 obtain ⟨g1, g2, g3⟩ := wsum_step (by omega) h4 h2 h5 _ rfl
 exact ⟨by omega, g2, by rw [List.length_set]; exact h3, g1, g3, h6.wput k _, h7.setCell (Nat.le_refl _) _⟩
set_option maxHeartbeats 4000000 in
set_option maxRecDepth 100000 in
theorem sum_d {B C a b : Nat} {va vb : Value} {w : World} (hA : WArg B w va a) (hB : WArg C w vb b) (la : (wrds a).length ≤ 10000) (lb : (wrds b).length ≤ 10000) :
   Calls Tryz.prog 113 #[va, vb] w (GivesW w (a + b)) := by
 obtain ⟨pa, ka, rfl⟩ := hA.slice
 obtain ⟨pb, kb, rfl⟩ := hB.slice
 have HA := Lib.hid hA
 have HB := Lib.hid hB
 clear hA hB
 obtain ⟨N, hN⟩ : ∃ N, max (wrds a).length (wrds b).length + 1 = N := ⟨_, rfl⟩
 have hmk := run_make_row' 39 104 (.int .u32 0) 4 Tryz.underlying39 Tryz.infoWord rfl .i64 .i64 N (by omega) (by omega)
 have R0 := Lib.hid (Row.new w (madeCells #[Value.int .u32 0] N) 104)
 rw [wmade] at R0 hmk
 have HN := Lib.hid hN
 have hN2 : N ≤ 10001 := by omega
 have hmx : IntKind.i64.wrap (max ((wrds a).length : Int) ((wrds b).length : Int) + 1) = N := by rw [show max ((wrds a).length : Int) ((wrds b).length : Int) + 1 = N by omega]; exact IntWalk.i64_in _ (by omega)
 clear hN
 rcases Nat.lt_or_ge (wrds a).length (wrds b).length with hle | hle
 · have hle' : ((wrds a).length : Int) < ((wrds b).length : Int) := by omega
   have hN3 : ((wrds b).length : Int) + 1 = N := by have := HN.out; omega
   clear hle hmx
   go_enter Tryz.func113, Tryz.ntmps113
   go_wp2
   go_loopw [6, 17] (fun c i wr => ∃ (k cc : Nat) (l : List Nat), i = .int .i64 (k : Int) ∧ c = .int .u64 (cc : Int) ∧ SumR w a b N k cc l wr) (fun _ i _ => N - (intOf i).toNat)
   case atStart => exact ⟨0, 0, List.replicate N 0, rfl, rfl, Nat.zero_le _, by decide, by simp, Wrds.nil, by simp [wval, wval_digs], R0.out, (Below.refl _ w).alloc (Nat.le_refl _) _⟩
   case round =>
     obtain ⟨k, c, l, rfl, rfl, hR⟩ := hrel
     have hk := hR.1
     have hc := hR.2.1
     have hB := hR.2.2.2.2.2.2
     have hrow := hR.2.2.2.2.2.1
     have hl := hR.2.2.1
     by_cases h1 : k < N
     · have NX := Lib.hid (hR.next h1)
       have x1 := wrd_lt a k
       have x2 := wrd_lt b k
       have WA := Lib.hid (word_d (HA.out.keep hB (Nat.le_refl _)) k (by omega) (by omega))
       have WB := Lib.hid (word_d (HB.out.keep hB (Nat.le_refl _)) k (by omega) (by omega))
       have hcO := hrow.wat (show k < l.length by omega)
       have hfO := hrow.free k
       have hw1 : IntKind.u64.wrap ((wrd a k : Int) + (wrd b k : Int)) = (wrd a k : Int) + (wrd b k : Int) := IntWalk.u64_in _ (by omega)
       have hw2 : IntKind.u64.wrap ((c : Int) + ((wrd a k : Int) + (wrd b k : Int))) = (c : Int) + ((wrd a k : Int) + (wrd b k : Int)) := IntWalk.u64_in _ (by omega)
       have HE : Hid (((c : Int) + ((wrd a k : Int) + (wrd b k : Int))) % 4294967296 = ((((c + (wrd a k + wrd b k)) % 4294967296 : Nat)) : Int)) := Lib.hid (by omega)
       have HD : Hid (((c : Int) + ((wrd a k : Int) + (wrd b k : Int))) / 4294967296 = ((((c + (wrd a k + wrd b k)) / 4294967296 : Nat)) : Int)) := Lib.hid (by omega)
       clear hR hB hrow hmk R0
       go_wp2_with (go_at_call 143; first
         | ((with_reducible refine WA.out.mono ?_); rintro e w2 ⟨rfl, rfl⟩)
         | ((with_reducible refine WB.out.mono ?_); rintro e w2 ⟨rfl, rfl⟩))
       case roundEnd =>
         rw [HE.out, HD.out]
         exact ⟨⟨k + 1, _, _, rfl, rfl, NX.out⟩, by simp [intOf]; omega⟩
     · have hke : k = N := by omega
       obtain ⟨_, _, _, hd, hs, _, _⟩ := hR
       rw [hke] at hd hs
       rw [← hl, List.take_length] at hd
       have HV := Lib.hid (wsum_end hl HN.out hs)
       have HT := Lib.hid (trim_row (cap := N) hrow hd (by omega) (by omega))
       have HW := Lib.hid (WArg.of_row (B := w.heap.size) (cap := N) hrow (Nat.le_refl _) hd (by omega))
       rw [hl] at HT
       rw [HV.out] at HW HT
       have HB2 := Lib.hid hB
       clear hB hrow hd hs hmk R0
       go_wp2_with (go_at_call 115; refine HT.out.mono ?_; rintro e w2 ⟨rfl, rfl⟩)
       go_ret
       exact ⟨_, rfl, HW.out, HB2.out⟩
 · have hle' : ((wrds b).length : Int) ≤ ((wrds a).length : Int) := by omega
   have hle2 : ¬ ((wrds a).length : Int) < ((wrds b).length : Int) := by omega
   have hN3 : ((wrds a).length : Int) + 1 = N := by have := HN.out; omega
   clear hle hmx
   go_enter Tryz.func113, Tryz.ntmps113
   go_wp2
   go_loopw [6, 17] (fun c i wr => ∃ (k cc : Nat) (l : List Nat), i = .int .i64 (k : Int) ∧ c = .int .u64 (cc : Int) ∧ SumR w a b N k cc l wr) (fun _ i _ => N - (intOf i).toNat)
   case atStart => exact ⟨0, 0, List.replicate N 0, rfl, rfl, Nat.zero_le _, by decide, by simp, Wrds.nil, by simp [wval, wval_digs], R0.out, (Below.refl _ w).alloc (Nat.le_refl _) _⟩
   case round =>
     obtain ⟨k, c, l, rfl, rfl, hR⟩ := hrel
     have hk := hR.1
     have hc := hR.2.1
     have hB := hR.2.2.2.2.2.2
     have hrow := hR.2.2.2.2.2.1
     have hl := hR.2.2.1
     by_cases h1 : k < N
     · have NX := Lib.hid (hR.next h1)
       have x1 := wrd_lt a k
       have x2 := wrd_lt b k
       have WA := Lib.hid (word_d (HA.out.keep hB (Nat.le_refl _)) k (by omega) (by omega))
       have WB := Lib.hid (word_d (HB.out.keep hB (Nat.le_refl _)) k (by omega) (by omega))
       have hcO := hrow.wat (show k < l.length by omega)
       have hfO := hrow.free k
       have hw1 : IntKind.u64.wrap ((wrd a k : Int) + (wrd b k : Int)) = (wrd a k : Int) + (wrd b k : Int) := IntWalk.u64_in _ (by omega)
       have hw2 : IntKind.u64.wrap ((c : Int) + ((wrd a k : Int) + (wrd b k : Int))) = (c : Int) + ((wrd a k : Int) + (wrd b k : Int)) := IntWalk.u64_in _ (by omega)
       have HE : Hid (((c : Int) + ((wrd a k : Int) + (wrd b k : Int))) % 4294967296 = ((((c + (wrd a k + wrd b k)) % 4294967296 : Nat)) : Int)) := Lib.hid (by omega)
       have HD : Hid (((c : Int) + ((wrd a k : Int) + (wrd b k : Int))) / 4294967296 = ((((c + (wrd a k + wrd b k)) / 4294967296 : Nat)) : Int)) := Lib.hid (by omega)
       clear hR hB hrow hmk R0
       go_wp2_with (go_at_call 143; first
         | ((with_reducible refine WA.out.mono ?_); rintro e w2 ⟨rfl, rfl⟩)
         | ((with_reducible refine WB.out.mono ?_); rintro e w2 ⟨rfl, rfl⟩))
       case roundEnd =>
         rw [HE.out, HD.out]
         exact ⟨⟨k + 1, _, _, rfl, rfl, NX.out⟩, by simp [intOf]; omega⟩
     · have hke : k = N := by omega
       obtain ⟨_, _, _, hd, hs, _, _⟩ := hR
       rw [hke] at hd hs
       rw [← hl, List.take_length] at hd
       have HV := Lib.hid (wsum_end hl HN.out hs)
       have HT := Lib.hid (trim_row (cap := N) hrow hd (by omega) (by omega))
       have HW := Lib.hid (WArg.of_row (B := w.heap.size) (cap := N) hrow (Nat.le_refl _) hd (by omega))
       rw [hl] at HT
       rw [HV.out] at HW HT
       have HB2 := Lib.hid hB
       clear hB hrow hd hs hmk R0
       go_wp2_with (go_at_call 115; refine HT.out.mono ?_; rintro e w2 ⟨rfl, rfl⟩)
       go_ret
       exact ⟨_, rfl, HW.out, HB2.out⟩
end Go.Proofs.YtpdoddhieblooaaGreatDoor
namespace Go.Proofs.YtpdoddhieblooaaGreatDoor
open Go.RowKit

theorem wdiff_step {a b k c : Nat} {l : List Nat} (hk : k < l.length) (hd : Wrds (l.take k)) (h : wval (l.take k) + 4294967296 ^ k * wval ((wrds a).drop k) + b = a + 4294967296 ^ k * (wval ((wrds b).drop k) + c)) (o c' : Nat) (ho : o < 4294967296) (e : o + wrd b k + c = wrd a k + 4294967296 * c') :
   Wrds ((l.set k o).take (k + 1)) ∧ wval ((l.set k o).take (k + 1)) + 4294967296 ^ (k + 1) * wval ((wrds a).drop (k + 1)) + b = a + 4294967296 ^ (k + 1) * (wval ((wrds b).drop (k + 1)) + c') := by
 have e1 : (l.set k o).take (k + 1) = l.take k ++ [o] := by
   rw [List.take_succ_eq_append_getElem (by simpa using hk), List.getElem_set_self, List.take_set_of_le (Nat.le_refl k)]
 rw [e1]
 refine ⟨hd.push ho, ?_⟩
 have e2 : wval ((wrds a).drop k) = wrd a k + 4294967296 * wval ((wrds a).drop (k + 1)) := wval_drop (wrds a) k
 have e3 : wval ((wrds b).drop k) = wrd b k + 4294967296 * wval ((wrds b).drop (k + 1)) := wval_drop (wrds b) k
 rw [e2, e3] at h
 rw [wval_push, List.length_take_of_le (Nat.le_of_lt hk), Nat.pow_succ]
 generalize 4294967296 ^ k = P at h ⊢
 have k1 : P * o + P * wrd b k + P * c = P * wrd a k + P * 4294967296 * c' := by
   rw [← Nat.mul_add, ← Nat.mul_add, e, Nat.mul_add, Nat.mul_assoc]
 rw [Nat.mul_add, Nat.mul_add P (_ + _) c, Nat.mul_add P (wrd b k), ← Nat.mul_assoc, ← Nat.mul_assoc] at h
 rw [Nat.mul_add (P * 4294967296)]
 omega
theorem wdiff_end {a b N c : Nat} {l : List Nat} (hl : l.length = N) (hN : (wrds a).length = N) (hba : b ≤ a) (hd : Wrds l) (h : wval (l.take N) + 4294967296 ^ N * wval ((wrds a).drop N) + b = a + 4294967296 ^ N * (wval ((wrds b).drop N) + c)) : wval l = a - b := by
 have hlen : (wrds b).length ≤ (wrds a).length := wlength_le_of_wval (wrds_digs a) (wrds_neat b) (by rw [wval_digs, wval_digs]; exact hba)
 rw [wval_drop_end _ _ (by omega), wval_drop_end _ _ (by omega), ← hl, List.take_length, hl] at h
 have hlt := wval_lt l hd
 rw [hl] at hlt
 rcases Nat.eq_zero_or_pos c with h0 | h0
 · rw [h0] at h; simp at h; omega
 · have h4 : 4294967296 ^ N * 1 ≤ 4294967296 ^ N * (0 + c) := Nat.mul_le_mul_left _ (by omega)
   omega
def DiffR (w : World) (a b N : Nat) (k c : Nat) (l : List Nat) (wr : World) : Prop :=
 k ≤ N ∧ c ≤ 1 ∧ l.length = N ∧ Wrds (l.take k) ∧ wval (l.take k) + 4294967296 ^ k * wval ((wrds a).drop k) + b = a + 4294967296 ^ k * (wval ((wrds b).drop k) + c) ∧ Row wr w.heap.size (wrow l) 104 ∧ Below w.heap.size w wr
theorem DiffR.drewN {w wr : World} {a b N k c : Nat} {l : List Nat} (h : DiffR w a b N k c l wr) (n : Nat) : DiffR w a b N k c l (wr.drewN n) :=
 ⟨h.1, h.2.1, h.2.2.1, h.2.2.2.1, h.2.2.2.2.1, h.2.2.2.2.2.1, below_drewN h.2.2.2.2.2.2 n⟩
theorem lack {x y c : Nat} (hx : x < 4294967296) (hy : y < 4294967296) (hc : c ≤ 1) : ∃ L1 L : Nat, IntKind.u64.wrap ((x : Int) - y) = L1 ∧ IntKind.u64.wrap ((L1 : Int) - c) = L ∧ L < 18446744073709551616 ∧ L / 9223372036854775808 ≤ 1 ∧ L % 4294967296 + y + c = x + 4294967296 * (L / 9223372036854775808) := by
 have e1 : IntKind.u64.wrap ((x : Int) - y) = ((x : Int) - y) % 18446744073709551616 := IntKind.wrap_u64 _
 rw [e1]
 obtain ⟨L1, h1⟩ := Int.eq_ofNat_of_zero_le (show 0 ≤ ((x : Int) - y) % 18446744073709551616 by omega)
 have e2 : IntKind.u64.wrap ((L1 : Int) - c) = ((L1 : Int) - c) % 18446744073709551616 := IntKind.wrap_u64 _
 obtain ⟨L, h2⟩ := Int.eq_ofNat_of_zero_le (show 0 ≤ ((L1 : Int) - c) % 18446744073709551616 by omega)
 refine ⟨L1, L, h1, e2.trans h2, by omega, by omega, by omega⟩
theorem DiffR.next {w wr : World} {a b N k c : Nat} {l : List Nat} (h : DiffR w a b N k c l wr) (hk : k < N) {L : Nat} (hL : L / 9223372036854775808 ≤ 1) (e : L % 4294967296 + wrd b k + c = wrd a k + 4294967296 * (L / 9223372036854775808)) :
   DiffR w a b N (k + 1) (L / 9223372036854775808) (l.set k (L % 4294967296)) (wr.setCell ⟨w.heap.size, k, none⟩ (.int .u32 ((L % 4294967296 : Nat) : Int))) := by
 obtain ⟨h1, h2, h3, h4, h5, h6, h7⟩ := h
 obtain ⟨g1, g2⟩ := wdiff_step (by omega) h4 h5 _ _ (Nat.mod_lt _ (by decide)) e
 exact ⟨by omega, hL, by rw [List.length_set]; exact h3, g1, g2, h6.wput k _, h7.setCell (Nat.le_refl _) _⟩
theorem WArg.at {B : Nat} {w : World} {p : Option Addr} {cap n : Nat} (h : WArg B w (.slice p (wrds n).length cap) n) {j : Nat} (hj : j < (wrds n).length) : ∃ b, p = some ⟨b, 0, none⟩ ∧ b < w.heap.size ∧ w.cell? ⟨b, j, none⟩ = some (.int .u32 (wrd n j : Int)) := by
 obtain ⟨p', b, cap', e, h1, h2, h3, h4⟩ := h.parts
 cases e
 refine ⟨b, h1 (by omega), h4 (by omega), (h3 j hj).trans ?_⟩
 rw [wrd, List.getElem?_eq_getElem hj]; rfl
set_option maxHeartbeats 4000000 in
set_option maxRecDepth 100000 in
theorem difference_d {B C a b : Nat} {va vb : Value} {w : World} (hA : WArg B w va a) (hB : WArg C w vb b) (hba : b ≤ a) (la : (wrds a).length ≤ 10000) :
   Calls Tryz.prog 114 #[va, vb] w (GivesW w (a - b)) := by
 obtain ⟨pa, ka, rfl⟩ := hA.slice
 obtain ⟨pb, kb, rfl⟩ := hB.slice
 have HA := Lib.hid hA
 have HB := Lib.hid hB
 have lb : (wrds b).length ≤ 10000 := Nat.le_trans (wlength_le_of_wval (wrds_digs a) (wrds_neat b) (by rw [wval_digs, wval_digs]; exact hba)) la
 clear hA hB
 obtain ⟨N, hN⟩ : ∃ N, (wrds a).length = N := ⟨_, rfl⟩
 have hmk := run_make_row' 39 104 (.int .u32 0) 4 Tryz.underlying39 Tryz.infoWord rfl .i64 .i64 N (by omega) (by omega)
 have R0 := Lib.hid (Row.new w (madeCells #[Value.int .u32 0] N) 104)
 rw [wmade] at R0 hmk
 have HN := Lib.hid hN
 have HBA := Lib.hid hba
 rw [hN] at HA la
 rw [show (Value.slice pa (wrds a).length ka) = Value.slice pa N ka by rw [hN]]
 clear hN hba
 have hN2 : N ≤ 10000 := la
 go_enter Tryz.func114, Tryz.ntmps114
 go_wp2
 go_loopw [6, 14] (fun c i wr => ∃ (k cc : Nat) (l : List Nat), i = .int .i64 (k : Int) ∧ c = .int .u64 (cc : Int) ∧ DiffR w a b N k cc l wr) (fun _ i _ => N - (intOf i).toNat)
 case atStart => exact ⟨0, 0, List.replicate N 0, rfl, rfl, Nat.zero_le _, by decide, by simp, Wrds.nil, by simp [wval, wval_digs], R0.out, (Below.refl _ w).alloc (Nat.le_refl _) _⟩
 case round =>
   obtain ⟨k, c, l, rfl, rfl, hR⟩ := hrel
   have hk := hR.1
   have hc := hR.2.1
   have hB := hR.2.2.2.2.2.2
   have hrow := hR.2.2.2.2.2.1
   have hl := hR.2.2.1
   by_cases h1 : k < N
   · obtain ⟨L1, L, w1, w2, w3, w4, w5⟩ := lack (wrd_lt a k) (wrd_lt b k) hc
     have HA1 := HA.out
     rw [show N = (wrds a).length from HN.out.symm] at HA1
     obtain ⟨ba, rfl, hba2, hcA⟩ := (HA1.keep hB (Nat.le_refl _)).at (j := k) (by rw [HN.out]; exact h1)
     have HC : Hid (∀ W, Below w.heap.size w W → Calls Tryz.prog 143 #[.slice pb (wrds b).length kb, .int .i64 (k : Int)] W fun e w' => e = .returned (.int .u64 (wrd b k : Int)) ∧ w' = W) := by
       show ∀ _, _
       exact fun W hW => (word_d (HB.out.keep hW (Nat.le_refl _)) k (by omega) (by omega)).mono fun _ _ ⟨h1, h2⟩ => ⟨h1, h2.symm⟩
     have HBr := Lib.hid hB
     have HRr := Lib.hid hR
     have NX : Hid (∀ n, DiffR w a b N (k + 1) (L / 9223372036854775808) (l.set k (L % 4294967296)) ((wr.drewN n).setCell ⟨w.heap.size, k, none⟩ (.int .u32 ((L % 4294967296 : Nat) : Int)))) := Lib.hid fun n => (hR.drewN n).next h1 w4 w5
     have x1 := wrd_lt a k
     have x2 := wrd_lt b k
     have hcO := hrow.wat (show k < l.length by omega)
     have hfO := hrow.free k
     have j1 : (k : Int) < N := by omega
     clear hR hB hrow hmk R0 HA1 w5
     go_wp2
     go_quiet ((go_at_call 143; exact Calls.quiet_of_same (HC.out _ (below_drewN HBr.out _))))
     have NXq := Lib.hid (NX.out nq)
     have hcO2 : (wr.drewN nq).cell? ⟨w.heap.size, k, none⟩ = some (.int .u32 (l[k] : Int)) := hcO
     have hfO2 : (wr.drewN nq).frozen? ⟨w.heap.size, k, none⟩ = false := hfO
     have HE : Hid ((L : Int) % 4294967296 = ((L % 4294967296 : Nat) : Int)) := Lib.hid (by omega)
     have HF : Hid ((L : Int) / 9223372036854775808 = ((L / 9223372036854775808 : Nat) : Int)) := Lib.hid (by omega)
     clear NX hcO hfO HC HRr HBr hcA
     generalize wr.drewN nq = W2 at *
     go_wp2
     case roundEnd =>
       rw [HE.out, HF.out]
       exact ⟨⟨k + 1, _, _, rfl, rfl, NXq.out⟩, by simp [intOf]; omega⟩
   · have hke : k = N := by omega
     obtain ⟨_, _, _, hd, hs, _, _⟩ := hR
     rw [hke] at hd hs
     rw [← hl, List.take_length] at hd
     have HV := Lib.hid (wdiff_end hl HN.out HBA.out hd hs)
     have HT := Lib.hid (trim_row (cap := N) hrow hd (by omega) (by omega))
     have HW := Lib.hid (WArg.of_row (B := w.heap.size) (cap := N) hrow (Nat.le_refl _) hd (by omega))
     rw [hl] at HT
     rw [HV.out] at HW HT
     have HB2 := Lib.hid hB
     clear hB hrow hd hs hmk R0
     go_wp2_with (go_at_call 115; refine HT.out.mono ?_; rintro e w2 ⟨rfl, rfl⟩)
     go_ret
     exact ⟨_, rfl, HW.out, HB2.out⟩
end Go.Proofs.YtpdoddhieblooaaGreatDoor
namespace Go.Proofs.YtpdoddhieblooaaGreatDoor
open Go.RowKit

def cmpZ (x y : Int) : Int := if x < y then -1 else if y < x then 1 else 0
theorem cmpZ_lt {x y : Int} (h : x < y) : cmpZ x y = -1 := if_pos h
theorem cmpZ_gt {x y : Int} (h : y < x) : cmpZ x y = 1 := by unfold cmpZ; rw [if_neg (by omega), if_pos h]
theorem cmpZ_eq {x y : Int} (h : x = y) : cmpZ x y = 0 := by unfold cmpZ; rw [if_neg (by omega), if_neg (by omega)]
theorem notnan_i (x : Int) (w : World) : Calls Tryz.prog 141 #[.int .i64 x] w fun e w' => e = .returned (.bool false) ∧ w = w' := by
 go_enter Tryz.func141, Tryz.ntmps141
 go_wp2
 go_ret
 exact ⟨by simp, rfl⟩
theorem notnan_w (x : Int) (w : World) : Calls Tryz.prog 142 #[.int .u32 x] w fun e w' => e = .returned (.bool false) ∧ w = w' := by
 go_enter Tryz.func142, Tryz.ntmps142
 go_wp2
 go_ret
 exact ⟨by simp, rfl⟩
set_option maxHeartbeats 1000000 in
theorem cmp_i (x y : Int) (w : World) : Calls Tryz.prog 111 #[.int .i64 x, .int .i64 y] w fun e w' => e = .returned (.int .i64 (cmpZ x y)) ∧ w = w' := by
 by_cases h1 : x < y
 · rw [cmpZ_lt h1]
   have d : decide (x < y) = true := decide_eq_true h1
   go_enter Tryz.func111, Tryz.ntmps111
   go_wp2_with (go_at_call 141; refine (notnan_i _ _).mono ?_; rintro e w' ⟨rfl, rfl⟩)
   go_ret
   exact ⟨rfl, rfl⟩
 · by_cases h2 : y < x
   · rw [cmpZ_gt h2]
     have d : decide (x < y) = false := decide_eq_false h1
     have d2 : decide (y < x) = true := decide_eq_true h2
     clear h1
     go_enter Tryz.func111, Tryz.ntmps111
     go_wp2_with (go_at_call 141; refine (notnan_i _ _).mono ?_; rintro e w' ⟨rfl, rfl⟩)
     go_ret
     exact ⟨rfl, rfl⟩
   · rw [cmpZ_eq (by omega)]
     have d : decide (x < y) = false := decide_eq_false h1
     have d2 : decide (y < x) = false := decide_eq_false h2
     clear h1 h2
     go_enter Tryz.func111, Tryz.ntmps111
     go_wp2_with (go_at_call 141; refine (notnan_i _ _).mono ?_; rintro e w' ⟨rfl, rfl⟩)
     go_ret
     exact ⟨rfl, rfl⟩
set_option maxHeartbeats 1000000 in
theorem cmp_w (x y : Int) (w : World) : Calls Tryz.prog 112 #[.int .u32 x, .int .u32 y] w fun e w' => e = .returned (.int .i64 (cmpZ x y)) ∧ w = w' := by
 by_cases h1 : x < y
 · rw [cmpZ_lt h1]
   have d : decide (x < y) = true := decide_eq_true h1
   go_enter Tryz.func112, Tryz.ntmps112
   go_wp2_with (go_at_call 142; refine (notnan_w _ _).mono ?_; rintro e w' ⟨rfl, rfl⟩)
   go_ret
   exact ⟨rfl, rfl⟩
 · by_cases h2 : y < x
   · rw [cmpZ_gt h2]
     have d : decide (x < y) = false := decide_eq_false h1
     have d2 : decide (y < x) = true := decide_eq_true h2
     clear h1
     go_enter Tryz.func112, Tryz.ntmps112
     go_wp2_with (go_at_call 142; refine (notnan_w _ _).mono ?_; rintro e w' ⟨rfl, rfl⟩)
     go_ret
     exact ⟨rfl, rfl⟩
   · rw [cmpZ_eq (by omega)]
     have d : decide (x < y) = false := decide_eq_false h1
     have d2 : decide (y < x) = false := decide_eq_false h2
     clear h1 h2
     go_enter Tryz.func112, Tryz.ntmps112
     go_wp2_with (go_at_call 142; refine (notnan_w _ _).mono ?_; rintro e w' ⟨rfl, rfl⟩)
     go_ret
     exact ⟨rfl, rfl⟩
theorem wrds_lt {a b : Nat} (h : (wrds a).length < (wrds b).length) : a < b := by
 have := wval_lt_of_length (wrds_digs a) (wrds_neat b) h
 rwa [wval_digs, wval_digs] at this
theorem wrds_lt_at {a b k : Nat} (ha : k < (wrds a).length) (hb : k < (wrds b).length) (ht : (wrds a).drop (k + 1) = (wrds b).drop (k + 1)) (h : (wrds a)[k] < (wrds b)[k]) : a < b := by
 have := wval_lt_of_place k (wrds_digs a) ha hb ht h
 rwa [wval_digs, wval_digs] at this
set_option maxRecDepth 100000 in
set_option maxHeartbeats 2000000 in
theorem compare_d {B C a b : Nat} {va vb : Value} {w : World} (hA : WArg B w va a) (hB : WArg C w vb b) (la : (wrds a).length ≤ 1000000) (lb : (wrds b).length ≤ 1000000) :
   Calls Tryz.prog 58 #[va, vb] w fun e w' => e = .returned (.int .i64 (cmpZ a b)) ∧ Below w.heap.size w w' := by
 obtain ⟨pa, ba, ka, rfl, a1, a2, a3, a4⟩ := hA.parts
 obtain ⟨pb, bb, kb, rfl, b1, b2, b3, b4⟩ := hB.parts
 clear hA hB
 by_cases hl : (wrds a).length = (wrds b).length
 · have d0 : (((wrds a).length : Int) != ((wrds b).length : Int)) = false := by rw [hl]; simp
   have d0' : (((wrds a).length : Int) == ((wrds b).length : Int)) = true := by rw [hl]; simp
   have H3 := Lib.hid a3; have G3 := Lib.hid b3; have HL := Lib.hid hl
   have A1 := Lib.hid a1; have B1 := Lib.hid b1; have A4 := Lib.hid a4; have B4 := Lib.hid b4
   clear a3 b3 hl a1 b1 a4 b4
   go_enter Tryz.func58, Tryz.ntmps58
   go_wp2
   go_loopw [5] (fun v wr => ∃ k : Nat, k ≤ (wrds a).length ∧ v = .int .i64 ((k : Int) - 1) ∧ Hid ((wrds a).drop k = (wrds b).drop k) ∧ Below w.heap.size w wr) (fun v _ => (intOf v + 1).toNat)
   case atStart => exact ⟨(wrds a).length, Nat.le_refl _, by rw [HL.out], by show _ = _; rw [List.drop_length, HL.out, List.drop_length], Below.refl _ _⟩
   case round =>
     obtain ⟨k, hk, rfl, HD, hB⟩ := hrel
     have HB := Lib.hid hB
     by_cases h0 : k = 0
     · subst h0
       have HR : Hid (cmpZ a b = 0) := by
         show _ = _
         have e : wrds a = wrds b := by simpa using HD.out
         have : a = b := by rw [← wval_digs a, ← wval_digs b, e]
         exact cmpZ_eq (by omega)
       go_wp2
       go_ret
       exact ⟨by rw [HR.out]; rfl, HB.out⟩
     · obtain ⟨m, rfl⟩ : ∃ m, k = m + 1 := ⟨k - 1, by omega⟩
       have e1 := A1.out (by omega)
       have e2 := B1.out (by have := HL.out; omega)
       subst e1
       subst e2
       have hma : m < (wrds a).length := by omega
       have hmb : m < (wrds b).length := by have := HL.out; omega
       have c1 := (hB.cell (p := ⟨ba, m, none⟩) (show ba < w.heap.size from A4.out (by omega))).trans (H3.out m hma)
       have c2 := (hB.cell (p := ⟨bb, m, none⟩) (show bb < w.heap.size from B4.out (by omega))).trans (G3.out m hmb)
       clear hB
       have i1 : ((m + 1 : Nat) : Int) - 1 = m := by omega
       have i2 : (m : Int) < ((wrds a).length : Int) := by omega
       have i3 : (m : Int) < ((wrds b).length : Int) := by omega
       by_cases hc : (wrds a)[m] = (wrds b)[m]
       · have f1 : (((wrds a)[m] : Int) != ((wrds b)[m] : Int)) = false := by rw [hc]; simp
         have f2 : (((wrds a)[m] : Int) == ((wrds b)[m] : Int)) = true := by rw [hc]; simp
         have HD2 : Hid ((wrds a).drop m = (wrds b).drop m) := by
           show _ = _
           rw [List.drop_eq_getElem_cons hma, List.drop_eq_getElem_cons hmb, hc, HD.out]
         clear hc
         go_wp2
         go_quiet (fail)
         go_wp2
         go_roundw
         case rel => exact ⟨m, by omega, by go_num, HD2, below_drewN HB.out _⟩
         case measure => simp [intOf]
       · have f1 : (((wrds a)[m] : Int) != ((wrds b)[m] : Int)) = true := by rw [bne_iff_ne]; omega
         have f2 : (((wrds a)[m] : Int) == ((wrds b)[m] : Int)) = false := by rw [beq_eq_false_iff_ne]; omega
         have HR : Hid (cmpZ (wrds a)[m] (wrds b)[m] = cmpZ a b) := by
           show _ = _
           rcases Nat.lt_or_gt_of_ne hc with h | h
           · have := wrds_lt_at hma hmb HD.out h
             rw [cmpZ_lt (by omega), cmpZ_lt (by omega)]
           · have := wrds_lt_at hmb hma HD.out.symm h
             rw [cmpZ_gt (by omega), cmpZ_gt (by omega)]
         have HC : Hid (∀ W, Calls Tryz.prog 112 #[.int .u32 ((wrds a)[m] : Int), .int .u32 ((wrds b)[m] : Int)] W fun e w' => e = .returned (.int .i64 (cmpZ (wrds a)[m] (wrds b)[m])) ∧ w' = W) := Lib.hid fun W => (cmp_w _ _ W).mono fun _ _ ⟨h1, h2⟩ => ⟨h1, h2.symm⟩
         clear hc
         go_wp2
         go_quiet (fail)
         go_wp2
         have BW := Lib.hid (below_drewN HB.out nq)
         have c1d : (wr.drewN nq).cell? ⟨ba, m, none⟩ = some (.int .u32 ((wrds a)[m] : Int)) := c1
         have c2d : (wr.drewN nq).cell? ⟨bb, m, none⟩ = some (.int .u32 ((wrds b)[m] : Int)) := c2
         generalize wr.drewN nq = W2 at *
         go_quiet ((go_at_call 112; exact Calls.quiet_of_same (HC.out _)))
         go_wp2
         go_ret
         exact ⟨by rw [HR.out]; rfl, below_drewN BW.out _⟩
 · have d0 : (((wrds a).length : Int) != ((wrds b).length : Int)) = true := by rw [bne_iff_ne]; omega
   have d0' : (((wrds a).length : Int) == ((wrds b).length : Int)) = false := by rw [beq_eq_false_iff_ne]; omega
   have HR : Hid (cmpZ (wrds a).length (wrds b).length = cmpZ a b) := by
     show _ = _
     rcases Nat.lt_or_gt_of_ne hl with h | h
     · have := wrds_lt h
       rw [cmpZ_lt (by omega), cmpZ_lt (by omega)]
     · have := wrds_lt h
       rw [cmpZ_gt (by omega), cmpZ_gt (by omega)]
   clear hl
   go_enter Tryz.func58, Tryz.ntmps58
   go_wp2_with (go_at_call 111; refine (cmp_i _ _ _).mono ?_; rintro e w' ⟨rfl, rfl⟩)
   go_ret
   exact ⟨by rw [HR.out]; rfl, Below.refl _ _⟩
end Go.Proofs.YtpdoddhieblooaaGreatDoor
