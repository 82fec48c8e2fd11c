/- digit.sum: the words of a sum. -/
import Derived.Test.YtllpldndkojagaaGreatDoorWrdRow
import Derived.IntWalk
namespace Go.Proofs.YtllpldndkojagaaGreatDoor
open Go.RowKit

theorem wsum_step {a b S k c : Nat} {l : List Nat} (hk : k < l.length) (hd : Wrds (l.take k)) (hc : c ≤ 1) (h : wval (l.take k) + 4294967296 ^ k * (c + wval ((wrds a).drop k) + wval ((wrds b).drop k)) = S) (d : Nat) (ed : d = c + (wrd a k + wrd b k)) :
    Wrds ((l.set k (d % 4294967296)).take (k + 1)) ∧ d / 4294967296 ≤ 1 ∧ wval ((l.set k (d % 4294967296)).take (k + 1)) + 4294967296 ^ (k + 1) * (d / 4294967296 + wval ((wrds a).drop (k + 1)) + wval ((wrds b).drop (k + 1))) = S := by
  have h1 := wrd_lt a k
  have h2 := wrd_lt b k
  have e1 : (l.set k (d % 4294967296)).take (k + 1) = l.take k ++ [d % 4294967296] := by
    rw [List.take_succ_eq_append_getElem (by simpa using hk), List.getElem_set_self, List.take_set_of_le (Nat.le_refl k)]
  rw [e1]
  refine ⟨hd.push (by omega), by omega, ?_⟩
  have e2 : wval ((wrds a).drop k) = wrd a k + 4294967296 * wval ((wrds a).drop (k + 1)) := wval_drop (wrds a) k
  have e3 : wval ((wrds b).drop k) = wrd b k + 4294967296 * wval ((wrds b).drop (k + 1)) := wval_drop (wrds b) k
  rw [e2, e3] at h
  rw [wval_push, List.length_take_of_le (Nat.le_of_lt hk), Nat.pow_succ, Nat.mul_assoc, Nat.add_assoc, ← Nat.mul_add, ← h]
  congr 2
  omega

theorem wsum_end {a b N c : Nat} {l : List Nat} (hl : l.length = N) (hN : max (wrds a).length (wrds b).length + 1 = N) (h : wval (l.take N) + 4294967296 ^ N * (c + wval ((wrds a).drop N) + wval ((wrds b).drop N)) = a + b) : wval l = a + b := by
  rw [wval_drop_end _ _ (by omega), wval_drop_end _ _ (by omega), ← hl, List.take_length, hl] at h
  have ha := wval_lt (wrds a) (wrds_digs a)
  have hb := wval_lt (wrds b) (wrds_digs b)
  rw [wval_digs] at ha hb
  have h1 : 4294967296 ^ (wrds a).length ≤ 4294967296 ^ (N - 1) := Nat.pow_le_pow_right (by decide) (by omega)
  have h2 : 4294967296 ^ (wrds b).length ≤ 4294967296 ^ (N - 1) := Nat.pow_le_pow_right (by decide) (by omega)
  have h3 : 4294967296 ^ N = 4294967296 ^ (N - 1) * 4294967296 := by rw [← Nat.pow_succ]; congr 1; omega
  rcases Nat.eq_zero_or_pos c with h0 | h0
  · rw [h0] at h; simpa using h
  · have h4 : 4294967296 ^ N * 1 ≤ 4294967296 ^ N * (c + 0 + 0) := Nat.mul_le_mul_left _ (by omega)
    omega

/-- What stands in the loop of sum. -/
def SumR (w : World) (a b N : Nat) (k c : Nat) (l : List Nat) (wr : World) : Prop :=
  k ≤ N ∧ c ≤ 1 ∧ l.length = N ∧ Wrds (l.take k) ∧ wval (l.take k) + 4294967296 ^ k * (c + wval ((wrds a).drop k) + wval ((wrds b).drop k)) = a + b ∧ Row wr w.heap.size (wrow l) 76 ∧ Below w.heap.size w wr
theorem SumR.next {w wr : World} {a b N k c : Nat} {l : List Nat} (h : SumR w a b N k c l wr) (hk : k < N) :
    SumR w a b N (k + 1) ((c + (wrd a k + wrd b k)) / 4294967296) (l.set k ((c + (wrd a k + wrd b k)) % 4294967296)) (wr.setCell ⟨w.heap.size, k, none⟩ (.int .u32 ((((c + (wrd a k + wrd b k)) % 4294967296 : Nat)) : Int))) := by
  obtain ⟨h1, h2, h3, h4, h5, h6, h7⟩ := h
  obtain ⟨g1, g2, g3⟩ := wsum_step (by omega) h4 h2 h5 _ rfl
  exact ⟨by omega, g2, by rw [List.length_set]; exact h3, g1, g3, h6.wput k _, h7.setCell (Nat.le_refl _) _⟩

set_option maxHeartbeats 4000000 in
set_option maxRecDepth 100000 in
theorem sum_d {B C a b : Nat} {va vb : Value} {w : World} (hA : WArg B w va a) (hB : WArg C w vb b) (la : (wrds a).length ≤ 10000) (lb : (wrds b).length ≤ 10000) :
    Calls Tryz.prog 73 #[va, vb] w (GivesW w (a + b)) := by
  obtain ⟨pa, ka, rfl⟩ := hA.slice
  obtain ⟨pb, kb, rfl⟩ := hB.slice
  have HA := Lib.hid hA
  have HB := Lib.hid hB
  clear hA hB
  obtain ⟨N, hN⟩ : ∃ N, max (wrds a).length (wrds b).length + 1 = N := ⟨_, rfl⟩
  have hmk := run_make_row' 41 76 (.int .u32 0) 4 Tryz.underlying41 Tryz.infoWord rfl .i64 .i64 N (by omega) (by omega)
  have R0 := Lib.hid (Row.new w (madeCells #[Value.int .u32 0] N) 76)
  rw [wmade] at R0 hmk
  have HN := Lib.hid hN
  have hN2 : N ≤ 10001 := by omega
  have hmx : IntKind.i64.wrap (max ((wrds a).length : Int) ((wrds b).length : Int) + 1) = N := by rw [show max ((wrds a).length : Int) ((wrds b).length : Int) + 1 = N by omega]; exact IntWalk.i64_in _ (by omega)
  clear hN
  rcases Nat.lt_or_ge (wrds a).length (wrds b).length with hle | hle
  · have hle' : ((wrds a).length : Int) < ((wrds b).length : Int) := by omega
    have hN3 : ((wrds b).length : Int) + 1 = N := by have := HN.out; omega
    clear hle hmx
    go_enter Tryz.func73, Tryz.ntmps73
    go_wp2
    go_loopw [6, 17] (fun c i wr => ∃ (k cc : Nat) (l : List Nat), i = .int .i64 (k : Int) ∧ c = .int .u64 (cc : Int) ∧ SumR w a b N k cc l wr) (fun _ i _ => N - (intOf i).toNat)
    case atStart => exact ⟨0, 0, List.replicate N 0, rfl, rfl, Nat.zero_le _, by decide, by simp, Wrds.nil, by simp [wval, wval_digs], R0.out, (Below.refl _ w).alloc (Nat.le_refl _) _⟩
    case round =>
      obtain ⟨k, c, l, rfl, rfl, hR⟩ := hrel
      have hk := hR.1
      have hc := hR.2.1
      have hB := hR.2.2.2.2.2.2
      have hrow := hR.2.2.2.2.2.1
      have hl := hR.2.2.1
      by_cases h1 : k < N
      · have NX := Lib.hid (hR.next h1)
        have x1 := wrd_lt a k
        have x2 := wrd_lt b k
        have WA := Lib.hid (word_d (HA.out.keep hB (Nat.le_refl _)) k (by omega) (by omega))
        have WB := Lib.hid (word_d (HB.out.keep hB (Nat.le_refl _)) k (by omega) (by omega))
        have hcO := hrow.wat (show k < l.length by omega)
        have hfO := hrow.free k
        have hw1 : IntKind.u64.wrap ((wrd a k : Int) + (wrd b k : Int)) = (wrd a k : Int) + (wrd b k : Int) := IntWalk.u64_in _ (by omega)
        have hw2 : IntKind.u64.wrap ((c : Int) + ((wrd a k : Int) + (wrd b k : Int))) = (c : Int) + ((wrd a k : Int) + (wrd b k : Int)) := IntWalk.u64_in _ (by omega)
        have HE : Hid (((c : Int) + ((wrd a k : Int) + (wrd b k : Int))) % 4294967296 = ((((c + (wrd a k + wrd b k)) % 4294967296 : Nat)) : Int)) := Lib.hid (by omega)
        have HD : Hid (((c : Int) + ((wrd a k : Int) + (wrd b k : Int))) / 4294967296 = ((((c + (wrd a k + wrd b k)) / 4294967296 : Nat)) : Int)) := Lib.hid (by omega)
        clear hR hB hrow hmk R0
        go_wp2_with (go_at_call 102; first
          | ((with_reducible refine WA.out.mono ?_); rintro e w2 ⟨rfl, rfl⟩)
          | ((with_reducible refine WB.out.mono ?_); rintro e w2 ⟨rfl, rfl⟩))
        case roundEnd =>
          rw [HE.out, HD.out]
          exact ⟨⟨k + 1, _, _, rfl, rfl, NX.out⟩, by simp [intOf]; omega⟩
      · have hke : k = N := by omega
        obtain ⟨_, _, _, hd, hs, _, _⟩ := hR
        rw [hke] at hd hs
        rw [← hl, List.take_length] at hd
        have HV := Lib.hid (wsum_end hl HN.out hs)
        have HT := Lib.hid (trim_row (cap := N) hrow hd (by omega) (by omega))
        have HW := Lib.hid (WArg.of_row (B := w.heap.size) (cap := N) hrow (Nat.le_refl _) hd (by omega))
        rw [hl] at HT
        rw [HV.out] at HW HT
        have HB2 := Lib.hid hB
        clear hB hrow hd hs hmk R0
        go_wp2_with (go_at_call 75; refine HT.out.mono ?_; rintro e w2 ⟨rfl, rfl⟩)
        go_ret
        exact ⟨_, rfl, HW.out, HB2.out⟩
  · have hle' : ((wrds b).length : Int) ≤ ((wrds a).length : Int) := by omega
    have hle2 : ¬ ((wrds a).length : Int) < ((wrds b).length : Int) := by omega
    have hN3 : ((wrds a).length : Int) + 1 = N := by have := HN.out; omega
    clear hle hmx
    go_enter Tryz.func73, Tryz.ntmps73
    go_wp2
    go_loopw [6, 17] (fun c i wr => ∃ (k cc : Nat) (l : List Nat), i = .int .i64 (k : Int) ∧ c = .int .u64 (cc : Int) ∧ SumR w a b N k cc l wr) (fun _ i _ => N - (intOf i).toNat)
    case atStart => exact ⟨0, 0, List.replicate N 0, rfl, rfl, Nat.zero_le _, by decide, by simp, Wrds.nil, by simp [wval, wval_digs], R0.out, (Below.refl _ w).alloc (Nat.le_refl _) _⟩
    case round =>
      obtain ⟨k, c, l, rfl, rfl, hR⟩ := hrel
      have hk := hR.1
      have hc := hR.2.1
      have hB := hR.2.2.2.2.2.2
      have hrow := hR.2.2.2.2.2.1
      have hl := hR.2.2.1
      by_cases h1 : k < N
      · have NX := Lib.hid (hR.next h1)
        have x1 := wrd_lt a k
        have x2 := wrd_lt b k
        have WA := Lib.hid (word_d (HA.out.keep hB (Nat.le_refl _)) k (by omega) (by omega))
        have WB := Lib.hid (word_d (HB.out.keep hB (Nat.le_refl _)) k (by omega) (by omega))
        have hcO := hrow.wat (show k < l.length by omega)
        have hfO := hrow.free k
        have hw1 : IntKind.u64.wrap ((wrd a k : Int) + (wrd b k : Int)) = (wrd a k : Int) + (wrd b k : Int) := IntWalk.u64_in _ (by omega)
        have hw2 : IntKind.u64.wrap ((c : Int) + ((wrd a k : Int) + (wrd b k : Int))) = (c : Int) + ((wrd a k : Int) + (wrd b k : Int)) := IntWalk.u64_in _ (by omega)
        have HE : Hid (((c : Int) + ((wrd a k : Int) + (wrd b k : Int))) % 4294967296 = ((((c + (wrd a k + wrd b k)) % 4294967296 : Nat)) : Int)) := Lib.hid (by omega)
        have HD : Hid (((c : Int) + ((wrd a k : Int) + (wrd b k : Int))) / 4294967296 = ((((c + (wrd a k + wrd b k)) / 4294967296 : Nat)) : Int)) := Lib.hid (by omega)
        clear hR hB hrow hmk R0
        go_wp2_with (go_at_call 102; first
          | ((with_reducible refine WA.out.mono ?_); rintro e w2 ⟨rfl, rfl⟩)
          | ((with_reducible refine WB.out.mono ?_); rintro e w2 ⟨rfl, rfl⟩))
        case roundEnd =>
          rw [HE.out, HD.out]
          exact ⟨⟨k + 1, _, _, rfl, rfl, NX.out⟩, by simp [intOf]; omega⟩
      · have hke : k = N := by omega
        obtain ⟨_, _, _, hd, hs, _, _⟩ := hR
        rw [hke] at hd hs
        rw [← hl, List.take_length] at hd
        have HV := Lib.hid (wsum_end hl HN.out hs)
        have HT := Lib.hid (trim_row (cap := N) hrow hd (by omega) (by omega))
        have HW := Lib.hid (WArg.of_row (B := w.heap.size) (cap := N) hrow (Nat.le_refl _) hd (by omega))
        rw [hl] at HT
        rw [HV.out] at HW HT
        have HB2 := Lib.hid hB
        clear hB hrow hd hs hmk R0
        go_wp2_with (go_at_call 75; refine HT.out.mono ?_; rintro e w2 ⟨rfl, rfl⟩)
        go_ret
        exact ⟨_, rfl, HW.out, HB2.out⟩
end Go.Proofs.YtllpldndkojagaaGreatDoor
