/- digit.difference: the words of a difference. -/
import Derived.Test.YtllpldndkojagaaGreatDoorWrdRow
import Derived.IntWalk
import Derived.WalkSmall
namespace Go.Proofs.YtllpldndkojagaaGreatDoor
open Go.RowKit

theorem wdiff_step {a b k c : Nat} {l : List Nat} (hk : k < l.length) (hd : Wrds (l.take k)) (h : wval (l.take k) + 4294967296 ^ k * wval ((wrds a).drop k) + b = a + 4294967296 ^ k * (wval ((wrds b).drop k) + c)) (o c' : Nat) (ho : o < 4294967296) (e : o + wrd b k + c = wrd a k + 4294967296 * c') :
    Wrds ((l.set k o).take (k + 1)) ∧ wval ((l.set k o).take (k + 1)) + 4294967296 ^ (k + 1) * wval ((wrds a).drop (k + 1)) + b = a + 4294967296 ^ (k + 1) * (wval ((wrds b).drop (k + 1)) + c') := by
  have e1 : (l.set k o).take (k + 1) = l.take k ++ [o] := by
    rw [List.take_succ_eq_append_getElem (by simpa using hk), List.getElem_set_self, List.take_set_of_le (Nat.le_refl k)]
  rw [e1]
  refine ⟨hd.push ho, ?_⟩
  have e2 : wval ((wrds a).drop k) = wrd a k + 4294967296 * wval ((wrds a).drop (k + 1)) := wval_drop (wrds a) k
  have e3 : wval ((wrds b).drop k) = wrd b k + 4294967296 * wval ((wrds b).drop (k + 1)) := wval_drop (wrds b) k
  rw [e2, e3] at h
  rw [wval_push, List.length_take_of_le (Nat.le_of_lt hk), Nat.pow_succ]
  generalize 4294967296 ^ k = P at h ⊢
  have k1 : P * o + P * wrd b k + P * c = P * wrd a k + P * 4294967296 * c' := by
    rw [← Nat.mul_add, ← Nat.mul_add, e, Nat.mul_add, Nat.mul_assoc]
  rw [Nat.mul_add, Nat.mul_add P (_ + _) c, Nat.mul_add P (wrd b k), ← Nat.mul_assoc, ← Nat.mul_assoc] at h
  rw [Nat.mul_add (P * 4294967296)]
  omega

theorem wdiff_end {a b N c : Nat} {l : List Nat} (hl : l.length = N) (hN : (wrds a).length = N) (hba : b ≤ a) (hd : Wrds l) (h : wval (l.take N) + 4294967296 ^ N * wval ((wrds a).drop N) + b = a + 4294967296 ^ N * (wval ((wrds b).drop N) + c)) : wval l = a - b := by
  have hlen : (wrds b).length ≤ (wrds a).length := wlength_le_of_wval (wrds_digs a) (wrds_neat b) (by rw [wval_digs, wval_digs]; exact hba)
  rw [wval_drop_end _ _ (by omega), wval_drop_end _ _ (by omega), ← hl, List.take_length, hl] at h
  have hlt := wval_lt l hd
  rw [hl] at hlt
  rcases Nat.eq_zero_or_pos c with h0 | h0
  · rw [h0] at h; simp at h; omega
  · have h4 : 4294967296 ^ N * 1 ≤ 4294967296 ^ N * (0 + c) := Nat.mul_le_mul_left _ (by omega)
    omega

/-- What stands in the loop of difference. -/
def DiffR (w : World) (a b N : Nat) (k c : Nat) (l : List Nat) (wr : World) : Prop :=
  k ≤ N ∧ c ≤ 1 ∧ l.length = N ∧ Wrds (l.take k) ∧ wval (l.take k) + 4294967296 ^ k * wval ((wrds a).drop k) + b = a + 4294967296 ^ k * (wval ((wrds b).drop k) + c) ∧ Row wr w.heap.size (wrow l) 76 ∧ Below w.heap.size w wr
theorem DiffR.drewN {w wr : World} {a b N k c : Nat} {l : List Nat} (h : DiffR w a b N k c l wr) (n : Nat) : DiffR w a b N k c l (wr.drewN n) :=
  ⟨h.1, h.2.1, h.2.2.1, h.2.2.2.1, h.2.2.2.2.1, h.2.2.2.2.2.1, below_drewN h.2.2.2.2.2.2 n⟩
/-- A word of the difference, and what is borrowed. -/
theorem lack {x y c : Nat} (hx : x < 4294967296) (hy : y < 4294967296) (hc : c ≤ 1) : ∃ L1 L : Nat, IntKind.u64.wrap ((x : Int) - y) = L1 ∧ IntKind.u64.wrap ((L1 : Int) - c) = L ∧ L < 18446744073709551616 ∧ L / 9223372036854775808 ≤ 1 ∧ L % 4294967296 + y + c = x + 4294967296 * (L / 9223372036854775808) := by
  have e1 : IntKind.u64.wrap ((x : Int) - y) = ((x : Int) - y) % 18446744073709551616 := IntKind.wrap_u64 _
  rw [e1]
  obtain ⟨L1, h1⟩ := Int.eq_ofNat_of_zero_le (show 0 ≤ ((x : Int) - y) % 18446744073709551616 by omega)
  have e2 : IntKind.u64.wrap ((L1 : Int) - c) = ((L1 : Int) - c) % 18446744073709551616 := IntKind.wrap_u64 _
  obtain ⟨L, h2⟩ := Int.eq_ofNat_of_zero_le (show 0 ≤ ((L1 : Int) - c) % 18446744073709551616 by omega)
  refine ⟨L1, L, h1, e2.trans h2, by omega, by omega, by omega⟩
theorem DiffR.next {w wr : World} {a b N k c : Nat} {l : List Nat} (h : DiffR w a b N k c l wr) (hk : k < N) {L : Nat} (hL : L / 9223372036854775808 ≤ 1) (e : L % 4294967296 + wrd b k + c = wrd a k + 4294967296 * (L / 9223372036854775808)) :
    DiffR w a b N (k + 1) (L / 9223372036854775808) (l.set k (L % 4294967296)) (wr.setCell ⟨w.heap.size, k, none⟩ (.int .u32 ((L % 4294967296 : Nat) : Int))) := by
  obtain ⟨h1, h2, h3, h4, h5, h6, h7⟩ := h
  obtain ⟨g1, g2⟩ := wdiff_step (by omega) h4 h5 _ _ (Nat.mod_lt _ (by decide)) e
  exact ⟨by omega, hL, by rw [List.length_set]; exact h3, g1, g2, h6.wput k _, h7.setCell (Nat.le_refl _) _⟩
theorem WArg.at {B : Nat} {w : World} {p : Option Addr} {cap n : Nat} (h : WArg B w (.slice p (wrds n).length cap) n) {j : Nat} (hj : j < (wrds n).length) : ∃ b, p = some ⟨b, 0, none⟩ ∧ b < w.heap.size ∧ w.cell? ⟨b, j, none⟩ = some (.int .u32 (wrd n j : Int)) := by
  obtain ⟨p', b, cap', e, h1, h2, h3, h4⟩ := h.parts
  cases e
  refine ⟨b, h1 (by omega), h4 (by omega), (h3 j hj).trans ?_⟩
  rw [wrd, List.getElem?_eq_getElem hj]; rfl

set_option maxHeartbeats 4000000 in
set_option maxRecDepth 100000 in
theorem difference_d {B C a b : Nat} {va vb : Value} {w : World} (hA : WArg B w va a) (hB : WArg C w vb b) (hba : b ≤ a) (la : (wrds a).length ≤ 10000) :
    Calls Tryz.prog 74 #[va, vb] w (GivesW w (a - b)) := by
  obtain ⟨pa, ka, rfl⟩ := hA.slice
  obtain ⟨pb, kb, rfl⟩ := hB.slice
  have HA := Lib.hid hA
  have HB := Lib.hid hB
  have lb : (wrds b).length ≤ 10000 := Nat.le_trans (wlength_le_of_wval (wrds_digs a) (wrds_neat b) (by rw [wval_digs, wval_digs]; exact hba)) la
  clear hA hB
  obtain ⟨N, hN⟩ : ∃ N, (wrds a).length = N := ⟨_, rfl⟩
  have hmk := run_make_row' 41 76 (.int .u32 0) 4 Tryz.underlying41 Tryz.infoWord rfl .i64 .i64 N (by omega) (by omega)
  have R0 := Lib.hid (Row.new w (madeCells #[Value.int .u32 0] N) 76)
  rw [wmade] at R0 hmk
  have HN := Lib.hid hN
  have HBA := Lib.hid hba
  rw [hN] at HA la
  rw [show (Value.slice pa (wrds a).length ka) = Value.slice pa N ka by rw [hN]]
  clear hN hba
  have hN2 : N ≤ 10000 := la
  go_enter Tryz.func74, Tryz.ntmps74
  go_wp2
  go_loopw [6, 14] (fun c i wr => ∃ (k cc : Nat) (l : List Nat), i = .int .i64 (k : Int) ∧ c = .int .u64 (cc : Int) ∧ DiffR w a b N k cc l wr) (fun _ i _ => N - (intOf i).toNat)
  case atStart => exact ⟨0, 0, List.replicate N 0, rfl, rfl, Nat.zero_le _, by decide, by simp, Wrds.nil, by simp [wval, wval_digs], R0.out, (Below.refl _ w).alloc (Nat.le_refl _) _⟩
  case round =>
    obtain ⟨k, c, l, rfl, rfl, hR⟩ := hrel
    have hk := hR.1
    have hc := hR.2.1
    have hB := hR.2.2.2.2.2.2
    have hrow := hR.2.2.2.2.2.1
    have hl := hR.2.2.1
    by_cases h1 : k < N
    · obtain ⟨L1, L, w1, w2, w3, w4, w5⟩ := lack (wrd_lt a k) (wrd_lt b k) hc
      have HA1 := HA.out
      rw [show N = (wrds a).length from HN.out.symm] at HA1
      obtain ⟨ba, rfl, hba2, hcA⟩ := (HA1.keep hB (Nat.le_refl _)).at (j := k) (by rw [HN.out]; exact h1)
      have HC : Hid (∀ W, Below w.heap.size w W → Calls Tryz.prog 102 #[.slice pb (wrds b).length kb, .int .i64 (k : Int)] W fun e w' => e = .returned (.int .u64 (wrd b k : Int)) ∧ w' = W) := by
        show ∀ _, _
        exact fun W hW => (word_d (HB.out.keep hW (Nat.le_refl _)) k (by omega) (by omega)).mono fun _ _ ⟨h1, h2⟩ => ⟨h1, h2.symm⟩
      have HBr := Lib.hid hB
      have HRr := Lib.hid hR
      have NX : Hid (∀ n, DiffR w a b N (k + 1) (L / 9223372036854775808) (l.set k (L % 4294967296)) ((wr.drewN n).setCell ⟨w.heap.size, k, none⟩ (.int .u32 ((L % 4294967296 : Nat) : Int)))) := Lib.hid fun n => (hR.drewN n).next h1 w4 w5
      have x1 := wrd_lt a k
      have x2 := wrd_lt b k
      have hcO := hrow.wat (show k < l.length by omega)
      have hfO := hrow.free k
      have j1 : (k : Int) < N := by omega
      clear hR hB hrow hmk R0 HA1 w5
      go_wp2
      go_quiet ((go_at_call 102; exact Calls.quiet_of_same (HC.out _ (below_drewN HBr.out _))))
      have NXq := Lib.hid (NX.out nq)
      have hcO2 : (wr.drewN nq).cell? ⟨w.heap.size, k, none⟩ = some (.int .u32 (l[k] : Int)) := hcO
      have hfO2 : (wr.drewN nq).frozen? ⟨w.heap.size, k, none⟩ = false := hfO
      have HE : Hid ((L : Int) % 4294967296 = ((L % 4294967296 : Nat) : Int)) := Lib.hid (by omega)
      have HF : Hid ((L : Int) / 9223372036854775808 = ((L / 9223372036854775808 : Nat) : Int)) := Lib.hid (by omega)
      clear NX hcO hfO HC HRr HBr hcA
      generalize wr.drewN nq = W2 at *
      go_wp2
      case roundEnd =>
        rw [HE.out, HF.out]
        exact ⟨⟨k + 1, _, _, rfl, rfl, NXq.out⟩, by simp [intOf]; omega⟩
    · have hke : k = N := by omega
      obtain ⟨_, _, _, hd, hs, _, _⟩ := hR
      rw [hke] at hd hs
      rw [← hl, List.take_length] at hd
      have HV := Lib.hid (wdiff_end hl HN.out HBA.out hd hs)
      have HT := Lib.hid (trim_row (cap := N) hrow hd (by omega) (by omega))
      have HW := Lib.hid (WArg.of_row (B := w.heap.size) (cap := N) hrow (Nat.le_refl _) hd (by omega))
      rw [hl] at HT
      rw [HV.out] at HW HT
      have HB2 := Lib.hid hB
      clear hB hrow hd hs hmk R0
      go_wp2_with (go_at_call 75; refine HT.out.mono ?_; rintro e w2 ⟨rfl, rfl⟩)
      go_ret
      exact ⟨_, rfl, HW.out, HB2.out⟩
end Go.Proofs.YtllpldndkojagaaGreatDoor
