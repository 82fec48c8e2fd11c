/- digit.divided by one word; digit.ended, cut. long.int: a long number as a plain one. -/
import Derived.Test.YtafhboppojeafaaGreatDoorWrdShare
import Derived.Test.YtafhboppojeafaaGreatDoorWrdDiff
import Derived.Test.YtafhboppojeafaaGreatDoorWrdLong
namespace Go.Proofs.YtafhboppojeafaaGreatDoor
open Go.RowKit

set_option maxHeartbeats 1600000 in
set_option maxRecDepth 100000 in
theorem natural32_any (n : Nat) (w : World) (hn : n < 4294967296) :
    Calls Tryz.prog 123 #[.int .u32 (n : Int)] w fun e w' => ∃ v, e = .returned v ∧ w'.ownsRow w.heap.size 82 1 v (wrds n).length (wcells (wrds n)) ∧ Below w.heap.size w w' := by
  obtain ⟨i0, hi, hz0, hz1, hz2⟩ := info_parts Tryz.infoWord
  have hlen := wrds_length n 2 (by omega)
  have hmk : (Instr.makeSlice 48 (.int .i64 0) (.int .i64 2)).run Tryz.prog w = .ok (.slice (some ⟨w.heap.size, 0, none⟩) 0 2) (w.alloc (.cells #[.int .u32 0, .int .u32 0] 82)) := by kernel_rfl
  go_enter Tryz.func123, Tryz.ntmps123
  go_wp2
  go_loopw [3, 4] (fun v i wr => ∃ (m : Nat) (l : List Nat), i = .int .u64 (m : Int) ∧ m ≤ n ∧ l ++ wrds m = wrds n ∧ wr.ownsRow w.heap.size 82 1 v l.length (wcells l) ∧ Below w.heap.size w wr)
    (fun _ i _ => (intOf i).toNat)
  case atStart => exact ⟨n, [], rfl, Nat.le_refl _, rfl, ⟨rfl, .inr ⟨w.heap.size, 2, #[.int .u32 0, .int .u32 0], rfl, Nat.le_refl _, heap_alloc_new w _, by decide, by decide, rfl, rfl⟩⟩, (Below.refl _ w).alloc (Nat.le_refl _) _⟩
  case round =>
    obtain ⟨m, l, rfl, hm, hl, hown, hnx⟩ := hrel
    have hll : l.length ≤ 2 := by have := congrArg List.length hl; rw [List.length_append] at this; omega
    have hsz := hnx.size
    by_cases hpos : 0 < m
    · have hc31 : ((m : Int) % 4294967296) = ((m % 4294967296 : Nat) : Int) := by omega
      have HC := Lib.hid hc31
      have HL := Lib.hid hl
      clear hc31 hl
      go_wp2_with (at_builtin; refine wpList_append_own _ rfl _ _ 48 rfl w.heap.size 82 i0 (.int .u32 0) 1 4 Tryz.underlying48 hi hz0 hz1 hz2 rfl (by decide) _ _ _ rfl (hown.alloc _) ⟨wr.heap.size, 0, none⟩ 1 1 [.int .u32 ((m : Int) % 4294967296)] rfl rfl ?c1 ?c2 ?c3 ?c4 ?c5 ?_)
      case c1 =>
        intro j u hj
        match j, hj with
        | 0, hj => simp at hj; subst hj; simp [Addr.add] <;> omega
      case c2 => intro u hu; simp at hu; subst hu; rfl
      case c3 => unfold maxLen; omega
      case c4 => omega
      case c5 => simp; omega
      intro v' w1 hown' hgrow _
      have R : w1.ownsRow w.heap.size 82 1 v' (l ++ [m % 4294967296]).length (wcells (l ++ [m % 4294967296])) ∧ Below w.heap.size w w1 := by
        rw [HC.out] at hown'
        exact ⟨by simpa [wcells] using hown', (hnx.alloc (by omega) _).grown hgrow (by simp; omega) (fun j hj => (hown.lt j hj).1)⟩
      have HR := Lib.hid R
      clear hown' hgrow hown R
      go_wp2
      case roundEnd =>
        refine ⟨⟨m / 4294967296, l ++ [m % 4294967296], by rw [show ((m / 4294967296 : Nat) : Int) = (m : Int) / 4294967296 by omega], by omega, ?_, HR.out.1, HR.out.2⟩, by simp [intOf]; omega⟩
        rw [List.append_assoc, List.singleton_append, ← wrds_pos m hpos]; exact HL.out
    · have h0 : m = 0 := by omega
      subst h0
      rw [wrds_zero, List.append_nil] at hl
      subst hl
      go_wp2
      go_ret
      exact ⟨_, rfl, hown, hnx⟩

theorem natural32_d (n : Nat) (w : World) (hn : n < 4294967296) : Calls Tryz.prog 123 #[.int .u32 (n : Int)] w (GivesW w n) :=
  (natural32_any n w hn).mono fun _ _ h => givesW_of h

/-- How a division ends: quotient and rest. -/
def GivesQ (w : World) (a b : Nat) (e : Ending) (w' : World) : Prop := ∃ vq vr, e = .returned (.tuple #[vq, vr]) ∧ WArg w.heap.size w' vq (a / b) ∧ WArg w.heap.size w' vr (a % b) ∧ Below w.heap.size w w'
/-- divided answers at these two numbers, wherever they lie. -/
def DivOK (a b : Nat) : Prop := ∀ (B C : Nat) (va vb : Value) (W : World), WArg B W va a → WArg C W vb b → Calls Tryz.prog 104 #[va, vb] W (GivesQ W a b)
theorem wrds_one {b : Nat} (h0 : 0 < b) (h1 : b < 4294967296) : wrds b = [b] := by
  rw [wrds_pos b h0, Nat.mod_eq_of_lt h1, Nat.div_eq_of_lt h1, wrds_zero]

set_option maxHeartbeats 2000000 in
set_option maxRecDepth 100000 in
theorem divided_1 {a b : Nat} (h0 : 0 < b) (h1 : b < 4294967296) (hle : b ≤ a) (la : (wrds a).length ≤ 10000) : DivOK a b := by
  intro B C va vb w hA hB
  obtain ⟨pa, ka, rfl⟩ := hA.slice
  have e1 := wrds_one h0 h1
  obtain ⟨pb, bb, kb, rfl, b1, b2, b3, b4⟩ := hB.parts
  have hl1 : (wrds b).length = 1 := by rw [e1]; rfl
  obtain rfl := b1 (by omega)
  have hc0 : w.cell? ⟨bb, 0, none⟩ = some (.int .u32 (b : Int)) := by
    have := b3 0 (by omega)
    simpa [e1] using this
  have hbb := b4 (by omega)
  have HCM := Lib.hid (compare_d hA hB (by omega) (by omega))
  have hcz : cmpZ a b = 0 ∨ cmpZ a b = 1 := by
    by_cases h : a = b
    · exact .inl (cmpZ_eq (by omega))
    · exact .inr (cmpZ_gt (by omega))
  have hcz' : ¬ cmpZ a b < 0 := by rcases hcz with h | h <;> rw [h] <;> decide
  obtain ⟨cz, hcze⟩ : ∃ cz, cmpZ a b = cz := ⟨_, rfl⟩
  rw [hcze] at HCM hcz'
  have HA := Lib.hid hA
  have HSH : Hid (∀ (W : World), Below w.heap.size w W → Calls Tryz.prog 122 #[.slice pa (wrds a).length ka, .int .u32 (b : Int)] W fun e w' => ∃ q, e = .returned (.tuple #[q, .int .u32 ((a % b : Nat) : Int)]) ∧ WArg W.heap.size w' q (a / b) ∧ Below W.heap.size W w') := Lib.hid fun W hW => shared_d (HA.out.keep hW (Nat.le_refl _)) la b h0 h1
  have hmod : a % b < 4294967296 := Nat.lt_trans (Nat.mod_lt _ h0) h1
  obtain ⟨r, hr⟩ : ∃ r, a % b = r := ⟨_, rfl⟩
  obtain ⟨q, hq⟩ : ∃ q, a / b = q := ⟨_, rfl⟩
  have HR : Hid (a % b = r) := Lib.hid hr
  have HQ : Hid (a / b = q) := Lib.hid hq
  rw [hr, hq] at HSH
  rw [hr] at hmod
  have HNA : Hid (∀ W, Calls Tryz.prog 123 #[.int .u32 (r : Int)] W (GivesW W r)) := Lib.hid fun W => natural32_d r W hmod
  rw [hl1] at HCM ⊢
  clear hA hB HA b1 b2 b3 b4 hl1 e1 hcz hcze hmod hr hq hle
  go_enter Tryz.func104, Tryz.ntmps104
  go_wp2_with (first
    | (go_at_call 102; refine HCM.out.mono ?_; rintro e w1 ⟨rfl, hb1⟩; have c1 := (hb1.cell (p := ⟨bb, 0, none⟩) hbb).trans hc0)
    | (go_at_call 122; refine (HSH.out _ hb1).mono ?_; rintro e w2 ⟨v2, rfl, W2, hb2⟩; have W2' := Lib.hid W2; obtain ⟨p2, k2, rfl⟩ := W2.slice; clear W2)
    | (go_at_call 123; refine (HNA.out _).mono ?_; rintro e w3 ⟨v3, rfl, W3, hb3⟩; have W3' := Lib.hid W3; obtain ⟨p3, k3, rfl⟩ := W3.slice; clear W3))
  refine bodyPost_ret (v := .tuple #[.slice p2 (wrds q).length k2, .slice p3 (wrds r).length k3]) (by simp [results, Tryz.results104, go_sem]) rfl ⟨_, _, rfl, ?_, ?_, ?_⟩
  · rw [HQ.out]; exact (W2'.out.keep hb3 (Nat.le_refl _)).base hb1.size
  · rw [HR.out]; exact W3'.out.base (Nat.le_trans hb1.size hb2.size)
  · exact bl_then hb1 (bl_then hb2 hb3)

set_option maxHeartbeats 1000000 in
set_option maxRecDepth 100000 in
theorem ended_cut {B C a u : Nat} {va vu : Value} {w : World} (hD : DivOK a u) (hA : WArg B w va a) (hU : WArg C w vu u) :
    Calls Tryz.prog 94 #[va, vu, .int .i64 0] w (GivesW w (a / u)) := by
  have HD := Lib.hid (hD _ _ _ _ _ hA hU)
  obtain ⟨pa, ka, rfl⟩ := hA.slice
  obtain ⟨pu, ku, rfl⟩ := hU.slice
  obtain ⟨q, hq⟩ : ∃ q, a / u = q := ⟨_, rfl⟩
  obtain ⟨r, hr⟩ : ∃ r, a % u = r := ⟨_, rfl⟩
  unfold GivesQ at HD
  rw [hq, hr] at HD
  rw [hq]
  clear hD hA hU hq hr
  go_enter Tryz.func94, Tryz.ntmps94
  go_wp2_with (go_at_call 104; refine HD.out.mono ?_; rintro e w2 ⟨v2, v3, rfl, W2, W3, hb2⟩; have W2' := Lib.hid W2; obtain ⟨p2, k2, rfl⟩ := W2.slice; obtain ⟨p3, k3, rfl⟩ := W3.slice; clear W2 W3)
  go_ret
  exact ⟨_, rfl, W2'.out, hb2⟩
end Go.Proofs.YtafhboppojeafaaGreatDoor
namespace Go.Proofs.YtafhboppojeafaaGreatDoor
open Go.RowKit

theorem wrd_two {n : Nat} (h : n < 18446744073709551616) : wrd n 1 * 4294967296 + wrd n 0 = n := by
  have e0 := wval_drop (wrds n) 0
  have e1 := wval_drop (wrds n) 1
  have e2 : wval ((wrds n).drop 2) = 0 := wval_drop_end _ _ (wrds_length n 2 (by omega))
  rw [List.drop_zero, wval_digs] at e0
  show (((wrds n)[1]?).getD 0) * 4294967296 + (((wrds n)[0]?).getD 0) = n
  rw [show (1 + 1 : Nat) = 2 from rfl, e2] at e1
  rw [show (0 + 1 : Nat) = 1 from rfl] at e0
  omega

set_option maxRecDepth 100000 in
set_option maxHeartbeats 2000000 in
theorem int_l {B : Nat} {z : Int} {v : Value} {w : World} (hL : LArg B w v z) (h1 : -9223372036854775808 < z) (h2 : z < 9223372036854775808) :
    Calls Tryz.prog 95 #[v] w fun e w' => e = .returned (.int .i64 z) ∧ Below w.heap.size w w' := by
  obtain ⟨sl, rfl, hA⟩ := hL
  have hn := wrd_two (n := z.natAbs) (by omega)
  have x1 := wrd_lt z.natAbs 1
  have x0 := wrd_lt z.natAbs 0
  have HA := Lib.hid hA
  have HW : Hid (∀ (i : Nat) (W : World), i ≤ 1 → Below w.heap.size w W → Calls Tryz.prog 108 #[sl, .int .i64 (i : Int)] W fun e w' => e = .returned (.int .u64 (wrd z.natAbs i : Int)) ∧ w' = W) := by
    show ∀ (_ : Nat), _
    exact fun i W hi hW => (word_d (HA.out.keep hW (Nat.le_refl _)) i (Nat.le_trans (wrds_length z.natAbs 2 (by omega)) (by decide)) (by omega)).mono fun _ _ ⟨h1, h2⟩ => ⟨h1, h2.symm⟩
  obtain ⟨p, k, rfl⟩ := hA.slice
  obtain ⟨wh, hwh⟩ : ∃ x, wrd z.natAbs 1 = x := ⟨_, rfl⟩
  obtain ⟨wl, hwl⟩ : ∃ x, wrd z.natAbs 0 = x := ⟨_, rfl⟩
  have HW1 : Hid (∀ (W : World), Below w.heap.size w W → Calls Tryz.prog 108 #[.slice p (wrds z.natAbs).length k, .int .i64 1] W fun e w' => e = .returned (.int .u64 (wh : Int)) ∧ w' = W) := Lib.hid fun W hW => by
    rw [← hwh]; exact HW.out 1 W (by decide) hW
  have HW0 : Hid (∀ (W : World), Below w.heap.size w W → Calls Tryz.prog 108 #[.slice p (wrds z.natAbs).length k, .int .i64 0] W fun e w' => e = .returned (.int .u64 (wl : Int)) ∧ w' = W) := Lib.hid fun W hW => by
    rw [← hwl]; exact HW.out 0 W (by decide) hW
  rw [hwh, hwl] at hn
  rw [hwh] at x1
  rw [hwl] at x0
  have hor := or_words wh wl x1 x0
  obtain ⟨N, hN⟩ : ∃ N, wh * 4294967296 + wl = N := ⟨_, rfl⟩
  rw [hN] at hor hn
  have hNz : N = z.natAbs := by omega
  have hw1 : IntKind.u64.wrap ((wh : Int) * 4294967296) = (wh : Int) * 4294967296 := IntWalk.u64_in _ (by omega)
  have hw2 : IntKind.i64.wrap (N : Int) = N := IntWalk.i64_in _ (by omega)
  have HZ := Lib.hid hNz
  have RA := Row.new w (lgC (.slice p (wrds z.natAbs).length k) (decide (z < 0))) 50
  clear hA HA HW hwh hwl hn hN
  have HB : Hid (Below w.heap.size w (w.alloc (.cells (lgC (.slice p (wrds z.natAbs).length k) (decide (z < 0))) 50))) := Lib.hid ((Below.refl _ w).alloc (Nat.le_refl _) _)
  by_cases hz : z < 0
  · have hw3 : IntKind.i64.wrap (-(N : Int)) = -(N : Int) := IntWalk.i64_in _ (by omega)
    have HR : Hid (-(N : Int) = z) := Lib.hid (by omega)
    rw [decide_eq_true hz] at RA HB ⊢
    clear hz hNz
    go_enter Tryz.func95, Tryz.ntmps95
    go_wp2
    generalize hw : w.alloc (.cells (lgC (.slice p (wrds z.natAbs).length k) true) 50) = W at *
    clear hw
    obtain ⟨c0, c1⟩ := RA.lg
    go_quiet ((go_at_call 108; first | (with_reducible exact Calls.quiet_of_same (HW1.out _ (below_drewN HB.out _))) | (with_reducible exact Calls.quiet_of_same (HW0.out _ (below_drewN HB.out _)))))
    have hB := Lib.hid (below_drewN HB.out nq)
    have d0 : (W.drewN nq).cell? ⟨w.heap.size, 0, none⟩ = _ := c0
    have d1 : (W.drewN nq).cell? ⟨w.heap.size, 1, none⟩ = _ := c1
    go_wp2
    go_ret
    exact ⟨by rw [HR.out]; rfl, hB.out⟩
  · have HR : Hid ((N : Int) = z) := Lib.hid (by omega)
    rw [decide_eq_false hz] at RA HB ⊢
    clear hz hNz
    go_enter Tryz.func95, Tryz.ntmps95
    go_wp2
    generalize hw : w.alloc (.cells (lgC (.slice p (wrds z.natAbs).length k) false) 50) = W at *
    clear hw
    obtain ⟨c0, c1⟩ := RA.lg
    go_quiet ((go_at_call 108; first | (with_reducible exact Calls.quiet_of_same (HW1.out _ (below_drewN HB.out _))) | (with_reducible exact Calls.quiet_of_same (HW0.out _ (below_drewN HB.out _)))))
    have hB := Lib.hid (below_drewN HB.out nq)
    have d0 : (W.drewN nq).cell? ⟨w.heap.size, 0, none⟩ = _ := c0
    have d1 : (W.drewN nq).cell? ⟨w.heap.size, 1, none⟩ = _ := c1
    go_wp2
    go_ret
    exact ⟨by rw [HR.out]; rfl, hB.out⟩
end Go.Proofs.YtafhboppojeafaaGreatDoor
