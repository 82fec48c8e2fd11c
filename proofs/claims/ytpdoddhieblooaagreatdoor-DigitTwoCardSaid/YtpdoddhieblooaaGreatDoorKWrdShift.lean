/- The library's contracts on bits.Len32 and bits.LeadingZeros32, laid at this program. digit.shifted, unshifted: a number times a power of two, and back. -/
import Derived.Test.YtpdoddhieblooaaGreatDoorKWrdGuess
import Derived.Shelf.Small.Bits
import Derived.Test.YtpdoddhieblooaaGreatDoorProg
namespace Go.Proofs
open Go.Shelf
def Tryz.lays133_ren : Go.Shelf.Ren := ⟨fun | 133 => 147 | 128 => 164 | n => n, fun | 51 => 104 | 3 => 3 | 4 => 4 | 46 => 107 | 5 => 5 | 9 => 9 | n => n, fun | n => n⟩
theorem Tryz.lays133 : Go.Proofs.Lays.n133 Tryz.prog Tryz.lays133_ren := {
 mixed := by kernel_rfl
 f128 := Tryz.func164.trans (congrArg some (by kernel_rfl))
 f133 := Tryz.func147.trans (congrArg some (by kernel_rfl))
 t3 := Tryz.underlying3
 a3 := Tryz.isAgg3
 z3 := Tryz.sizeOf3
 v3 := Tryz.zeroValue3
 t4 := Tryz.underlying4
 a4 := Tryz.isAgg4
 z4 := Tryz.sizeOf4
 v4 := Tryz.zeroValue4
 t5 := Tryz.underlying5
 a5 := Tryz.isAgg5
 z5 := Tryz.sizeOf5
 v5 := Tryz.zeroValue5
 t9 := Tryz.underlying9
 a9 := Tryz.isAgg9
 z9 := Tryz.sizeOf9
 v9 := Tryz.zeroValue9
 t46 := Tryz.underlying107
 a46 := Tryz.isAgg107
 z46 := Tryz.sizeOf107
 v46 := Tryz.zeroValue107
 t51 := Tryz.underlying104
 a51 := Tryz.isAgg104
 z51 := Tryz.sizeOf104
 v51 := Tryz.zeroValue104 }
theorem Tryz.bits_LeadingZeros32 (x : Int) (w : World) (h0 : 0 ≤ x) (h1 : x ≤ 4294967295) :
   Calls Tryz.prog 147 #[.int .u32 x] w fun e w' => e = .returned (.int .i64 (32 - (Lib.bitLen x.toNat : Int))) ∧ w' = w := Any.bits_LeadingZeros32 Tryz.lays133 x w h0 h1
end Go.Proofs
namespace Go.Proofs.YtpdoddhieblooaaGreatDoor

theorem bitLen_up : ∀ (k x : Nat), x < 2 ^ k → k ≤ 64 → x < 2 ^ Lib.bitLen x
 | 0, x, h, _ => by
   obtain rfl : x = 0 := by simpa using h
   decide
 | k + 1, x, h, hk => by
   by_cases h0 : x = 0
   · subst h0; decide
   · have h64 : x < 2 ^ 64 := Nat.lt_of_lt_of_le h (Nat.pow_le_pow_right (by decide) hk)
     rw [Lib.bitLen_half x h0 h64, Nat.add_comm, Nat.pow_succ]
     have := bitLen_up k (x / 2) (by rw [Nat.pow_succ] at h; omega) (by omega)
     omega
theorem lz_by {h : Nat} (h0 : 0 < h) (h1 : h < 4294967296) : ∃ k : Nat, 32 - (Lib.bitLen h : Int) = (k : Int) ∧ k ≤ 31 ∧ 2147483648 ≤ h * 2 ^ k ∧ h * 2 ^ k < 4294967296 := by
 have u := bitLen_up 32 h h1 (by decide)
 have l := Lib.bitLen_le h 32 (by decide) h1
 have lo : ∀ j, Lib.bitLen h = j + 1 → 2 ^ j ≤ h := by
   intro j hj
   apply Decidable.byContradiction
   intro hn
   have := Lib.bitLen_le h j (by omega) (by omega)
   omega
 generalize Lib.bitLen h = n at u l lo ⊢
 cases n with
 | zero => simp at u; omega
 | succ j =>
   refine ⟨31 - j, by omega, by omega, ?_, ?_⟩
   · have e : (2147483648 : Nat) = 2 ^ j * 2 ^ (31 - j) := by rw [← Nat.pow_add, show j + (31 - j) = 31 by omega]
     rw [e]
     exact Nat.mul_le_mul_right _ (lo j rfl)
   · have e : (4294967296 : Nat) = 2 ^ (j + 1) * 2 ^ (31 - j) := by rw [← Nat.pow_add, show j + 1 + (31 - j) = 32 by omega]
     rw [e]
     exact Nat.mul_lt_mul_of_pos_right u (Nat.pow_pos (by decide))
theorem lz_d {h : Nat} (h0 : 0 < h) (h1 : h < 4294967296) : ∃ k : Nat, k ≤ 31 ∧ 2147483648 ≤ h * 2 ^ k ∧ h * 2 ^ k < 4294967296 ∧ ∀ w, Calls Tryz.prog 147 #[.int .u32 (h : Int)] w fun e w' => e = .returned (.int .i64 (k : Int)) ∧ w = w' := by
 obtain ⟨k, e, k1, k2, k3⟩ := lz_by h0 h1
 refine ⟨k, k1, k2, k3, fun w => (Tryz.bits_LeadingZeros32 (h : Int) w (by omega) (by omega)).mono ?_⟩
 rintro _ _ ⟨rfl, rfl⟩
 rw [Int.toNat_natCast, e]
 exact ⟨rfl, rfl⟩
end Go.Proofs.YtpdoddhieblooaaGreatDoor
namespace Go.Proofs.YtpdoddhieblooaaGreatDoor
open Go.RowKit

theorem u32_or_add {c k m : Nat} (hc : c < 2 ^ m) (hk : 2 ^ m * k + c < 4294967296) : bits .or .u32 (c : Int) ((2 ^ m * k : Nat) : Int) = ((2 ^ m * k + c : Nat) : Int) := by
 rw [u32_or_nat c _ (by omega) (by omega), Nat.or_comm]
 congr 1
 exact (Nat.two_pow_add_eq_or_of_lt hc k).symm
def ShfP (a N m i : Nat) (l : List Nat) : Prop :=
 l.length = N + 1 ∧ Wrds l ∧ (l[i]?).getD 0 < 2 ^ m ∧ (∀ j, i < j → (l[j]?).getD 0 = 0) ∧ wval (l.take (i + 1)) = wval ((wrds a).take i) * 2 ^ m
theorem shf_low {x m : Nat} (hm : m ≤ 31) : x * 2 ^ m % 4294967296 = 2 ^ m * (x % 2 ^ (32 - m)) := by
 have e : (4294967296 : Nat) = 2 ^ m * 2 ^ (32 - m) := by rw [← Nat.pow_add, show m + (32 - m) = 32 by omega]
 rw [e, Nat.mul_comm x, Nat.mul_mod_mul_left]
theorem shf_fits {x m c : Nat} (hm : m ≤ 31) (hc : c < 2 ^ m) : 2 ^ m * (x % 2 ^ (32 - m)) + c < 4294967296 := by
 have e : (4294967296 : Nat) = 2 ^ m * 2 ^ (32 - m) := by rw [← Nat.pow_add, show m + (32 - m) = 32 by omega]
 have h := Nat.mod_lt x (show 0 < 2 ^ (32 - m) from Nat.pow_pos (by decide))
 have : 2 ^ m * (x % 2 ^ (32 - m) + 1) ≤ 2 ^ m * 2 ^ (32 - m) := Nat.mul_le_mul_left _ h
 rw [← e, Nat.mul_add, Nat.mul_one] at this
 omega
theorem ShfP.next {a N m i : Nat} {l : List Nat} (h : ShfP a N m i l) (hi : i < N) (hm : m ≤ 31) :
   ShfP a N m (i + 1) ((l.set i (2 ^ m * (wrd a i % 2 ^ (32 - m)) + (l[i]?).getD 0)).set (i + 1) (wrd a i * 2 ^ m / 4294967296)) := by
 obtain ⟨h1, h2, h3, h4, h5⟩ := h
 have hx := wrd_lt a i
 have hil : i < l.length := by omega
 have e0 : (l[i]?).getD 0 = l[i] := by rw [List.getElem?_eq_getElem hil]; rfl
 rw [e0] at h3 ⊢
 have hf := shf_fits (x := wrd a i) hm h3
 have hhi : wrd a i * 2 ^ m / 4294967296 < 2 ^ m := by
   apply Nat.div_lt_of_lt_mul
   exact Nat.mul_lt_mul_of_pos_right hx (Nat.pow_pos (by decide))
 have h32 : 2 ^ m ≤ 4294967296 := by
   have := Nat.pow_le_pow_right (show 0 < 2 by decide) (show m ≤ 32 by omega)
   exact this
 refine ⟨by rw [List.length_set, List.length_set]; exact h1, (h2.set _ hf).set _ (by omega), ?_, ?_, ?_⟩
 · rw [List.getElem?_set_self (by rw [List.length_set]; omega)]
   exact hhi
 · intro j hj
   rw [List.getElem?_set_ne (by omega), List.getElem?_set_ne (by omega)]
   exact h4 j (by omega)
 · have hi1 : i + 1 < l.length := by omega
   rw [wval_take_succ _ (i + 1) (by simp; omega), List.getElem_set_self, List.take_set_of_le (Nat.le_refl _), wval_take_succ _ i (by simp; omega), List.getElem_set_self, List.take_set_of_le (Nat.le_refl _)]
   rw [wval_take_succ l i hil] at h5
   rw [wtake_succ, Nat.add_mul, ← h5, ← shf_low hm, Nat.pow_succ]
   generalize 4294967296 ^ i = P
   have k : P * (wrd a i * 2 ^ m % 4294967296) + P * 4294967296 * (wrd a i * 2 ^ m / 4294967296) = P * (wrd a i * 2 ^ m) := by
     rw [Nat.mul_assoc, ← Nat.mul_add, Nat.mod_add_div]
   rw [Nat.mul_add, Nat.mul_assoc P (wrd a i)]
   omega
set_option maxHeartbeats 4000000 in
set_option maxRecDepth 100000 in
theorem shifted_w {B a m : Nat} {va : Value} {w : World} (hA : WArg B w va a) (la : (wrds a).length ≤ 15000) (hm : m ≤ 31) :
   Calls Tryz.prog 148 #[va, .int .i64 (m : Int)] w fun e w' => ∃ l, e = .returned (.slice (some ⟨w.heap.size, 0, none⟩) ((wrds a).length + 1) ((wrds a).length + 1)) ∧ l.length = (wrds a).length + 1 ∧ Wrds l ∧ wval l = a * 2 ^ m ∧ Row w' w.heap.size (wrow l) 104 ∧ Below w.heap.size w w' := by
 obtain ⟨pa, ka, rfl⟩ := hA.slice
 have HA := Lib.hid hA
 clear hA
 obtain ⟨N, hN⟩ : ∃ N, (wrds a).length = N := ⟨_, rfl⟩
 obtain ⟨M, hM⟩ : ∃ M, N + 1 = M := ⟨_, rfl⟩
 have hmk := run_make_row' 39 104 (.int .u32 0) 4 Tryz.underlying39 Tryz.infoWord rfl .i64 .i64 M (by omega) (by omega)
 have R0 := Lib.hid (Row.new w (madeCells #[Value.int .u32 0] M) 104)
 rw [wmade] at R0 hmk
 have HN := Lib.hid hN
 have HM := Lib.hid hM
 rw [hN] at HA la
 rw [show (Value.slice pa (wrds a).length ka) = Value.slice pa N ka by rw [hN]]
 rw [hN, hM]
 have wM : IntKind.i64.wrap ((N : Int) + 1) = (M : Int) := by rw [show (N : Int) + 1 = (M : Int) by omega]; exact IntWalk.i64_in _ (by omega)
 have m0 : ¬ (m : Int) < 0 := by omega
 have m1 : (m : Int) < 64 := by omega
 have hMN : (N : Int) < (M : Int) := by omega
 clear hN hM
 go_enter Tryz.func148, Tryz.ntmps148
 go_wp2
 go_loopw [15] (fun iv wr => ∃ (i : Nat) (l : List Nat), iv = .int .i64 (i : Int) ∧ i ≤ N ∧ ShfP a N m i l ∧ Row wr w.heap.size (wrow l) 104 ∧ Below w.heap.size w wr) (fun iv _ => N - (intOf iv).toNat)
 case atStart =>
   refine ⟨0, List.replicate M 0, rfl, Nat.zero_le _, ⟨by rw [List.length_replicate, HM.out], fun x hx => by rw [List.mem_replicate] at hx; omega, ?_, ?_, ?_⟩, R0.out, (Below.refl _ w).alloc (Nat.le_refl _) _⟩
   · rw [List.getElem?_replicate]; split <;> exact Nat.pow_pos (by decide)
   · intro j _; rw [List.getElem?_replicate]; split <;> rfl
   · rw [← HM.out, List.replicate_succ]; simp [wval]
 case round =>
   obtain ⟨i, l, rfl, hi, hP, hrow, hB⟩ := hrel
   by_cases hlt : i < N
   · have HA1 := HA.out
     rw [show N = (wrds a).length from HN.out.symm] at HA1
     obtain ⟨ba, rfl, hba, hcA⟩ := (HA1.keep hB (Nat.le_refl _)).at (j := i) (by rw [HN.out]; omega)
     have NX := Lib.hid (hP.next hlt hm)
     have c1 := hP.2.2.1
     have hll := hP.1
     have hcell := hrow.wat (show i < l.length by omega)
     have e0 : (l[i]?).getD 0 = l[i]'(by omega) := by rw [List.getElem?_eq_getElem (by omega)]; rfl
     rw [e0] at c1 NX
     obtain ⟨c, hc⟩ : ∃ c, l[i]'(by omega) = c := ⟨_, rfl⟩
     rw [hc] at hcell c1 NX
     have hx := wrd_lt a i
     have hf := shf_fits (x := wrd a i) hm c1
     have hor := u32_or_add (k := wrd a i % 2 ^ (32 - m)) c1 hf
     rw [← shf_low hm] at hor NX hf
     have hp31 : 2 ^ m ≤ 2147483648 := Nat.pow_le_pow_right (show 0 < 2 by decide) hm
     have hW : wrd a i * 2 ^ m ≤ 4294967295 * 2147483648 := Nat.mul_le_mul (by omega) hp31
     obtain ⟨V, hV⟩ : ∃ V, wrd a i * 2 ^ m = V := ⟨_, rfl⟩
     obtain ⟨x, hxe⟩ : ∃ x, wrd a i = x := ⟨_, rfl⟩
     have wV : IntKind.u64.wrap ((x : Int) * 2 ^ m) = (V : Int) := by
       have e : (x : Int) * 2 ^ m = (V : Int) := by rw [← hV, hxe, Int.natCast_mul, Int.natCast_pow]; rfl
       rw [e]; exact IntWalk.u64_in _ (by omega)
     rw [hV] at hor NX hf hW
     rw [hxe] at hcA hx
     obtain ⟨lo, hlo⟩ : ∃ lo, V % 4294967296 = lo := ⟨_, rfl⟩
     obtain ⟨ho, hho⟩ : ∃ ho, V / 4294967296 = ho := ⟨_, rfl⟩
     have q1 : (V : Int) % 4294967296 = (lo : Int) := by omega
     have q2 : (V : Int) / 4294967296 % 4294967296 = (ho : Int) := by omega
     rw [hlo] at hor NX hf
     rw [hho] at NX
     have hcell1 := hrow.wat (show i + 1 < l.length by omega)
     obtain ⟨d, hd⟩ : ∃ d, l[i + 1]'(by omega) = d := ⟨_, rfl⟩
     rw [hd] at hcell1
     have hfr := hrow.free i
     have hfr1 := hrow.free (i + 1)
     have HR2 : Hid (Row ((wr.setCell ⟨w.heap.size, i, none⟩ (.int .u32 ((lo + c : Nat) : Int))).setCell ⟨w.heap.size, i + 1, none⟩ (.int .u32 ((ho : Nat) : Int))) w.heap.size (wrow ((l.set i (lo + c)).set (i + 1) ho)) 104) := Lib.hid ((hrow.wput _ _).wput _ _)
     have HBB : Hid (Below w.heap.size w ((wr.setCell ⟨w.heap.size, i, none⟩ (.int .u32 ((lo + c : Nat) : Int))).setCell ⟨w.heap.size, i + 1, none⟩ (.int .u32 ((ho : Nat) : Int)))) := Lib.hid ((hB.setCell (Nat.le_refl _) _).setCell (Nat.le_refl _) _)
     have i1 : (i : Int) < N := by omega
     have w1 : IntKind.i64.wrap ((i : Int) + 1) = ((i + 1 : Nat) : Int) := by rw [show (i : Int) + 1 = ((i + 1 : Nat) : Int) by omega]; exact IntWalk.i64_in _ (by omega)
     have b1 : ((i + 1 : Nat) : Int) < (M : Int) := by omega
     clear hP hrow hB hV hxe hlo hho hd hc e0 hll HA1 hf hp31 hW c1
     go_wp2
     case roundEnd => exact ⟨⟨i + 1, _, by first | rfl | rw [w1], by omega, NX.out, HR2.out, HBB.out⟩, by simp [intOf]; omega⟩
   · obtain rfl : i = N := by omega
     have HE := Lib.hid hP
     have HROW := Lib.hid hrow
     have HBUT := Lib.hid hB
     clear hP hrow hB
     go_wp2
     go_ret
     obtain ⟨p1, p2, _, _, p5⟩ := HE.out
     refine ⟨l, rfl, by rw [p1, HM.out], p2, ?_, HROW.out, HBUT.out⟩
     rw [List.take_of_length_le (by omega), List.take_of_length_le (by rw [HN.out]; exact Nat.le_refl _), wval_digs] at p5
     exact p5
theorem uns_word {x : List Nat} (hx : Wrds x) {m i : Nat} (hm : m ≤ 31) (hi : i < x.length) :
   wval x / 2 ^ m % 4294967296 ^ (i + 1) = wval x / 2 ^ m % 4294967296 ^ i + 4294967296 ^ i * (((x[i + 1]?).getD 0 * 4294967296 + (x[i]?).getD 0) / 2 ^ m % 4294967296) := by
 have ht : wval (x.take i) < 4294967296 ^ i := by
   have := wval_lt (x.take i) (hx.take i)
   rwa [List.length_take_of_le (by omega)] at this
 have hd : wval x = wval (x.take i) + 4294967296 ^ i * wval (x.drop i) := by
   have := wval_append (x.take i) (x.drop i)
   rwa [List.take_append_drop, List.length_take_of_le (by omega)] at this
 have hq : wval x / 4294967296 ^ i = wval (x.drop i) := by
   rw [hd, Nat.add_mul_div_left _ _ (Nat.pow_pos (by decide)), Nat.div_eq_of_lt ht, Nat.zero_add]
 rw [Nat.mod_pow_succ, Nat.div_div_eq_div_mul, Nat.mul_comm (2 ^ m), ← Nat.div_div_eq_div_mul, hq, wval_drop, wval_drop]
 congr 2
 generalize (x[i]?).getD 0 = u
 generalize (x[i + 1]?).getD 0 = v
 generalize wval (x.drop (i + 1 + 1)) = R
 have e : (4294967296 : Nat) = 2 ^ m * 2 ^ (32 - m) := by rw [← Nat.pow_add, show m + (32 - m) = 32 by omega]
 have e2 : u + 4294967296 * (v + 4294967296 * R) = (v * 4294967296 + u) + 2 ^ m * (4294967296 * (2 ^ (32 - m) * R)) := by
   have : 2 ^ m * (4294967296 * (2 ^ (32 - m) * R)) = 4294967296 * (4294967296 * R) := by
     rw [Nat.mul_left_comm, ← Nat.mul_assoc (2 ^ m), ← e]
   omega
 rw [e2, Nat.add_mul_div_left _ _ (Nat.pow_pos (by decide)), Nat.add_mul_mod_self_left]
set_option maxHeartbeats 4000000 in
set_option maxRecDepth 100000 in
theorem unshifted_w {b m cap : Nat} {x : List Nat} {w : World} (hb : b < w.heap.size) (hc : ∀ j (h : j < x.length), w.cell? ⟨b, j, none⟩ = some (.int .u32 (x[j] : Int))) (hx : Wrds x) (hcap : x.length ≤ cap) (lx : x.length ≤ 15000) (hm : m ≤ 31) :
   Calls Tryz.prog 150 #[.slice (some ⟨b, 0, none⟩) x.length cap, .int .i64 (m : Int)] w (GivesW w (wval x / 2 ^ m)) := by
 have HC := Lib.hid hc
 obtain ⟨N, hN⟩ : ∃ N, x.length = N := ⟨_, rfl⟩
 have hmk := run_make_row' 39 104 (.int .u32 0) 4 Tryz.underlying39 Tryz.infoWord rfl .i64 .i64 N (by omega) (by omega)
 have R0 := Lib.hid (Row.new w (madeCells #[Value.int .u32 0] N) 104)
 rw [wmade] at R0 hmk
 have HWD : Hid (∀ (W : World) (i : Nat), Below w.heap.size w W → i ≤ 1000000 → Calls Tryz.prog 143 #[.slice (some ⟨b, 0, none⟩) N cap, .int .i64 (i : Int)] W fun e w' => e = .returned (.int .u64 (((x[i]?).getD 0 : Nat) : Int)) ∧ W = w') := Lib.hid fun W i hW h => by
   have := word_any (some ⟨b, 0, none⟩) b cap x i W (fun _ => rfl) hcap (fun j hj => (hW.cell (p := ⟨b, j, none⟩) hb).trans (hc j hj)) hx (by omega) h
   rw [hN] at this; exact this
 have HN := Lib.hid hN
 have HX := Lib.hid hx
 rw [hN]
 rw [hN] at lx
 have m0 : ¬ (m : Int) < 0 := by omega
 have m1 : (m : Int) < 64 := by omega
 have hp : 0 < 2 ^ m := Nat.pow_pos (by decide)
 clear hc hN hx hcap
 go_enter Tryz.func150, Tryz.ntmps150
 go_wp2
 go_loopw [12] (fun iv wr => ∃ (i : Nat) (l : List Nat), iv = .int .i64 (i : Int) ∧ i ≤ N ∧ l.length = N ∧ Wrds l ∧ wval (l.take i) = wval x / 2 ^ m % 4294967296 ^ i ∧ Row wr w.heap.size (wrow l) 104 ∧ Below w.heap.size w wr) (fun iv _ => N - (intOf iv).toNat)
 case atStart =>
   refine ⟨0, List.replicate N 0, rfl, Nat.zero_le _, List.length_replicate, fun x hx => by rw [List.mem_replicate] at hx; omega, ?_, R0.out, (Below.refl _ w).alloc (Nat.le_refl _) _⟩
   rw [List.take_zero, Nat.pow_zero, Nat.mod_one]; rfl
 case round =>
   obtain ⟨i, l, rfl, hi, hl, hd, hv, hrow, hB⟩ := hrel
   by_cases hlt : i < N
   · have U := uns_word HX.out hm (show i < x.length by rw [HN.out]; exact hlt)
     have W1 : Hid (Calls Tryz.prog 143 #[.slice (some ⟨b, 0, none⟩) N cap, .int .i64 ((i : Int) + 1)] wr fun e w' => e = .returned (.int .u64 (((x[i + 1]?).getD 0 : Nat) : Int)) ∧ wr = w') := Lib.hid (by
       have := HWD.out wr (i + 1) hB (by omega)
       rwa [Int.natCast_add] at this)
     have W0 := Lib.hid (HWD.out wr i hB (by omega))
     have h1 := HX.out.at? (i + 1)
     have h0 := HX.out.at? i
     obtain ⟨u, hu⟩ : ∃ u, (x[i]?).getD 0 = u := ⟨_, rfl⟩
     obtain ⟨v, hvv⟩ : ∃ v, (x[i + 1]?).getD 0 = v := ⟨_, rfl⟩
     rw [hu] at U W0 h0
     rw [hvv] at U W1 h1
     have hor := or_words v u h1 h0
     have w1 : IntKind.u64.wrap ((v : Int) * 4294967296) = (v : Int) * 4294967296 := IntWalk.u64_in _ (by omega)
     have w2 : IntKind.i64.wrap ((i : Int) + 1) = ((i + 1 : Nat) : Int) := by rw [show (i : Int) + 1 = ((i + 1 : Nat) : Int) by omega]; exact IntWalk.i64_in _ (by omega)
     obtain ⟨F, hF⟩ : ∃ F, v * 4294967296 + u = F := ⟨_, rfl⟩
     rw [hF] at U hor
     have sh : (F : Int) / 2 ^ m = ((F / 2 ^ m : Nat) : Int) := by rw [Int.natCast_ediv, Int.natCast_pow]; rfl
     obtain ⟨G, hG⟩ : ∃ G, F / 2 ^ m = G := ⟨_, rfl⟩
     rw [hG] at U sh
     obtain ⟨o, ho⟩ : ∃ o, G % 4294967296 = o := ⟨_, rfl⟩
     rw [ho] at U
     have q1 : (G : Int) % 4294967296 = (o : Int) := by omega
     have hol : o < 4294967296 := by omega
     have hcell := hrow.wat (show i < l.length by omega)
     obtain ⟨d, hde⟩ : ∃ d, l[i]'(by omega) = d := ⟨_, rfl⟩
     rw [hde] at hcell
     have hfr := hrow.free i
     have HRr : Hid (Row (wr.setCell ⟨w.heap.size, i, none⟩ (.int .u32 ((o : Nat) : Int))) w.heap.size (wrow (l.set i o)) 104) := Lib.hid (hrow.wput _ _)
     have HBB : Hid (Below w.heap.size w (wr.setCell ⟨w.heap.size, i, none⟩ (.int .u32 ((o : Nat) : Int)))) := Lib.hid (hB.setCell (Nat.le_refl _) _)
     have i1 : (i : Int) < N := by omega
     have HV : Hid ((l.set i o).length = N ∧ Wrds (l.set i o) ∧ wval ((l.set i o).take (i + 1)) = wval x / 2 ^ m % 4294967296 ^ (i + 1)) := Lib.hid (by
       refine ⟨by rw [List.length_set]; exact hl, hd.set _ hol, ?_⟩
       rw [wval_take_succ _ i (by simp; omega), List.getElem_set_self, List.take_set_of_le (Nat.le_refl _), hv, U])
     clear hl hd hv hrow hB U hu hvv hF hG ho hde
     go_wp2_with (go_at_call 143; first | (with_reducible refine W1.out.mono ?_; rintro e w2 ⟨rfl, rfl⟩) | (with_reducible refine W0.out.mono ?_; rintro e w2 ⟨rfl, rfl⟩))
     case roundEnd => exact ⟨⟨i + 1, _, by first | rfl | rw [w2], by omega, HV.out.1, HV.out.2.1, HV.out.2.2, HRr.out, HBB.out⟩, by simp [intOf]; omega⟩
   · obtain rfl : i = N := by omega
     rw [← hl, List.take_length, hl, Nat.mod_eq_of_lt (Nat.lt_of_le_of_lt (Nat.div_le_self _ _) (by rw [← HN.out]; exact wval_lt x HX.out))] at hv
     have HT := Lib.hid (trim_row (cap := i) hrow hd (by omega) (by omega))
     have HW : Hid (WArg w.heap.size wr (.slice (some ⟨w.heap.size, 0, none⟩) (wrds (wval l)).length i) (wval l)) := Lib.hid (WArg.of_row hrow (Nat.le_refl _) hd (by omega))
     rw [hl] at HT
     rw [hv] at HT HW
     have HB2 := Lib.hid hB
     clear hB hrow hd hv
     go_wp2_with (go_at_call 115; refine HT.out.mono ?_; rintro e w2 ⟨rfl, rfl⟩)
     go_ret
     exact ⟨_, rfl, HW.out, HB2.out⟩
end Go.Proofs.YtpdoddhieblooaaGreatDoor
