/- digit.shared: a long number divided by one word. -/
import Derived.Test.YtpdoddhieblooaaGreatDoorKWrdDiff
import Derived.RegionTactic
import Derived.ChangeAlike
import Derived.Laws.BitsAllLaws
namespace Go.Proofs.YtpdoddhieblooaaGreatDoor
open Go.RowKit

theorem or_words (r x : Nat) (hr : r < 4294967296) (hx : x < 4294967296) : bits .or .u64 ((r : Int) * 4294967296) (x : Int) = ((r * 4294967296 + x : Nat) : Int) := by
 have e : (r : Int) * 4294967296 = ((r * 4294967296 : Nat) : Int) := by omega
 rw [e, u64_or_nat _ _ (by omega) (by omega)]
 congr 1
 have := Nat.two_pow_add_eq_or_of_lt (i := 32) (b := x) (by simpa using hx) r
 rw [show r * 4294967296 = 2 ^ 32 * r by omega]
 exact this.symm
def ShR (w : World) (a d N k r : Nat) (l : List Nat) (wr : World) : Prop :=
 k ≤ N ∧ l.length = N ∧ Wrds l ∧ wval (l.drop k) = wval ((wrds a).drop k) / d ∧ r = wval ((wrds a).drop k) % d ∧ (∀ j, j < k → (l[j]?).getD 0 = 0) ∧ Row wr w.heap.size (wrow l) 104 ∧ Below w.heap.size w wr
theorem sh_front {r x d : Nat} (hr : r < d) (hx : x < 4294967296) : (r * 4294967296 + x) / d < 4294967296 := by
 rw [Nat.div_lt_iff_lt_mul (by omega)]
 have : (r + 1) * 4294967296 ≤ d * 4294967296 := Nat.mul_le_mul_right _ hr
 rw [Nat.mul_comm 4294967296 d]
 omega
theorem ShR.next {w wr wr' : World} {a d N m r : Nat} {l : List Nat} (h : ShR w a d N (m + 1) r l wr) (hd : 0 < d) (hR : Row wr' w.heap.size (wrow (l.set m ((r * 4294967296 + wrd a m) / d))) 104) (hB : Below w.heap.size w wr') :
   ShR w a d N m ((r * 4294967296 + wrd a m) % d) (l.set m ((r * 4294967296 + wrd a m) / d)) wr' := by
 obtain ⟨h1, h2, h3, h4, h5, h6, h7, h8⟩ := h
 have hx := wrd_lt a m
 have hr : r < d := by rw [h5]; exact Nat.mod_lt _ hd
 have e : wval ((wrds a).drop m) = wrd a m + 4294967296 * wval ((wrds a).drop (m + 1)) := wval_drop (wrds a) m
 obtain ⟨D, hD⟩ : ∃ D, wval ((wrds a).drop (m + 1)) = D := ⟨_, rfl⟩
 rw [hD] at e h4 h5
 have e2 : wrd a m + 4294967296 * D = (r * 4294967296 + wrd a m) + d * (4294967296 * (D / d)) := by
   have h0 := Nat.div_add_mod D d
   rw [← h5] at h0
   have : 4294967296 * D = 4294967296 * (d * (D / d)) + 4294967296 * r := by rw [← Nat.mul_add, h0]
   rw [Nat.mul_left_comm d]
   omega
 rw [e2] at e
 refine ⟨by omega, by rw [List.length_set]; exact h2, h3.set _ (sh_front hr hx), ?_, ?_, ?_, hR, hB⟩
 · rw [wval_drop, List.getElem?_set_self (by omega), List.drop_set_of_lt (by omega), h4, e, Nat.add_mul_div_left _ _ hd]
   rfl
 · rw [e, Nat.add_mul_mod_self_left]
 · intro j hj
   rw [List.getElem?_set_ne (by omega)]
   exact h6 j (by omega)
def WRow (w : World) (b N n : Nat) : Prop := ∃ l : List Nat, Row w b (wrow l) 104 ∧ Wrds l ∧ wval l = n ∧ l.length = N
theorem WRow.arg {w : World} {b N n B : Nat} (h : WRow w b N n) (hB : B ≤ b) : WArg B w (.slice (some ⟨b, 0, none⟩) (wrds n).length N) n := by
 obtain ⟨l, hR, hd, rfl, rfl⟩ := h
 exact WArg.of_row hR hB hd (Nat.le_refl _)
set_option maxHeartbeats 4000000 in
set_option maxRecDepth 100000 in
theorem shared_w {B a : Nat} {va : Value} {w : World} (hA : WArg B w va a) (la : (wrds a).length ≤ 10000) (d : Nat) (h0 : 0 < d) (h1 : d < 4294967296) :
   Calls Tryz.prog 145 #[va, .int .u32 (d : Int)] w fun e w' => e = .returned (.tuple #[.slice (some ⟨w.heap.size, 0, none⟩) (wrds (a / d)).length (wrds a).length, .int .u32 ((a % d : Nat) : Int)]) ∧ WRow w' w.heap.size (wrds a).length (a / d) ∧ Below w.heap.size w w' := by
 obtain ⟨pa, ka, rfl⟩ := hA.slice
 have HA := Lib.hid hA
 clear hA
 obtain ⟨N, hN⟩ : ∃ N, (wrds a).length = N := ⟨_, rfl⟩
 have hmk := run_make_row' 39 104 (.int .u32 0) 4 Tryz.underlying39 Tryz.infoWord rfl .i64 .i64 N (by omega) (by omega)
 have R0 := Lib.hid (Row.new w (madeCells #[Value.int .u32 0] N) 104)
 rw [wmade] at R0 hmk
 have HN := Lib.hid hN
 rw [hN] at HA la
 rw [show (Value.slice pa (wrds a).length ka) = Value.slice pa N ka by rw [hN]]
 clear hN
 have hd0 : ¬ (d : Int) = 0 := by omega
 have hd1 : ((d : Int) == 0) = false := beq_eq_false_iff_ne.2 hd0
 have hwN : IntKind.i64.wrap ((N : Int) - 1) = (N : Int) - 1 := IntWalk.i64_in _ (by omega)
 go_enter Tryz.func145, Tryz.ntmps145
 go_wp2
 go_loopw [5, 6] (fun v i wr => ∃ (k r : Nat) (l : List Nat), v = .int .u32 (r : Int) ∧ i = .int .i64 ((k : Int) - 1) ∧ ShR w a d N k r l wr) (fun _ i _ => (intOf i + 1).toNat)
 case atStart =>
   refine ⟨N, 0, List.replicate N 0, rfl, rfl, Nat.le_refl _, by simp, by intro x hx; rw [List.mem_replicate] at hx; omega, ?_, ?_, ?_, R0.out, (Below.refl _ w).alloc (Nat.le_refl _) _⟩
   · rw [wval_drop_end _ _ (by simp), wval_drop_end _ _ (by rw [HN.out]; exact Nat.le_refl _), Nat.zero_div]
   · rw [wval_drop_end _ _ (by rw [HN.out]; exact Nat.le_refl _), Nat.zero_mod]
   · intro j _; rw [List.getElem?_replicate]; split <;> rfl
 case round =>
   obtain ⟨k, r, l, rfl, rfl, hR⟩ := hrel
   have hk := hR.1
   have hl := hR.2.1
   have hB := hR.2.2.2.2.2.2.2
   have hrow := hR.2.2.2.2.2.2.1
   have hr : r < d := by rw [hR.2.2.2.2.1]; exact Nat.mod_lt _ h0
   by_cases hk0 : k = 0
   · subst hk0
     obtain ⟨_, _, hd3, h4, h5, _, _, _⟩ := hR
     rw [List.drop_zero, List.drop_zero, wval_digs] at h4
     rw [List.drop_zero, wval_digs] at h5
     have HT := Lib.hid (trim_row (cap := N) hrow hd3 (by omega) (by omega))
     have HW : Hid (WRow wr w.heap.size N (a / d)) := Lib.hid ⟨l, hrow, hd3, h4, hl⟩
     rw [hl] at HT
     rw [h4] at HT
     have H5 := Lib.hid h5
     have HB2 := Lib.hid hB
     clear hB hrow hd3 h4 h5 hmk R0
     go_wp2_with (go_at_call 115; refine HT.out.mono ?_; rintro e w2 ⟨rfl, rfl⟩)
     refine bodyPost_ret (v := .tuple #[.slice (some ⟨w.heap.size, 0, none⟩) (wrds (a / d)).length N, .int .u32 (r : Int)]) (by simp [results, Tryz.results145, go_sem]) rfl ⟨by rw [H5.out, HN.out], by rw [HN.out]; exact HW.out, HB2.out⟩
   · obtain ⟨m, rfl⟩ : ∃ m, k = m + 1 := ⟨k - 1, by omega⟩
     have HA1 := HA.out
     rw [show N = (wrds a).length from HN.out.symm] at HA1
     obtain ⟨ba, rfl, hba, hcA⟩ := (HA1.keep hB (Nat.le_refl _)).at (j := m) (by rw [HN.out]; omega)
     have i1 : ((m + 1 : Nat) : Int) - 1 = m := by omega
     have i2 : (m : Int) < N := by omega
     have x1 := wrd_lt a m
     have hw1 : IntKind.u64.wrap ((r : Int) * 4294967296) = (r : Int) * 4294967296 := IntWalk.u64_in _ (by omega)
     have hor := or_words r (wrd a m) (by omega) x1
     obtain ⟨F, hF⟩ : ∃ F, r * 4294967296 + wrd a m = F := ⟨_, rfl⟩
     have hcO := hrow.wat (show m < l.length by omega)
     have hfO := hrow.free m
     have hq := sh_front hr x1
     have hrd : F % d < d := Nat.mod_lt _ h0
     have HRr := Lib.hid (fun (wr' : World) hr' hb' => hR.next (wr' := wr') h0 hr' hb')
     have HRow := Lib.hid hrow
     have HBr := Lib.hid hB
     rw [hF] at hor hq HRr
     have hF2 : F < 18446744073709551616 := by omega
     obtain ⟨q, hqe⟩ : ∃ q, F / d = q := ⟨_, rfl⟩
     obtain ⟨y, hye⟩ : ∃ y, F % d = y := ⟨_, rfl⟩
     rw [hqe] at hq HRr
     rw [hye] at hrd HRr
     have hqI : ((F : Int) / (d : Int)) = (q : Int) := by rw [← hqe]; rfl
     have hrI : ((F : Int) % (d : Int)) = (y : Int) := by rw [← hye]; rfl
     have hqm : (q : Int) % 4294967296 = q := by omega
     have hym : (y : Int) % 4294967296 = y := by omega
     have HY := Lib.hid (show y < d from hrd)
     clear hR hB hrow hmk R0 HA1 hqe hye hF hrd
     go_wp2
     go_region
     go_wp2
     case roundEnd =>
       exact ⟨⟨m, y, _, rfl, rfl, HRr.out _ (show Row _ _ _ _ from HRow.out.wput m q) ((HBr.out.setCell (Nat.le_refl _) _).drew)⟩, by simp [intOf]⟩
theorem shared_d {B a : Nat} {va : Value} {w : World} (hA : WArg B w va a) (la : (wrds a).length ≤ 10000) (d : Nat) (h0 : 0 < d) (h1 : d < 4294967296) :
   Calls Tryz.prog 145 #[va, .int .u32 (d : Int)] w fun e w' => ∃ q, e = .returned (.tuple #[q, .int .u32 ((a % d : Nat) : Int)]) ∧ WArg w.heap.size w' q (a / d) ∧ Below w.heap.size w w' :=
 (shared_w hA la d h0 h1).mono fun _ _ ⟨he, hR, hb⟩ => ⟨_, he, hR.arg (Nat.le_refl _), hb⟩
end Go.Proofs.YtpdoddhieblooaaGreatDoor
