/- Package bits: Compare; the document's Filled and Compare. -/
import Derived.Test.YtgoghblfficfpaaBitFind
import Derived.Test.YtgoghblfficfpaaBitTell3
import Derived.Test.YtgoghblfficfpaaBitRefE
import Derived.Laws.Concat
namespace Go.Proofs.Ytgoghblfficfpaa
open Go.RowKit

theorem ret_str2 {a b : ByteArray} (h : a = b) : Ending.returned (.string a) = .returned (.string b) := by rw [h]
set_option maxRecDepth 100000 in
set_option maxHeartbeats 4000000 in
theorem compared_any (a b : Vl) (w : World) (la : a.s.size ≤ 1000) (lb : b.s.size ≤ 1000) (hk : a.k = 4 ∨ a.k = 5) (hkb : b.k = a.k) :
    Calls Try.prog 117 #[a.v, b.v] w fun e w' => e = .returned (.int .i64 (cmpL a.k a.s.data.toList b.s.data.toList)) ∧ Below w.heap.size w w' := by
  have HK := Lib.hid hk
  have HKB : Hid (b.k = 4 ∨ b.k = 5) := Lib.hid (by rw [hkb]; exact hk)
  have HB := Lib.hid hkb
  have la' : a.s.size ≤ 100000 := by omega
  have lb' : b.s.size ≤ 100000 := by omega
  have HR : Hid (cmpL a.k a.s.data.toList b.s.data.toList = cmpTo (getF a.k a.s.data.toList) (getF a.k b.s.data.toList) (max a.s.size b.s.size)) := by show _ = _; unfold cmpL; rw [lsz, lsz]
  rw [HR.out]
  obtain ⟨f, hf⟩ : ∃ f, f = getF a.k a.s.data.toList := ⟨_, rfl⟩
  obtain ⟨g, hg⟩ : ∃ g, g = getF a.k b.s.data.toList := ⟨_, rfl⟩
  rw [← hf, ← hg]
  have HFF := Lib.hid hf
  have HGG := Lib.hid hg
  clear hk hkb hf hg
  have RA := (Row.new w (vlC a.k a.n a.q a.s) 23).alloc (.cells (vlC b.k b.n b.q b.s) 23)
  have RB := Row.new2 w (.cells (vlC a.k a.n a.q a.s) 23) (vlC b.k b.n b.q b.s) 23
  rcases Nat.lt_or_ge a.s.size b.s.size with hm | hm
  · rw [Nat.max_eq_right (Nat.le_of_lt hm)]
    have hm2 : (a.s.size : Int) < b.s.size := by omega
    have hm3 : max (a.s.size : Int) b.s.size = b.s.size := by omega
    clear hm
    go_enter Try.func117, Try.ntmps117
    go_wp2
    generalize hw : (w.alloc (.cells (vlC a.k a.n a.q a.s) 23)).alloc (.cells (vlC b.k b.n b.q b.s) 23) = W at *
    have B0 : Hid (Below w.heap.size w W) := by show Below _ _ _; rw [← hw]; go_grown
    clear hw
    obtain ⟨x0, x1, x2, x3⟩ := RA.four
    obtain ⟨y0, y1, y2, y3⟩ := RB.four
    go_region_held3 (fun w' => (w'.cell? ⟨w.heap.size, 0, none⟩ = some (.int .i64 a.k) ∧ w'.cell? ⟨w.heap.size, 1, none⟩ = some (.int .i64 a.n) ∧ w'.cell? ⟨w.heap.size, 2, none⟩ = some (.int .i64 a.q) ∧ w'.cell? ⟨w.heap.size, 3, none⟩ = some (.string a.s)) ∧ (w'.cell? ⟨w.heap.size + 1, 0, none⟩ = some (.int .i64 b.k) ∧ w'.cell? ⟨w.heap.size + 1, 1, none⟩ = some (.int .i64 b.n) ∧ w'.cell? ⟨w.heap.size + 1, 2, none⟩ = some (.int .i64 b.q) ∧ w'.cell? ⟨w.heap.size + 1, 3, none⟩ = some (.string b.s)))
      (first | go_keep | exact ⟨S3.four, T3.four⟩ | exact ⟨S2.four, T2.four⟩)
      (first
        | (go_at_call 124; first
          | ((with_reducible refine (filled_any a.k a.n a.q a.s b.s.size _ HK.out la').mono ?_); rintro e w2 ⟨fn, cap, rfl, HT, hb2⟩; have S2 := RA.keep (bl_drew hb2); have T2 := RB.keep (bl_drew hb2))
          | ((with_reducible refine (filled_any b.k b.n b.q b.s b.s.size _ HKB.out lb').mono ?_); rintro e w3 ⟨fn2, cap2, rfl, HT2, hb3⟩; have S3 := S2.keep hb3; have T3 := T2.keep hb3)))
    have hcf := HT.1
    have hcf2 := HT2.1
    have HX : Hid (Tells w3 fn cap b.s.size f) := Lib.hid (by rw [HFF.out]; exact HT.later hb3)
    have HY : Hid (Tells w3 fn2 cap2 b.s.size g) := Lib.hid (by rw [HGG.out, ← HB.out]; exact HT2)
    have B3 := Lib.hid (bl_then B0.out (bl_then (bl_drew hb2) hb3))
    clear HT HT2 hb2 hb3 S2 T2 RA RB
    obtain ⟨x0, x1, x2, x3⟩ := S3.four
    obtain ⟨y0, y1, y2, y3⟩ := T3.four
    go_wp2
    go_loopw [20] (fun v wr => ∃ j : Nat, j ≤ b.s.size ∧ v = .int .i64 j ∧ Hid (∀ i, i < j → f i = g i) ∧ Below w3.heap.size w3 wr) (fun v _ => b.s.size - (intOf v).toNat)
    case atStart => exact ⟨0, Nat.zero_le _, rfl, fun i hi => absurd hi (Nat.not_lt_zero _), Below.refl _ _⟩
    case round =>
      obtain ⟨j, hj, rfl, HF, hB⟩ := hrel
      have HBr := Lib.hid hB
      clear hB
      by_cases hlt : j < b.s.size
      · by_cases hc : cmpB (f j) (g j) = 0
        · have HC := Lib.hid hc
          clear hc
          go_wp2_with (first
            | (go_at_call 148; refine (cmp_b _ _ _).mono ?_; rw [HC.out]; rintro e w6 ⟨rfl, rfl⟩)
            | (refine (HX.out.2 j _ hlt HBr.out).mono ?_; rintro e w4 ⟨rfl, hb4⟩)
            | (refine (HY.out.2 j _ hlt (bl_then HBr.out hb4)).mono ?_; rintro e w5 ⟨rfl, hb5⟩))
          go_roundw
          case rel => exact ⟨j + 1, by omega, by go_num, fun i hi => by
            by_cases e : i = j
            · rw [e]; exact cmpB_zero HC.out
            · exact HF.out i (by omega), bl_then (bl_then HBr.out hb4) hb5⟩
          case measure => simp [intOf]; omega
        · have HL := Lib.hid (cmpTo_at HF.out hc _ hlt)
          have e1 : (cmpB (f j) (g j) != 0) = true := by simpa using hc
          have e2 : (cmpB (f j) (g j) == 0) = false := by simpa using hc
          clear hc
          go_wp2_with (first
            | (go_at_call 148; refine (cmp_b _ _ _).mono ?_; rintro e w6 ⟨rfl, rfl⟩)
            | (refine (HX.out.2 j _ hlt HBr.out).mono ?_; rintro e w4 ⟨rfl, hb4⟩)
            | (refine (HY.out.2 j _ hlt (bl_then HBr.out hb4)).mono ?_; rintro e w5 ⟨rfl, hb5⟩))
          go_ret
          exact ⟨by rw [HL.out]; rfl, bl_then B3.out (bl_then (bl_then HBr.out hb4) hb5)⟩
      · have HL := Lib.hid (cmpTo_zero (f := f) (g := g) (n := b.s.size) fun i hi => HF.out i (by omega))
        go_wp2
        go_ret
        exact ⟨by rw [HL.out]; rfl, bl_then B3.out HBr.out⟩
  · rw [Nat.max_eq_left hm]
    have hm2 : (b.s.size : Int) ≤ a.s.size := by omega
    have hm3 : max (a.s.size : Int) b.s.size = a.s.size := by omega
    clear hm
    go_enter Try.func117, Try.ntmps117
    go_wp2
    generalize hw : (w.alloc (.cells (vlC a.k a.n a.q a.s) 23)).alloc (.cells (vlC b.k b.n b.q b.s) 23) = W at *
    have B0 : Hid (Below w.heap.size w W) := by show Below _ _ _; rw [← hw]; go_grown
    clear hw
    obtain ⟨x0, x1, x2, x3⟩ := RA.four
    obtain ⟨y0, y1, y2, y3⟩ := RB.four
    go_region_held3 (fun w' => (w'.cell? ⟨w.heap.size, 0, none⟩ = some (.int .i64 a.k) ∧ w'.cell? ⟨w.heap.size, 1, none⟩ = some (.int .i64 a.n) ∧ w'.cell? ⟨w.heap.size, 2, none⟩ = some (.int .i64 a.q) ∧ w'.cell? ⟨w.heap.size, 3, none⟩ = some (.string a.s)) ∧ (w'.cell? ⟨w.heap.size + 1, 0, none⟩ = some (.int .i64 b.k) ∧ w'.cell? ⟨w.heap.size + 1, 1, none⟩ = some (.int .i64 b.n) ∧ w'.cell? ⟨w.heap.size + 1, 2, none⟩ = some (.int .i64 b.q) ∧ w'.cell? ⟨w.heap.size + 1, 3, none⟩ = some (.string b.s)))
      (first | go_keep | exact ⟨S3.four, T3.four⟩ | exact ⟨S2.four, T2.four⟩)
      (first
        | (go_at_call 124; first
          | ((with_reducible refine (filled_any a.k a.n a.q a.s a.s.size _ HK.out la').mono ?_); rintro e w2 ⟨fn, cap, rfl, HT, hb2⟩; have S2 := RA.keep (bl_drew hb2); have T2 := RB.keep (bl_drew hb2))
          | ((with_reducible refine (filled_any b.k b.n b.q b.s a.s.size _ HKB.out lb').mono ?_); rintro e w3 ⟨fn2, cap2, rfl, HT2, hb3⟩; have S3 := S2.keep hb3; have T3 := T2.keep hb3)))
    have hcf := HT.1
    have hcf2 := HT2.1
    have HX : Hid (Tells w3 fn cap a.s.size f) := Lib.hid (by rw [HFF.out]; exact HT.later hb3)
    have HY : Hid (Tells w3 fn2 cap2 a.s.size g) := Lib.hid (by rw [HGG.out, ← HB.out]; exact HT2)
    have B3 := Lib.hid (bl_then B0.out (bl_then (bl_drew hb2) hb3))
    clear HT HT2 hb2 hb3 S2 T2 RA RB
    obtain ⟨x0, x1, x2, x3⟩ := S3.four
    obtain ⟨y0, y1, y2, y3⟩ := T3.four
    go_wp2
    go_loopw [20] (fun v wr => ∃ j : Nat, j ≤ a.s.size ∧ v = .int .i64 j ∧ Hid (∀ i, i < j → f i = g i) ∧ Below w3.heap.size w3 wr) (fun v _ => a.s.size - (intOf v).toNat)
    case atStart => exact ⟨0, Nat.zero_le _, rfl, fun i hi => absurd hi (Nat.not_lt_zero _), Below.refl _ _⟩
    case round =>
      obtain ⟨j, hj, rfl, HF, hB⟩ := hrel
      have HBr := Lib.hid hB
      clear hB
      by_cases hlt : j < a.s.size
      · by_cases hc : cmpB (f j) (g j) = 0
        · have HC := Lib.hid hc
          clear hc
          go_wp2_with (first
            | (go_at_call 148; refine (cmp_b _ _ _).mono ?_; rw [HC.out]; rintro e w6 ⟨rfl, rfl⟩)
            | (refine (HX.out.2 j _ hlt HBr.out).mono ?_; rintro e w4 ⟨rfl, hb4⟩)
            | (refine (HY.out.2 j _ hlt (bl_then HBr.out hb4)).mono ?_; rintro e w5 ⟨rfl, hb5⟩))
          go_roundw
          case rel => exact ⟨j + 1, by omega, by go_num, fun i hi => by
            by_cases e : i = j
            · rw [e]; exact cmpB_zero HC.out
            · exact HF.out i (by omega), bl_then (bl_then HBr.out hb4) hb5⟩
          case measure => simp [intOf]; omega
        · have HL := Lib.hid (cmpTo_at HF.out hc _ hlt)
          have e1 : (cmpB (f j) (g j) != 0) = true := by simpa using hc
          have e2 : (cmpB (f j) (g j) == 0) = false := by simpa using hc
          clear hc
          go_wp2_with (first
            | (go_at_call 148; refine (cmp_b _ _ _).mono ?_; rintro e w6 ⟨rfl, rfl⟩)
            | (refine (HX.out.2 j _ hlt HBr.out).mono ?_; rintro e w4 ⟨rfl, hb4⟩)
            | (refine (HY.out.2 j _ hlt (bl_then HBr.out hb4)).mono ?_; rintro e w5 ⟨rfl, hb5⟩))
          go_ret
          exact ⟨by rw [HL.out]; rfl, bl_then B3.out (bl_then (bl_then HBr.out hb4) hb5)⟩
      · have HL := Lib.hid (cmpTo_zero (f := f) (g := g) (n := a.s.size) fun i hi => HF.out i (by omega))
        go_wp2
        go_ret
        exact ⟨by rw [HL.out]; rfl, bl_then B3.out HBr.out⟩
end Go.Proofs.Ytgoghblfficfpaa
