/- The document's Compare. -/
import Derived.Test.YtgoghblfficfpaaBitCmp2
namespace Go.Proofs.Ytgoghblfficfpaa
open Go.RowKit

theorem tell_b (n : Nat) (f : Nat → UInt8) (i : Nat) (h : i < (bsz (tellL n f)).size) : (bsz (tellL n f))[i] = f i := tellL_get n f i h
set_option maxRecDepth 100000 in
set_option maxHeartbeats 4000000 in
theorem rCompare_any (a b : Vl) (w : World) (hs : a.s.size ≤ maxLen) (hs' : b.s.size ≤ maxLen) :
    Calls Try.prog 53 #[a.v, b.v] w fun e w' => e = .returned (.tuple #[.int .i64 (if alikeE a b = 0 then compareV a b else 0), .int .i64 (alikeE a b)]) ∧ Below w.heap.size w w' := by
  have H1 := Lib.hid hs
  have H2 := Lib.hid hs'
  clear hs hs'
  by_cases h0 : alikeE a b = 0
  · obtain ⟨oa, ob, ok⟩ := alikeE_ok h0
    have la := vl_le2 oa
    have lb := vl_le2 ob
    have la' : a.s.size ≤ 100000 := by omega
    have lb' : b.s.size ≤ 100000 := by omega
    have HE := Lib.hid h0
    have HO := Lib.hid ok
    have HR : Hid (compareV a b = cmpTo (getF a.k a.s.data.toList) (getF a.k b.s.data.toList) (max a.s.size b.s.size)) := by show _ = _; unfold compareV cmpL; rw [lsz, lsz]
    rw [h0, if_pos rfl, HR.out]
    obtain ⟨f, hf⟩ : ∃ f, f = getF a.k a.s.data.toList := ⟨_, rfl⟩
    obtain ⟨g, hg⟩ : ∃ g, g = getF a.k b.s.data.toList := ⟨_, rfl⟩
    rw [← hf, ← hg]
    have HFF := Lib.hid hf
    have HGG := Lib.hid hg
    clear oa ob ok h0 hf hg
    rcases Nat.lt_or_ge a.s.size b.s.size with hm | hm
    · rw [Nat.max_eq_right (Nat.le_of_lt hm)]
      have hm2 : (a.s.size : Int) < b.s.size := by omega
      have hm3 : max (a.s.size : Int) b.s.size = b.s.size := by omega
      clear hm
      go_enter Try.func53, Try.ntmps53
      go_wp2_with (go_at_call 68; refine (rStr2_any a b (w.heap.size + 1 + 1) 2 _ H1.out H2.out (VlsAt.two (Row.new3 _ _ _ _ _)) (by simp)).mono ?_; rw [HE.out]; rintro e w1 ⟨rfl, hb1⟩; have B1 := Lib.hid (bl_box3 (Below.refl _ w) hb1); have S1 := (((Row.new w (vlC a.k a.n a.q a.s) 23).alloc (.cells (vlC b.k b.n b.q b.s) 23)).alloc (.cells #[.int .i64 a.k, .int .i64 a.n, .int .i64 a.q, .string a.s, .int .i64 b.k, .int .i64 b.n, .int .i64 b.q, .string b.s] 23)).keep hb1; have T1 := ((Row.new2 w (.cells (vlC a.k a.n a.q a.s) 23) (vlC b.k b.n b.q b.s) 23).alloc (.cells #[.int .i64 a.k, .int .i64 a.n, .int .i64 a.q, .string a.s, .int .i64 b.k, .int .i64 b.n, .int .i64 b.q, .string b.s] 23)).keep hb1; obtain ⟨x0, x1, x2, x3⟩ := S1.four; obtain ⟨y0, y1, y2, y3⟩ := T1.four; clear hb1)
      go_region_held3 (fun w' => (w'.cell? ⟨w.heap.size, 0, none⟩ = some (.int .i64 a.k) ∧ w'.cell? ⟨w.heap.size, 1, none⟩ = some (.int .i64 a.n) ∧ w'.cell? ⟨w.heap.size, 2, none⟩ = some (.int .i64 a.q) ∧ w'.cell? ⟨w.heap.size, 3, none⟩ = some (.string a.s)) ∧ (w'.cell? ⟨w.heap.size + 1, 0, none⟩ = some (.int .i64 b.k) ∧ w'.cell? ⟨w.heap.size + 1, 1, none⟩ = some (.int .i64 b.n) ∧ w'.cell? ⟨w.heap.size + 1, 2, none⟩ = some (.int .i64 b.q) ∧ w'.cell? ⟨w.heap.size + 1, 3, none⟩ = some (.string b.s)))
        (first | go_keep | exact ⟨S3.four, T3.four⟩ | exact ⟨S2.four, T2.four⟩)
        (first
          | (go_at_call 108; first
            | ((with_reducible refine (rFilled_any a.s a.k b.s.size _ la' (by omega)).mono ?_); rintro e w2 ⟨rfl, hb2⟩; have S2 := S1.keep (bl_drew hb2); have T2 := T1.keep (bl_drew hb2))
            | ((with_reducible refine (rFilled_any b.s b.k b.s.size _ lb' (by omega)).mono ?_); rintro e w3 ⟨rfl, hb3⟩; have S3 := S2.keep hb3; have T3 := T2.keep hb3)))
      have B3 := Lib.hid (bl_then B1.out (bl_then (bl_drew hb2) hb3))
      have hzx : (bsz (tellL b.s.size (getF a.k a.s.data.toList))).size = b.s.size := by rw [bsz_size, tellL_len]
      have hzy : (bsz (tellL b.s.size (getF b.k b.s.data.toList))).size = b.s.size := by rw [bsz_size, tellL_len]
      have hgx : ∀ i (h : i < (bsz (tellL b.s.size (getF a.k a.s.data.toList))).size), (bsz (tellL b.s.size (getF a.k a.s.data.toList)))[i] = f i := fun i h => by rw [HFF.out]; exact tell_b _ _ i h
      have hgy : ∀ i (h : i < (bsz (tellL b.s.size (getF b.k b.s.data.toList))).size), (bsz (tellL b.s.size (getF b.k b.s.data.toList)))[i] = g i := fun i h => by rw [HGG.out, ← HO.out]; exact tell_b _ _ i h
      generalize bsz (tellL b.s.size (getF a.k a.s.data.toList)) = X at *
      generalize bsz (tellL b.s.size (getF b.k b.s.data.toList)) = Y at *
      have HZX := Lib.hid hzx; have HZY := Lib.hid hzy; have HGX := Lib.hid hgx; have HGY := Lib.hid hgy
      clear hzx hzy hgx hgy hb2 hb3 S1 T1 S2 T2
      obtain ⟨x0, x1, x2, x3⟩ := S3.four
      obtain ⟨y0, y1, y2, y3⟩ := T3.four
      go_wp2
      go_loopw [10] (fun v wr => ∃ j : Nat, j ≤ b.s.size ∧ v = .int .i64 j ∧ Hid (∀ i, i < j → f i = g i) ∧ Below w3.heap.size w3 wr) (fun v _ => b.s.size - (intOf v).toNat)
      case atStart => exact ⟨0, Nat.zero_le _, rfl, fun i hi => absurd hi (Nat.not_lt_zero _), Below.refl _ _⟩
      case round =>
        obtain ⟨j, hj, rfl, HF, hB⟩ := hrel
        have HBr := Lib.hid hB
        clear hB
        by_cases hlt : j < b.s.size
        · have lx : j < X.size := by rw [HZX.out]; exact hlt
          have ly : j < Y.size := by rw [HZY.out]; exact hlt
          have lx' : (j : Int) < X.size := by omega
          have ly' : (j : Int) < Y.size := by omega
          have ex := Lib.hid (HGX.out j lx)
          have ey := Lib.hid (HGY.out j ly)
          by_cases h1 : X[j].toNat < Y[j].toNat
          · have hcc : cmpB (f j) (g j) = -1 := by rw [← ex.out, ← ey.out]; exact if_pos h1
            have HL := Lib.hid (cmpTo_at HF.out (by rw [hcc]; decide) _ hlt)
            have HC := Lib.hid hcc
            have d1 : decide (X[j].toNat < Y[j].toNat) = true := decide_eq_true h1
            clear h1 hcc
            go_wp2
            go_quiet (fail)
            go_wp2
            go_ret2
            exact ⟨by rw [HL.out, HC.out]; rfl, bl_then B3.out (bl_dN HBr.out _)⟩
          · by_cases h2 : Y[j].toNat < X[j].toNat
            · have hcc : cmpB (f j) (g j) = 1 := by rw [← ex.out, ← ey.out]; unfold cmpB; rw [if_neg h1, if_pos h2]
              have HL := Lib.hid (cmpTo_at HF.out (by rw [hcc]; decide) _ hlt)
              have HC := Lib.hid hcc
              have d1 : decide (X[j].toNat < Y[j].toNat) = false := decide_eq_false h1
              have d2 : decide (Y[j].toNat < X[j].toNat) = true := decide_eq_true h2
              clear h1 h2 hcc
              go_wp2
              go_quiet (fail)
              go_wp2
              go_quiet (fail)
              go_wp2
              go_ret2
              exact ⟨by rw [HL.out, HC.out]; rfl, bl_then B3.out (by first | exact bl_dN HBr.out _ | exact bl_dN (bl_dN HBr.out _) _)⟩
            · have hcc : f j = g j := by rw [← ex.out, ← ey.out]; exact UInt8.toNat_inj.1 (by omega)
              have HC := Lib.hid hcc
              have d1 : decide (X[j].toNat < Y[j].toNat) = false := decide_eq_false h1
              have d2 : decide (Y[j].toNat < X[j].toNat) = false := decide_eq_false h2
              clear h1 h2 hcc
              go_wp2
              go_quiet (fail)
              go_wp2
              go_quiet (fail)
              go_wp2
              go_roundw
              case rel => exact ⟨j + 1, by omega, by go_num, fun i hi => by
                by_cases e : i = j
                · rw [e]; exact HC.out
                · exact HF.out i (by omega), by first | exact bl_dN HBr.out _ | exact bl_dN (bl_dN HBr.out _) _⟩
              case measure => simp [intOf]; omega
        · have HL := Lib.hid (cmpTo_zero (f := f) (g := g) (n := b.s.size) fun i hi => HF.out i (by omega))
          go_wp2
          go_ret2
          exact ⟨by rw [HL.out]; rfl, bl_then B3.out HBr.out⟩
    · rw [Nat.max_eq_left hm]
      have hm2 : (b.s.size : Int) ≤ a.s.size := by omega
      have hm3 : max (a.s.size : Int) b.s.size = a.s.size := by omega
      clear hm
      go_enter Try.func53, Try.ntmps53
      go_wp2_with (go_at_call 68; refine (rStr2_any a b (w.heap.size + 1 + 1) 2 _ H1.out H2.out (VlsAt.two (Row.new3 _ _ _ _ _)) (by simp)).mono ?_; rw [HE.out]; rintro e w1 ⟨rfl, hb1⟩; have B1 := Lib.hid (bl_box3 (Below.refl _ w) hb1); have S1 := (((Row.new w (vlC a.k a.n a.q a.s) 23).alloc (.cells (vlC b.k b.n b.q b.s) 23)).alloc (.cells #[.int .i64 a.k, .int .i64 a.n, .int .i64 a.q, .string a.s, .int .i64 b.k, .int .i64 b.n, .int .i64 b.q, .string b.s] 23)).keep hb1; have T1 := ((Row.new2 w (.cells (vlC a.k a.n a.q a.s) 23) (vlC b.k b.n b.q b.s) 23).alloc (.cells #[.int .i64 a.k, .int .i64 a.n, .int .i64 a.q, .string a.s, .int .i64 b.k, .int .i64 b.n, .int .i64 b.q, .string b.s] 23)).keep hb1; obtain ⟨x0, x1, x2, x3⟩ := S1.four; obtain ⟨y0, y1, y2, y3⟩ := T1.four; clear hb1)
      go_region_held3 (fun w' => (w'.cell? ⟨w.heap.size, 0, none⟩ = some (.int .i64 a.k) ∧ w'.cell? ⟨w.heap.size, 1, none⟩ = some (.int .i64 a.n) ∧ w'.cell? ⟨w.heap.size, 2, none⟩ = some (.int .i64 a.q) ∧ w'.cell? ⟨w.heap.size, 3, none⟩ = some (.string a.s)) ∧ (w'.cell? ⟨w.heap.size + 1, 0, none⟩ = some (.int .i64 b.k) ∧ w'.cell? ⟨w.heap.size + 1, 1, none⟩ = some (.int .i64 b.n) ∧ w'.cell? ⟨w.heap.size + 1, 2, none⟩ = some (.int .i64 b.q) ∧ w'.cell? ⟨w.heap.size + 1, 3, none⟩ = some (.string b.s)))
        (first | go_keep | exact ⟨S3.four, T3.four⟩ | exact ⟨S2.four, T2.four⟩)
        (first
          | (go_at_call 108; first
            | ((with_reducible refine (rFilled_any a.s a.k a.s.size _ la' (by omega)).mono ?_); rintro e w2 ⟨rfl, hb2⟩; have S2 := S1.keep (bl_drew hb2); have T2 := T1.keep (bl_drew hb2))
            | ((with_reducible refine (rFilled_any b.s b.k a.s.size _ lb' (by omega)).mono ?_); rintro e w3 ⟨rfl, hb3⟩; have S3 := S2.keep hb3; have T3 := T2.keep hb3)))
      have B3 := Lib.hid (bl_then B1.out (bl_then (bl_drew hb2) hb3))
      have hzx : (bsz (tellL a.s.size (getF a.k a.s.data.toList))).size = a.s.size := by rw [bsz_size, tellL_len]
      have hzy : (bsz (tellL a.s.size (getF b.k b.s.data.toList))).size = a.s.size := by rw [bsz_size, tellL_len]
      have hgx : ∀ i (h : i < (bsz (tellL a.s.size (getF a.k a.s.data.toList))).size), (bsz (tellL a.s.size (getF a.k a.s.data.toList)))[i] = f i := fun i h => by rw [HFF.out]; exact tell_b _ _ i h
      have hgy : ∀ i (h : i < (bsz (tellL a.s.size (getF b.k b.s.data.toList))).size), (bsz (tellL a.s.size (getF b.k b.s.data.toList)))[i] = g i := fun i h => by rw [HGG.out, ← HO.out]; exact tell_b _ _ i h
      generalize bsz (tellL a.s.size (getF a.k a.s.data.toList)) = X at *
      generalize bsz (tellL a.s.size (getF b.k b.s.data.toList)) = Y at *
      have HZX := Lib.hid hzx; have HZY := Lib.hid hzy; have HGX := Lib.hid hgx; have HGY := Lib.hid hgy
      clear hzx hzy hgx hgy hb2 hb3 S1 T1 S2 T2
      obtain ⟨x0, x1, x2, x3⟩ := S3.four
      obtain ⟨y0, y1, y2, y3⟩ := T3.four
      go_wp2
      go_loopw [10] (fun v wr => ∃ j : Nat, j ≤ a.s.size ∧ v = .int .i64 j ∧ Hid (∀ i, i < j → f i = g i) ∧ Below w3.heap.size w3 wr) (fun v _ => a.s.size - (intOf v).toNat)
      case atStart => exact ⟨0, Nat.zero_le _, rfl, fun i hi => absurd hi (Nat.not_lt_zero _), Below.refl _ _⟩
      case round =>
        obtain ⟨j, hj, rfl, HF, hB⟩ := hrel
        have HBr := Lib.hid hB
        clear hB
        by_cases hlt : j < a.s.size
        · have lx : j < X.size := by rw [HZX.out]; exact hlt
          have ly : j < Y.size := by rw [HZY.out]; exact hlt
          have lx' : (j : Int) < X.size := by omega
          have ly' : (j : Int) < Y.size := by omega
          have ex := Lib.hid (HGX.out j lx)
          have ey := Lib.hid (HGY.out j ly)
          by_cases h1 : X[j].toNat < Y[j].toNat
          · have hcc : cmpB (f j) (g j) = -1 := by rw [← ex.out, ← ey.out]; exact if_pos h1
            have HL := Lib.hid (cmpTo_at HF.out (by rw [hcc]; decide) _ hlt)
            have HC := Lib.hid hcc
            have d1 : decide (X[j].toNat < Y[j].toNat) = true := decide_eq_true h1
            clear h1 hcc
            go_wp2
            go_quiet (fail)
            go_wp2
            go_ret2
            exact ⟨by rw [HL.out, HC.out]; rfl, bl_then B3.out (bl_dN HBr.out _)⟩
          · by_cases h2 : Y[j].toNat < X[j].toNat
            · have hcc : cmpB (f j) (g j) = 1 := by rw [← ex.out, ← ey.out]; unfold cmpB; rw [if_neg h1, if_pos h2]
              have HL := Lib.hid (cmpTo_at HF.out (by rw [hcc]; decide) _ hlt)
              have HC := Lib.hid hcc
              have d1 : decide (X[j].toNat < Y[j].toNat) = false := decide_eq_false h1
              have d2 : decide (Y[j].toNat < X[j].toNat) = true := decide_eq_true h2
              clear h1 h2 hcc
              go_wp2
              go_quiet (fail)
              go_wp2
              go_quiet (fail)
              go_wp2
              go_ret2
              exact ⟨by rw [HL.out, HC.out]; rfl, bl_then B3.out (by first | exact bl_dN HBr.out _ | exact bl_dN (bl_dN HBr.out _) _)⟩
            · have hcc : f j = g j := by rw [← ex.out, ← ey.out]; exact UInt8.toNat_inj.1 (by omega)
              have HC := Lib.hid hcc
              have d1 : decide (X[j].toNat < Y[j].toNat) = false := decide_eq_false h1
              have d2 : decide (Y[j].toNat < X[j].toNat) = false := decide_eq_false h2
              clear h1 h2 hcc
              go_wp2
              go_quiet (fail)
              go_wp2
              go_quiet (fail)
              go_wp2
              go_roundw
              case rel => exact ⟨j + 1, by omega, by go_num, fun i hi => by
                by_cases e : i = j
                · rw [e]; exact HC.out
                · exact HF.out i (by omega), by first | exact bl_dN HBr.out _ | exact bl_dN (bl_dN HBr.out _) _⟩
              case measure => simp [intOf]; omega
        · have HL := Lib.hid (cmpTo_zero (f := f) (g := g) (n := a.s.size) fun i hi => HF.out i (by omega))
          go_wp2
          go_ret2
          exact ⟨by rw [HL.out]; rfl, bl_then B3.out HBr.out⟩
  · have e1 : (alikeE a b != 0) = true := by simpa using h0
    have e2 : (alikeE a b == 0) = false := by simpa using h0
    rw [if_neg h0]
    generalize hE : alikeE a b = E at e1 e2 ⊢
    have HE := Lib.hid hE
    clear h0 hE
    go_enter Try.func53, Try.ntmps53
    go_wp2_with (go_at_call 68; refine (rStr2_any a b (w.heap.size + 1 + 1) 2 _ H1.out H2.out (VlsAt.two (Row.new3 _ _ _ _ _)) (by simp)).mono ?_; rw [HE.out]; rintro e w1 ⟨rfl, hb1⟩; have B1 := Lib.hid (bl_box3 (Below.refl _ w) hb1))
    go_ret2
    exact ⟨rfl, B1.out⟩
end Go.Proofs.Ytgoghblfficfpaa
