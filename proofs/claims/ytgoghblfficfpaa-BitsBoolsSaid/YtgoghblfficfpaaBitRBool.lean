/- The document's Bool, Not, And, Or, Xor. -/
import Derived.Test.YtgoghblfficfpaaBitRBool0
namespace Go.Proofs.Ytgoghblfficfpaa
open Go.RowKit

def boolE (a b : Vl) (t : List UInt8) : Int := if kindE2 5 a b = 0 then (if okTab t then 0 else 7) else kindE2 5 a b
theorem okTab_len {t : ByteArray} (h : okTab t.data.toList = true) : t.size = 4 := by
  simp only [okTab, Bool.and_eq_true, decide_eq_true_eq, lsz] at h; exact h.1
theorem okTab_all {t : ByteArray} (h : okTab t.data.toList = true) : allK 5 t = true := by
  simp only [okTab, Bool.and_eq_true] at h; exact h.2
theorem okTab_not {t : ByteArray} (h : okTab t.data.toList = false) (hl : t.size = 4) : allK 5 t = false := by
  rw [okTab, lsz, decide_eq_true hl, Bool.true_and] at h; exact h

set_option maxRecDepth 100000 in
set_option maxHeartbeats 2000000 in
theorem rBool_kind (a b : Vl) (t : ByteArray) (w : World) (hs : a.s.size ≤ maxLen) (hs' : b.s.size ≤ maxLen) (h0 : kindE2 5 a b ≠ 0) :
    Calls Try.prog 39 #[a.v, b.v, .string t] w fun e w' => e = .returned (.tuple #[vlV 0 0 0 ⟨#[]⟩, .int .i64 (kindE2 5 a b)]) ∧ Below w.heap.size w w' := by
  have H1 := Lib.hid hs
  have H2 := Lib.hid hs'
  have RZ := (Row.new3 w (.cells (vlC a.k a.n a.q a.s) 23) (.cells (vlC b.k b.n b.q b.s) 23) (vlC 0 0 0 ⟨#[]⟩) 23).alloc (.cells #[.int .i64 a.k, .int .i64 a.n, .int .i64 a.q, .string a.s, .int .i64 b.k, .int .i64 b.n, .int .i64 b.q, .string b.s] 23)
  have e1 : (kindE2 5 a b != 0) = true := by simpa using h0
  have e2 : (kindE2 5 a b == 0) = false := by simpa using h0
  clear h0 hs hs'
  go_enter Try.func39, Try.ntmps39
  go_wp2_with (go_at_call 68; refine (rStr2k_any 5 (by decide) a b (w.heap.size + 1 + 1 + 1) 2 _ H1.out H2.out (VlsAt.two (Row.new4 _ _ _ _ _ _)) (by simp <;> omega)).mono ?_; rintro e w1 ⟨rfl, hb1⟩; have B1 := Lib.hid (bl_four (Below.refl _ w) hb1); have Z1 := RZ.keep hb1; obtain ⟨z0, z1, z2, z3⟩ := Z1.four; have f0 := Z1.free 0; have f1 := Z1.free 1; have f2 := Z1.free 2; have f3 := Z1.free 3)
  refine bodyPost_ret (v := .tuple #[vlV 0 0 0 ⟨#[]⟩, .int .i64 (kindE2 5 a b)]) (by simp [results, Try.results39, go_sem, z0, z1, z2, z3]) rfl ⟨rfl, ?_⟩
  (repeat refine Below.setCell ?_ (by simp <;> omega) _)
  exact B1.out

set_option maxRecDepth 100000 in
set_option maxHeartbeats 2000000 in
theorem rBool_tab (a b : Vl) (t : ByteArray) (w : World) (hs : a.s.size ≤ maxLen) (hs' : b.s.size ≤ maxLen) (_ht : t.size ≤ 100000) (h0 : kindE2 5 a b = 0) (h1 : okTab t.data.toList = false) :
    Calls Try.prog 39 #[a.v, b.v, .string t] w fun e w' => e = .returned (.tuple #[vlV 0 0 0 ⟨#[]⟩, .int .i64 7]) ∧ Below w.heap.size w w' := by
  have H1 := Lib.hid hs
  have H2 := Lib.hid hs'
  have HE := Lib.hid h0
  have RZ := (Row.new3 w (.cells (vlC a.k a.n a.q a.s) 23) (.cells (vlC b.k b.n b.q b.s) 23) (vlC 0 0 0 ⟨#[]⟩) 23).alloc (.cells #[.int .i64 a.k, .int .i64 a.n, .int .i64 a.q, .string a.s, .int .i64 b.k, .int .i64 b.n, .int .i64 b.q, .string b.s] 23)
  clear h0 hs hs'
  by_cases hl : (t.size : Int) = 4
  · have HA := Lib.hid (okTab_not h1 (by omega))
    have ht' : (t.size : Int) ≤ 100000 := by omega
    have e1 : ((t.size : Int) != 4) = false := by rw [hl]; rfl
    clear h1
    go_enter Try.func39, Try.ntmps39
    go_wp2_with (first
      | (go_at_call 68; refine (rStr2k_any 5 (by decide) a b (w.heap.size + 1 + 1 + 1) 2 _ H1.out H2.out (VlsAt.two (Row.new4 _ _ _ _ _ _)) (by simp <;> omega)).mono ?_; rw [HE.out]; rintro e w1 ⟨rfl, hb1⟩; have B1 := Lib.hid (bl_four (Below.refl _ w) hb1); have Z1 := RZ.keep hb1; obtain ⟨z0, z1, z2, z3⟩ := Z1.four; have f0 := Z1.free 0; have f1 := Z1.free 1; have f2 := Z1.free 2; have f3 := Z1.free 3)
      | (go_at_call 107; refine (digBits_any t _ ht').mono ?_; rw [HA.out]; rintro e w2 ⟨rfl, rfl⟩))
    refine bodyPost_ret (v := .tuple #[vlV 0 0 0 ⟨#[]⟩, .int .i64 7]) (by simp [results, Try.results39, go_sem, z0, z1, z2, z3]) rfl ⟨rfl, ?_⟩
    (repeat refine Below.setCell ?_ (by simp <;> omega) _)
    exact B1.out
  · have e1 : ((t.size : Int) != 4) = true := by simpa using hl
    have e2 : ((t.size : Int) == 4) = false := by simpa using hl
    clear h1 hl
    go_enter Try.func39, Try.ntmps39
    go_wp2_with (go_at_call 68; refine (rStr2k_any 5 (by decide) a b (w.heap.size + 1 + 1 + 1) 2 _ H1.out H2.out (VlsAt.two (Row.new4 _ _ _ _ _ _)) (by simp <;> omega)).mono ?_; rw [HE.out]; rintro e w1 ⟨rfl, hb1⟩; have B1 := Lib.hid (bl_four (Below.refl _ w) hb1); have Z1 := RZ.keep hb1; obtain ⟨z0, z1, z2, z3⟩ := Z1.four; have f0 := Z1.free 0; have f1 := Z1.free 1; have f2 := Z1.free 2; have f3 := Z1.free 3)
    refine bodyPost_ret (v := .tuple #[vlV 0 0 0 ⟨#[]⟩, .int .i64 7]) (by simp [results, Try.results39, go_sem, z0, z1, z2, z3]) rfl ⟨rfl, ?_⟩
    (repeat refine Below.setCell ?_ (by simp <;> omega) _)
    exact B1.out


theorem bitF_at (t : ByteArray) (x y : UInt8) (k : Nat) (hk : 2 * (x.toNat - 48) + (y.toNat - 48) = k) (h : k < t.size) : t.extract k (k + 1) = bsz [bitF t.data.toList x y] := by
  subst hk
  rw [ext_one t _ h, bitF, getD_b t _ h]
set_option maxRecDepth 100000 in
set_option maxHeartbeats 8000000 in
theorem rBool_ok (a b : Vl) (t : ByteArray) (w : World) (hs : a.s.size ≤ maxLen) (hs' : b.s.size ≤ maxLen) (h0 : kindE2 5 a b = 0) (h1 : okTab t.data.toList = true) :
    Calls Try.prog 39 #[a.v, b.v, .string t] w fun e w' => e = .returned (.tuple #[vlV 5 0 0 (bsz (boolL a.s.data.toList b.s.data.toList t.data.toList)), .int .i64 0]) ∧ Below w.heap.size w w' := by
  have H1 := Lib.hid hs
  have H2 := Lib.hid hs'
  clear hs hs'
  obtain ⟨oa, ob, ka, kb⟩ := kindE2_ok h0
  have la := vl_le2 oa
  have lb := vl_le2 ob
  have la' : a.s.size ≤ 100000 := by omega
  have lb' : b.s.size ≤ 100000 := by omega
  have HE := Lib.hid h0
  have ta : okT 5 a.s.data.toList = true := by have := (okV_eq oa).2.2; rwa [ka] at this
  have tb : okT 5 b.s.data.toList = true := by have := (okV_eq ob).2.2; rwa [kb] at this
  have HX0 := Lib.hid (bits_all ta)
  have HY0 := Lib.hid (bits_all tb)
  have ht := okTab_len h1
  have HA := Lib.hid (okTab_all h1)
  have ht' : (t.size : Int) = 4 := by omega
  have e1 : ((t.size : Int) != 4) = false := by rw [ht']; rfl
  have ht2 : (t.size : Int) ≤ 100000 := by omega
  have HR : Hid (boolL a.s.data.toList b.s.data.toList t.data.toList = tellL (max a.s.size b.s.size) (fun i => bitF t.data.toList (getF 5 a.s.data.toList i) (getF 5 b.s.data.toList i))) := by show _ = _; unfold boolL; rw [lsz, lsz]
  rw [HR.out]
  obtain ⟨f, hf⟩ : ∃ f, f = getF 5 a.s.data.toList := ⟨_, rfl⟩
  obtain ⟨g, hg⟩ : ∃ g, g = getF 5 b.s.data.toList := ⟨_, rfl⟩
  rw [← hf] at HX0
  rw [← hg] at HY0
  rw [← hf, ← hg]
  have HFF := Lib.hid hf
  have HGG := Lib.hid hg
  obtain ⟨h, hh⟩ : ∃ h : Nat → UInt8, h = fun i => bitF t.data.toList (f i) (g i) := ⟨_, rfl⟩
  rw [← hh]
  have HH := Lib.hid hh
  have RA := (((Row.new w (vlC a.k a.n a.q a.s) 23).alloc (.cells (vlC b.k b.n b.q b.s) 23)).alloc (.cells (vlC 0 0 0 ⟨#[]⟩) 23)).alloc (.cells #[.int .i64 a.k, .int .i64 a.n, .int .i64 a.q, .string a.s, .int .i64 b.k, .int .i64 b.n, .int .i64 b.q, .string b.s] 23)
  have RB := ((Row.new2 w (.cells (vlC a.k a.n a.q a.s) 23) (vlC b.k b.n b.q b.s) 23).alloc (.cells (vlC 0 0 0 ⟨#[]⟩) 23)).alloc (.cells #[.int .i64 a.k, .int .i64 a.n, .int .i64 a.q, .string a.s, .int .i64 b.k, .int .i64 b.n, .int .i64 b.q, .string b.s] 23)
  have RZ := (Row.new3 w (.cells (vlC a.k a.n a.q a.s) 23) (.cells (vlC b.k b.n b.q b.s) 23) (vlC 0 0 0 ⟨#[]⟩) 23).alloc (.cells #[.int .i64 a.k, .int .i64 a.n, .int .i64 a.q, .string a.s, .int .i64 b.k, .int .i64 b.n, .int .i64 b.q, .string b.s] 23)
  clear oa ob ka kb h0 h1 ta tb hf hg hh
  rcases Nat.lt_or_ge a.s.size b.s.size with hm | hm
  · rw [Nat.max_eq_right (Nat.le_of_lt hm)]
    have hm2 : (a.s.size : Int) < b.s.size := by omega
    have hm3 : max (a.s.size : Int) b.s.size = b.s.size := by omega
    have lN : b.s.size ≤ 1000 := by omega
    clear hm
    go_enter Try.func39, Try.ntmps39
    go_wp2_with (first
      | (go_at_call 68; refine (rStr2k_any 5 (by decide) a b (w.heap.size + 1 + 1 + 1) 2 _ H1.out H2.out (VlsAt.two (Row.new4 _ _ _ _ _ _)) (by simp <;> omega)).mono ?_; rw [HE.out]; rintro e w1 ⟨rfl, hb1⟩; have B1 := Lib.hid (bl_four (Below.refl _ w) hb1); have S1 := RA.keep hb1; have T1 := RB.keep hb1; have Z1 := RZ.keep hb1; obtain ⟨x0, x1, x2, x3⟩ := S1.four; obtain ⟨y0, y1, y2, y3⟩ := T1.four; clear hb1)
      | (go_at_call 107; refine (digBits_any t _ ht2).mono ?_; rw [HA.out]; rintro e w2 ⟨rfl, rfl⟩))
    go_region_held3 (fun w' => (w'.cell? ⟨w.heap.size, 0, none⟩ = some (.int .i64 a.k) ∧ w'.cell? ⟨w.heap.size, 1, none⟩ = some (.int .i64 a.n) ∧ w'.cell? ⟨w.heap.size, 2, none⟩ = some (.int .i64 a.q) ∧ w'.cell? ⟨w.heap.size, 3, none⟩ = some (.string a.s)) ∧ (w'.cell? ⟨w.heap.size + 1, 0, none⟩ = some (.int .i64 b.k) ∧ w'.cell? ⟨w.heap.size + 1, 1, none⟩ = some (.int .i64 b.n) ∧ w'.cell? ⟨w.heap.size + 1, 2, none⟩ = some (.int .i64 b.q) ∧ w'.cell? ⟨w.heap.size + 1, 3, none⟩ = some (.string b.s)))
      (first | go_keep | exact ⟨S3.four, T3.four⟩ | exact ⟨S2.four, T2.four⟩)
      (first
        | (go_at_call 108; first
          | ((with_reducible refine (rFilled_any a.s 5 b.s.size _ la' (by omega)).mono ?_); rintro e w2 ⟨rfl, hb2⟩; have S2 := S1.keep (bl_drew hb2); have T2 := T1.keep (bl_drew hb2); have Z2 := Z1.keep (bl_drew hb2))
          | ((with_reducible refine (rFilled_any b.s 5 b.s.size _ lb' (by omega)).mono ?_); rintro e w3 ⟨rfl, hb3⟩; have S3 := S2.keep hb3; have T3 := T2.keep hb3; have Z3 := Z2.keep hb3)))
    have B3 := Lib.hid (bl_then B1.out (bl_then (bl_drew hb2) hb3))
    have hzx : (bsz (tellL b.s.size (getF 5 a.s.data.toList))).size = b.s.size := by rw [bsz_size, tellL_len]
    have hzy : (bsz (tellL b.s.size (getF 5 b.s.data.toList))).size = b.s.size := by rw [bsz_size, tellL_len]
    have hgx : ∀ i (h : i < (bsz (tellL b.s.size (getF 5 a.s.data.toList))).size), (bsz (tellL b.s.size (getF 5 a.s.data.toList)))[i] = f i := fun i h => by rw [HFF.out]; exact tell_b _ _ i h
    have hgy : ∀ i (h : i < (bsz (tellL b.s.size (getF 5 b.s.data.toList))).size), (bsz (tellL b.s.size (getF 5 b.s.data.toList)))[i] = g i := fun i h => by rw [HGG.out]; exact tell_b _ _ i h
    generalize bsz (tellL b.s.size (getF 5 a.s.data.toList)) = X at *
    generalize bsz (tellL b.s.size (getF 5 b.s.data.toList)) = Y at *
    have HZX := Lib.hid hzx; have HZY := Lib.hid hzy; have HGX := Lib.hid hgx; have HGY := Lib.hid hgy
    have HZ3 := Lib.hid Z3
    clear hzx hzy hgx hgy hb2 hb3 S1 T1 Z1 S2 T2 Z2 S3 T3 Z3 RA RB RZ
    go_wp2
    go_loopw [12, 13] (fun o v wr => ∃ j : Nat, j ≤ b.s.size ∧ v = .int .i64 j ∧ o = .string (bsz (tellL j h)) ∧ Below w3.heap.size w3 wr) (fun _ v _ => b.s.size - (intOf v).toNat)
    case atStart => exact ⟨0, Nat.zero_le _, rfl, rfl, Below.refl _ _⟩
    case round =>
      obtain ⟨j, hj, rfl, rfl, hB⟩ := hrel
      have HBr := Lib.hid hB
      clear hB
      by_cases hlt : j < b.s.size
      · have lx : j < X.size := by rw [HZX.out]; exact hlt
        have ly : j < Y.size := by rw [HZY.out]; exact hlt
        have lx' : (j : Int) < X.size := by omega
        have ly' : (j : Int) < Y.size := by omega
        have ex := Lib.hid (HGX.out j lx)
        have ey := Lib.hid (HGY.out j ly)
        rcases HX0.out j with hx | hx <;> rcases HY0.out j with hy | hy
        · have hbx : X[j] = 48 := ex.out.trans hx
          have hby : Y[j] = 48 := ey.out.trans hy
          have hnx : (X[j].toNat : Int) = 48 := by rw [hbx]; rfl
          have hny : (Y[j].toNat : Int) = 48 := by rw [hby]; rfl
          have hnx' : X[j].toNat = 48 := by rw [hbx]; rfl
          have hny' : Y[j].toNat = 48 := by rw [hby]; rfl
          have hst : tellL j h ++ [bitF t.data.toList 48 48] = tellL (j + 1) h := by rw [tellL_succ, HH.out]; show _ ++ [bitF _ _ _] = _ ++ [bitF _ (f j) (g j)]; rw [hx, hy]
          have s1 : ∀ W, (Op.stringOp .add (bsz (tellL j h)) (t.extract 0 1)).run Try.prog W = .ok (.string (bsz (tellL (j + 1) h))) W := fun W => by
            rw [bitF_at t 48 48 0 (by decide) (by omega)]
            exact bsadd _ _ _ hst (by rw [tellL_len]; omega) (by simp) W
          clear hst hx hy hbx hby
          go_wp2
          go_quiet (fail)
          go_wp2
          go_roundw
          case rel => exact ⟨j + 1, by omega, by go_num, rfl, bl_dN HBr.out _⟩
          case measure => simp [intOf]; omega
        · have hbx : X[j] = 48 := ex.out.trans hx
          have hby : Y[j] = 49 := ey.out.trans hy
          have hnx : (X[j].toNat : Int) = 48 := by rw [hbx]; rfl
          have hny : (Y[j].toNat : Int) = 49 := by rw [hby]; rfl
          have hnx' : X[j].toNat = 48 := by rw [hbx]; rfl
          have hny' : Y[j].toNat = 49 := by rw [hby]; rfl
          have hst : tellL j h ++ [bitF t.data.toList 48 49] = tellL (j + 1) h := by rw [tellL_succ, HH.out]; show _ ++ [bitF _ _ _] = _ ++ [bitF _ (f j) (g j)]; rw [hx, hy]
          have s1 : ∀ W, (Op.stringOp .add (bsz (tellL j h)) (t.extract 1 2)).run Try.prog W = .ok (.string (bsz (tellL (j + 1) h))) W := fun W => by
            rw [bitF_at t 48 49 1 (by decide) (by omega)]
            exact bsadd _ _ _ hst (by rw [tellL_len]; omega) (by simp) W
          clear hst hx hy hbx hby
          go_wp2
          go_quiet (fail)
          go_wp2
          go_roundw
          case rel => exact ⟨j + 1, by omega, by go_num, rfl, bl_dN HBr.out _⟩
          case measure => simp [intOf]; omega
        · have hbx : X[j] = 49 := ex.out.trans hx
          have hby : Y[j] = 48 := ey.out.trans hy
          have hnx : (X[j].toNat : Int) = 49 := by rw [hbx]; rfl
          have hny : (Y[j].toNat : Int) = 48 := by rw [hby]; rfl
          have hnx' : X[j].toNat = 49 := by rw [hbx]; rfl
          have hny' : Y[j].toNat = 48 := by rw [hby]; rfl
          have hst : tellL j h ++ [bitF t.data.toList 49 48] = tellL (j + 1) h := by rw [tellL_succ, HH.out]; show _ ++ [bitF _ _ _] = _ ++ [bitF _ (f j) (g j)]; rw [hx, hy]
          have s1 : ∀ W, (Op.stringOp .add (bsz (tellL j h)) (t.extract 2 3)).run Try.prog W = .ok (.string (bsz (tellL (j + 1) h))) W := fun W => by
            rw [bitF_at t 49 48 2 (by decide) (by omega)]
            exact bsadd _ _ _ hst (by rw [tellL_len]; omega) (by simp) W
          clear hst hx hy hbx hby
          go_wp2
          go_quiet (fail)
          go_wp2
          go_roundw
          case rel => exact ⟨j + 1, by omega, by go_num, rfl, bl_dN HBr.out _⟩
          case measure => simp [intOf]; omega
        · have hbx : X[j] = 49 := ex.out.trans hx
          have hby : Y[j] = 49 := ey.out.trans hy
          have hnx : (X[j].toNat : Int) = 49 := by rw [hbx]; rfl
          have hny : (Y[j].toNat : Int) = 49 := by rw [hby]; rfl
          have hnx' : X[j].toNat = 49 := by rw [hbx]; rfl
          have hny' : Y[j].toNat = 49 := by rw [hby]; rfl
          have hst : tellL j h ++ [bitF t.data.toList 49 49] = tellL (j + 1) h := by rw [tellL_succ, HH.out]; show _ ++ [bitF _ _ _] = _ ++ [bitF _ (f j) (g j)]; rw [hx, hy]
          have s1 : ∀ W, (Op.stringOp .add (bsz (tellL j h)) (t.extract 3 4)).run Try.prog W = .ok (.string (bsz (tellL (j + 1) h))) W := fun W => by
            rw [bitF_at t 49 49 3 (by decide) (by omega)]
            exact bsadd _ _ _ hst (by rw [tellL_len]; omega) (by simp) W
          clear hst hx hy hbx hby
          go_wp2
          go_quiet (fail)
          go_wp2
          go_roundw
          case rel => exact ⟨j + 1, by omega, by go_num, rfl, bl_dN HBr.out _⟩
          case measure => simp [intOf]; omega
      · obtain rfl : j = b.s.size := by omega
        have Z4 := HZ3.out.keep HBr.out
        go_wp2_with (go_at_call 62; refine (made_any _ _ _).mono ?_; rintro e w5 ⟨rfl, hb5⟩; have Z5 := Z4.keep hb5; obtain ⟨z0, z1, z2, z3⟩ := Z5.four; have f0 := Z5.free 0; have f1 := Z5.free 1; have f2 := Z5.free 2; have f3 := Z5.free 3)
        refine bodyPost_ret (v := .tuple #[vlV 5 0 0 (bsz (tellL b.s.size h)), .int .i64 0]) (by simp [results, Try.results39, go_sem, z0, z1, z2, z3]) rfl ⟨rfl, ?_⟩
        (repeat refine Below.setCell ?_ (by simp <;> omega) _)
        exact bl_then B3.out (bl_then HBr.out hb5)
  · rw [Nat.max_eq_left hm]
    have hm2 : (b.s.size : Int) ≤ a.s.size := by omega
    have hm3 : max (a.s.size : Int) b.s.size = a.s.size := by omega
    have lN : a.s.size ≤ 1000 := by omega
    clear hm
    go_enter Try.func39, Try.ntmps39
    go_wp2_with (first
      | (go_at_call 68; refine (rStr2k_any 5 (by decide) a b (w.heap.size + 1 + 1 + 1) 2 _ H1.out H2.out (VlsAt.two (Row.new4 _ _ _ _ _ _)) (by simp <;> omega)).mono ?_; rw [HE.out]; rintro e w1 ⟨rfl, hb1⟩; have B1 := Lib.hid (bl_four (Below.refl _ w) hb1); have S1 := RA.keep hb1; have T1 := RB.keep hb1; have Z1 := RZ.keep hb1; obtain ⟨x0, x1, x2, x3⟩ := S1.four; obtain ⟨y0, y1, y2, y3⟩ := T1.four; clear hb1)
      | (go_at_call 107; refine (digBits_any t _ ht2).mono ?_; rw [HA.out]; rintro e w2 ⟨rfl, rfl⟩))
    go_region_held3 (fun w' => (w'.cell? ⟨w.heap.size, 0, none⟩ = some (.int .i64 a.k) ∧ w'.cell? ⟨w.heap.size, 1, none⟩ = some (.int .i64 a.n) ∧ w'.cell? ⟨w.heap.size, 2, none⟩ = some (.int .i64 a.q) ∧ w'.cell? ⟨w.heap.size, 3, none⟩ = some (.string a.s)) ∧ (w'.cell? ⟨w.heap.size + 1, 0, none⟩ = some (.int .i64 b.k) ∧ w'.cell? ⟨w.heap.size + 1, 1, none⟩ = some (.int .i64 b.n) ∧ w'.cell? ⟨w.heap.size + 1, 2, none⟩ = some (.int .i64 b.q) ∧ w'.cell? ⟨w.heap.size + 1, 3, none⟩ = some (.string b.s)))
      (first | go_keep | exact ⟨S3.four, T3.four⟩ | exact ⟨S2.four, T2.four⟩)
      (first
        | (go_at_call 108; first
          | ((with_reducible refine (rFilled_any a.s 5 a.s.size _ la' (by omega)).mono ?_); rintro e w2 ⟨rfl, hb2⟩; have S2 := S1.keep (bl_drew hb2); have T2 := T1.keep (bl_drew hb2); have Z2 := Z1.keep (bl_drew hb2))
          | ((with_reducible refine (rFilled_any b.s 5 a.s.size _ lb' (by omega)).mono ?_); rintro e w3 ⟨rfl, hb3⟩; have S3 := S2.keep hb3; have T3 := T2.keep hb3; have Z3 := Z2.keep hb3)))
    have B3 := Lib.hid (bl_then B1.out (bl_then (bl_drew hb2) hb3))
    have hzx : (bsz (tellL a.s.size (getF 5 a.s.data.toList))).size = a.s.size := by rw [bsz_size, tellL_len]
    have hzy : (bsz (tellL a.s.size (getF 5 b.s.data.toList))).size = a.s.size := by rw [bsz_size, tellL_len]
    have hgx : ∀ i (h : i < (bsz (tellL a.s.size (getF 5 a.s.data.toList))).size), (bsz (tellL a.s.size (getF 5 a.s.data.toList)))[i] = f i := fun i h => by rw [HFF.out]; exact tell_b _ _ i h
    have hgy : ∀ i (h : i < (bsz (tellL a.s.size (getF 5 b.s.data.toList))).size), (bsz (tellL a.s.size (getF 5 b.s.data.toList)))[i] = g i := fun i h => by rw [HGG.out]; exact tell_b _ _ i h
    generalize bsz (tellL a.s.size (getF 5 a.s.data.toList)) = X at *
    generalize bsz (tellL a.s.size (getF 5 b.s.data.toList)) = Y at *
    have HZX := Lib.hid hzx; have HZY := Lib.hid hzy; have HGX := Lib.hid hgx; have HGY := Lib.hid hgy
    have HZ3 := Lib.hid Z3
    clear hzx hzy hgx hgy hb2 hb3 S1 T1 Z1 S2 T2 Z2 S3 T3 Z3 RA RB RZ
    go_wp2
    go_loopw [12, 13] (fun o v wr => ∃ j : Nat, j ≤ a.s.size ∧ v = .int .i64 j ∧ o = .string (bsz (tellL j h)) ∧ Below w3.heap.size w3 wr) (fun _ v _ => a.s.size - (intOf v).toNat)
    case atStart => exact ⟨0, Nat.zero_le _, rfl, rfl, Below.refl _ _⟩
    case round =>
      obtain ⟨j, hj, rfl, rfl, hB⟩ := hrel
      have HBr := Lib.hid hB
      clear hB
      by_cases hlt : j < a.s.size
      · have lx : j < X.size := by rw [HZX.out]; exact hlt
        have ly : j < Y.size := by rw [HZY.out]; exact hlt
        have lx' : (j : Int) < X.size := by omega
        have ly' : (j : Int) < Y.size := by omega
        have ex := Lib.hid (HGX.out j lx)
        have ey := Lib.hid (HGY.out j ly)
        rcases HX0.out j with hx | hx <;> rcases HY0.out j with hy | hy
        · have hbx : X[j] = 48 := ex.out.trans hx
          have hby : Y[j] = 48 := ey.out.trans hy
          have hnx : (X[j].toNat : Int) = 48 := by rw [hbx]; rfl
          have hny : (Y[j].toNat : Int) = 48 := by rw [hby]; rfl
          have hnx' : X[j].toNat = 48 := by rw [hbx]; rfl
          have hny' : Y[j].toNat = 48 := by rw [hby]; rfl
          have hst : tellL j h ++ [bitF t.data.toList 48 48] = tellL (j + 1) h := by rw [tellL_succ, HH.out]; show _ ++ [bitF _ _ _] = _ ++ [bitF _ (f j) (g j)]; rw [hx, hy]
          have s1 : ∀ W, (Op.stringOp .add (bsz (tellL j h)) (t.extract 0 1)).run Try.prog W = .ok (.string (bsz (tellL (j + 1) h))) W := fun W => by
            rw [bitF_at t 48 48 0 (by decide) (by omega)]
            exact bsadd _ _ _ hst (by rw [tellL_len]; omega) (by simp) W
          clear hst hx hy hbx hby
          go_wp2
          go_quiet (fail)
          go_wp2
          go_roundw
          case rel => exact ⟨j + 1, by omega, by go_num, rfl, bl_dN HBr.out _⟩
          case measure => simp [intOf]; omega
        · have hbx : X[j] = 48 := ex.out.trans hx
          have hby : Y[j] = 49 := ey.out.trans hy
          have hnx : (X[j].toNat : Int) = 48 := by rw [hbx]; rfl
          have hny : (Y[j].toNat : Int) = 49 := by rw [hby]; rfl
          have hnx' : X[j].toNat = 48 := by rw [hbx]; rfl
          have hny' : Y[j].toNat = 49 := by rw [hby]; rfl
          have hst : tellL j h ++ [bitF t.data.toList 48 49] = tellL (j + 1) h := by rw [tellL_succ, HH.out]; show _ ++ [bitF _ _ _] = _ ++ [bitF _ (f j) (g j)]; rw [hx, hy]
          have s1 : ∀ W, (Op.stringOp .add (bsz (tellL j h)) (t.extract 1 2)).run Try.prog W = .ok (.string (bsz (tellL (j + 1) h))) W := fun W => by
            rw [bitF_at t 48 49 1 (by decide) (by omega)]
            exact bsadd _ _ _ hst (by rw [tellL_len]; omega) (by simp) W
          clear hst hx hy hbx hby
          go_wp2
          go_quiet (fail)
          go_wp2
          go_roundw
          case rel => exact ⟨j + 1, by omega, by go_num, rfl, bl_dN HBr.out _⟩
          case measure => simp [intOf]; omega
        · have hbx : X[j] = 49 := ex.out.trans hx
          have hby : Y[j] = 48 := ey.out.trans hy
          have hnx : (X[j].toNat : Int) = 49 := by rw [hbx]; rfl
          have hny : (Y[j].toNat : Int) = 48 := by rw [hby]; rfl
          have hnx' : X[j].toNat = 49 := by rw [hbx]; rfl
          have hny' : Y[j].toNat = 48 := by rw [hby]; rfl
          have hst : tellL j h ++ [bitF t.data.toList 49 48] = tellL (j + 1) h := by rw [tellL_succ, HH.out]; show _ ++ [bitF _ _ _] = _ ++ [bitF _ (f j) (g j)]; rw [hx, hy]
          have s1 : ∀ W, (Op.stringOp .add (bsz (tellL j h)) (t.extract 2 3)).run Try.prog W = .ok (.string (bsz (tellL (j + 1) h))) W := fun W => by
            rw [bitF_at t 49 48 2 (by decide) (by omega)]
            exact bsadd _ _ _ hst (by rw [tellL_len]; omega) (by simp) W
          clear hst hx hy hbx hby
          go_wp2
          go_quiet (fail)
          go_wp2
          go_roundw
          case rel => exact ⟨j + 1, by omega, by go_num, rfl, bl_dN HBr.out _⟩
          case measure => simp [intOf]; omega
        · have hbx : X[j] = 49 := ex.out.trans hx
          have hby : Y[j] = 49 := ey.out.trans hy
          have hnx : (X[j].toNat : Int) = 49 := by rw [hbx]; rfl
          have hny : (Y[j].toNat : Int) = 49 := by rw [hby]; rfl
          have hnx' : X[j].toNat = 49 := by rw [hbx]; rfl
          have hny' : Y[j].toNat = 49 := by rw [hby]; rfl
          have hst : tellL j h ++ [bitF t.data.toList 49 49] = tellL (j + 1) h := by rw [tellL_succ, HH.out]; show _ ++ [bitF _ _ _] = _ ++ [bitF _ (f j) (g j)]; rw [hx, hy]
          have s1 : ∀ W, (Op.stringOp .add (bsz (tellL j h)) (t.extract 3 4)).run Try.prog W = .ok (.string (bsz (tellL (j + 1) h))) W := fun W => by
            rw [bitF_at t 49 49 3 (by decide) (by omega)]
            exact bsadd _ _ _ hst (by rw [tellL_len]; omega) (by simp) W
          clear hst hx hy hbx hby
          go_wp2
          go_quiet (fail)
          go_wp2
          go_roundw
          case rel => exact ⟨j + 1, by omega, by go_num, rfl, bl_dN HBr.out _⟩
          case measure => simp [intOf]; omega
      · obtain rfl : j = a.s.size := by omega
        have Z4 := HZ3.out.keep HBr.out
        go_wp2_with (go_at_call 62; refine (made_any _ _ _).mono ?_; rintro e w5 ⟨rfl, hb5⟩; have Z5 := Z4.keep hb5; obtain ⟨z0, z1, z2, z3⟩ := Z5.four; have f0 := Z5.free 0; have f1 := Z5.free 1; have f2 := Z5.free 2; have f3 := Z5.free 3)
        refine bodyPost_ret (v := .tuple #[vlV 5 0 0 (bsz (tellL a.s.size h)), .int .i64 0]) (by simp [results, Try.results39, go_sem, z0, z1, z2, z3]) rfl ⟨rfl, ?_⟩
        (repeat refine Below.setCell ?_ (by simp <;> omega) _)
        exact bl_then B3.out (bl_then HBr.out hb5)

theorem rBool_any (a b : Vl) (t : ByteArray) (w : World) (hs : a.s.size ≤ maxLen) (hs' : b.s.size ≤ maxLen) (ht : t.size ≤ 100000) :
    Calls Try.prog 39 #[a.v, b.v, .string t] w fun e w' => e = .returned (.tuple #[orV (boolE a b t.data.toList) 5 (boolL a.s.data.toList b.s.data.toList t.data.toList), .int .i64 (boolE a b t.data.toList)]) ∧ Below w.heap.size w w' := by
  by_cases h0 : kindE2 5 a b = 0
  · cases h1 : okTab t.data.toList with
    | false =>
      have e : boolE a b t.data.toList = 7 := by rw [boolE, if_pos h0, h1]; rfl
      rw [e]; exact rBool_tab a b t w hs hs' ht h0 h1
    | true =>
      have e : boolE a b t.data.toList = 0 := by rw [boolE, if_pos h0, h1]; rfl
      rw [e]; exact rBool_ok a b t w hs hs' h0 h1
  · have e : boolE a b t.data.toList = kindE2 5 a b := by rw [boolE, if_neg h0]
    have e2 : orV (kindE2 5 a b) 5 (boolL a.s.data.toList b.s.data.toList t.data.toList) = vlV 0 0 0 ⟨#[]⟩ := by unfold orV; rw [if_neg h0, if_neg h0]
    rw [e, e2]; exact rBool_kind a b t w hs hs' h0
theorem boolE_tab (a b : Vl) {t : List UInt8} (h : okTab t = true) : boolE a b t = kindE2 5 a b := by
  unfold boolE; rw [h]; split <;> simp [*]
theorem kindE2_self (a : Vl) : kindE2 5 a a = kindE1 5 a := by
  unfold kindE2 kindE1; rw [Bool.and_self, Bool.and_self]

set_option maxRecDepth 100000 in
set_option maxHeartbeats 2000000 in
theorem rAnd_any (a b : Vl) (w : World) (hs : a.s.size ≤ maxLen) (hs' : b.s.size ≤ maxLen) :
    Calls Try.prog 51 #[a.v, b.v] w fun e w' => e = .returned (.tuple #[orV (kindE2 5 a b) 5 (boolL a.s.data.toList b.s.data.toList tabAnd), .int .i64 (kindE2 5 a b)]) ∧ Below w.heap.size w w' := by
  have H1 := Lib.hid hs
  have H2 := Lib.hid hs'
  clear hs hs'
  have HC : Hid (∀ W, Calls Try.prog 39 #[a.v, b.v, .string (bsz tabAnd)] W fun e w' => e = .returned (.tuple #[orV (kindE2 5 a b) 5 (boolL a.s.data.toList b.s.data.toList tabAnd), .int .i64 (kindE2 5 a b)]) ∧ Below W.heap.size W w') := by
    show ∀ _, _
    intro W
    have := rBool_any a b (bsz tabAnd) W H1.out H2.out (by decide)
    rwa [show (bsz tabAnd).data.toList = tabAnd from rfl, boolE_tab a b (by decide)] at this
  have RZ := Row.new3 w (.cells (vlC a.k a.n a.q a.s) 23) (.cells (vlC b.k b.n b.q b.s) 23) (vlC 0 0 0 ⟨#[]⟩) 23
  unfold orV at HC ⊢
  generalize kindE2 5 a b = E at HC ⊢
  generalize (if E = 0 then (5 : Int) else 0) = K at HC ⊢
  generalize (if E = 0 then bsz (boolL a.s.data.toList b.s.data.toList tabAnd) else ⟨#[]⟩) = L at HC ⊢
  go_enter Try.func51, Try.ntmps51
  go_wp2_with (go_at_call 39; refine (HC.out _).mono ?_; rintro e w1 ⟨rfl, hb1⟩; have B1 := Lib.hid (bl_box3 (Below.refl _ w) hb1); have Z1 := RZ.keep hb1; obtain ⟨z0, z1, z2, z3⟩ := Z1.four; have f0 := Z1.free 0; have f1 := Z1.free 1; have f2 := Z1.free 2; have f3 := Z1.free 3)
  refine bodyPost_ret (v := .tuple #[vlV K 0 0 L, .int .i64 E]) (by simp [results, Try.results51, go_sem, z0, z1, z2, z3]) rfl ⟨rfl, ?_⟩
  (repeat refine Below.setCell ?_ (by simp <;> omega) _)
  exact B1.out

set_option maxRecDepth 100000 in
set_option maxHeartbeats 2000000 in
theorem rOr_any (a b : Vl) (w : World) (hs : a.s.size ≤ maxLen) (hs' : b.s.size ≤ maxLen) :
    Calls Try.prog 41 #[a.v, b.v] w fun e w' => e = .returned (.tuple #[orV (kindE2 5 a b) 5 (boolL a.s.data.toList b.s.data.toList tabOr), .int .i64 (kindE2 5 a b)]) ∧ Below w.heap.size w w' := by
  have H1 := Lib.hid hs
  have H2 := Lib.hid hs'
  clear hs hs'
  have HC : Hid (∀ W, Calls Try.prog 39 #[a.v, b.v, .string (bsz tabOr)] W fun e w' => e = .returned (.tuple #[orV (kindE2 5 a b) 5 (boolL a.s.data.toList b.s.data.toList tabOr), .int .i64 (kindE2 5 a b)]) ∧ Below W.heap.size W w') := by
    show ∀ _, _
    intro W
    have := rBool_any a b (bsz tabOr) W H1.out H2.out (by decide)
    rwa [show (bsz tabOr).data.toList = tabOr from rfl, boolE_tab a b (by decide)] at this
  have RZ := Row.new3 w (.cells (vlC a.k a.n a.q a.s) 23) (.cells (vlC b.k b.n b.q b.s) 23) (vlC 0 0 0 ⟨#[]⟩) 23
  unfold orV at HC ⊢
  generalize kindE2 5 a b = E at HC ⊢
  generalize (if E = 0 then (5 : Int) else 0) = K at HC ⊢
  generalize (if E = 0 then bsz (boolL a.s.data.toList b.s.data.toList tabOr) else ⟨#[]⟩) = L at HC ⊢
  go_enter Try.func41, Try.ntmps41
  go_wp2_with (go_at_call 39; refine (HC.out _).mono ?_; rintro e w1 ⟨rfl, hb1⟩; have B1 := Lib.hid (bl_box3 (Below.refl _ w) hb1); have Z1 := RZ.keep hb1; obtain ⟨z0, z1, z2, z3⟩ := Z1.four; have f0 := Z1.free 0; have f1 := Z1.free 1; have f2 := Z1.free 2; have f3 := Z1.free 3)
  refine bodyPost_ret (v := .tuple #[vlV K 0 0 L, .int .i64 E]) (by simp [results, Try.results41, go_sem, z0, z1, z2, z3]) rfl ⟨rfl, ?_⟩
  (repeat refine Below.setCell ?_ (by simp <;> omega) _)
  exact B1.out

set_option maxRecDepth 100000 in
set_option maxHeartbeats 2000000 in
theorem rXor_any (a b : Vl) (w : World) (hs : a.s.size ≤ maxLen) (hs' : b.s.size ≤ maxLen) :
    Calls Try.prog 43 #[a.v, b.v] w fun e w' => e = .returned (.tuple #[orV (kindE2 5 a b) 5 (boolL a.s.data.toList b.s.data.toList tabXor), .int .i64 (kindE2 5 a b)]) ∧ Below w.heap.size w w' := by
  have H1 := Lib.hid hs
  have H2 := Lib.hid hs'
  clear hs hs'
  have HC : Hid (∀ W, Calls Try.prog 39 #[a.v, b.v, .string (bsz tabXor)] W fun e w' => e = .returned (.tuple #[orV (kindE2 5 a b) 5 (boolL a.s.data.toList b.s.data.toList tabXor), .int .i64 (kindE2 5 a b)]) ∧ Below W.heap.size W w') := by
    show ∀ _, _
    intro W
    have := rBool_any a b (bsz tabXor) W H1.out H2.out (by decide)
    rwa [show (bsz tabXor).data.toList = tabXor from rfl, boolE_tab a b (by decide)] at this
  have RZ := Row.new3 w (.cells (vlC a.k a.n a.q a.s) 23) (.cells (vlC b.k b.n b.q b.s) 23) (vlC 0 0 0 ⟨#[]⟩) 23
  unfold orV at HC ⊢
  generalize kindE2 5 a b = E at HC ⊢
  generalize (if E = 0 then (5 : Int) else 0) = K at HC ⊢
  generalize (if E = 0 then bsz (boolL a.s.data.toList b.s.data.toList tabXor) else ⟨#[]⟩) = L at HC ⊢
  go_enter Try.func43, Try.ntmps43
  go_wp2_with (go_at_call 39; refine (HC.out _).mono ?_; rintro e w1 ⟨rfl, hb1⟩; have B1 := Lib.hid (bl_box3 (Below.refl _ w) hb1); have Z1 := RZ.keep hb1; obtain ⟨z0, z1, z2, z3⟩ := Z1.four; have f0 := Z1.free 0; have f1 := Z1.free 1; have f2 := Z1.free 2; have f3 := Z1.free 3)
  refine bodyPost_ret (v := .tuple #[vlV K 0 0 L, .int .i64 E]) (by simp [results, Try.results43, go_sem, z0, z1, z2, z3]) rfl ⟨rfl, ?_⟩
  (repeat refine Below.setCell ?_ (by simp <;> omega) _)
  exact B1.out

set_option maxRecDepth 100000 in
set_option maxHeartbeats 2000000 in
theorem rNot_any (a : Vl) (w : World) (hs : a.s.size ≤ maxLen) :
    Calls Try.prog 45 #[a.v] w fun e w' => e = .returned (.tuple #[orV (kindE1 5 a) 5 (notL a.s.data.toList), .int .i64 (kindE1 5 a)]) ∧ Below w.heap.size w w' := by
  have H1 := Lib.hid hs
  clear hs
  have HC : Hid (∀ W, Calls Try.prog 39 #[a.v, a.v, .string (bsz tabNot)] W fun e w' => e = .returned (.tuple #[orV (kindE1 5 a) 5 (notL a.s.data.toList), .int .i64 (kindE1 5 a)]) ∧ Below W.heap.size W w') := by
    show ∀ _, _
    intro W
    have := rBool_any a a (bsz tabNot) W H1.out H1.out (by decide)
    rw [show (bsz tabNot).data.toList = tabNot from rfl, boolE_tab a a (by decide), kindE2_self] at this
    by_cases h0 : kindE1 5 a = 0
    · obtain ⟨oa, ok⟩ := kindE1_ok h0
      have ta : okT 5 a.s.data.toList = true := by have := (okV_eq oa).2.2; rwa [ok] at this
      rwa [not_bool ta] at this
    · unfold orV at this ⊢
      rw [if_neg h0, if_neg h0] at this ⊢
      exact this
  have RZ := Row.new2 w (.cells (vlC a.k a.n a.q a.s) 23) (vlC 0 0 0 ⟨#[]⟩) 23
  unfold orV at HC ⊢
  generalize kindE1 5 a = E at HC ⊢
  generalize (if E = 0 then (5 : Int) else 0) = K at HC ⊢
  generalize (if E = 0 then bsz (notL a.s.data.toList) else ⟨#[]⟩) = L at HC ⊢
  go_enter Try.func45, Try.ntmps45
  go_wp2_with (go_at_call 39; refine (HC.out _).mono ?_; rintro e w1 ⟨rfl, hb1⟩; have B1 := Lib.hid (bl_box2 (Below.refl _ w) hb1); have Z1 := RZ.keep hb1; obtain ⟨z0, z1, z2, z3⟩ := Z1.four; have f0 := Z1.free 0; have f1 := Z1.free 1; have f2 := Z1.free 2; have f3 := Z1.free 3)
  refine bodyPost_ret (v := .tuple #[vlV K 0 0 L, .int .i64 E]) (by simp [results, Try.results45, go_sem, z0, z1, z2, z3]) rfl ⟨rfl, ?_⟩
  (repeat refine Below.setCell ?_ (by simp <;> omega) _)
  exact B1.out
end Go.Proofs.Ytgoghblfficfpaa
