/- The document's Translate. -/
import Derived.Test.YtgoghblfficfpaaBitRSet
import Derived.Test.YtgoghblfficfpaaBitRBool0
namespace Go.Proofs.Ytgoghblfficfpaa
open Go.RowKit

theorem inN_in {l : List UInt8} {c : UInt8} (h : l.contains c = true) : inN l c = l.idxOf c + 1 := if_pos h
theorem inN_out {l : List UInt8} {c : UInt8} (h : l.contains c = false) : inN l c = 0 := if_neg (by rw [h]; decide)
theorem in_is (s : ByteArray) (c : UInt8) (m : Int) (hm : (inN s.data.toList c : Int) = m) (hs : s.size ≤ 100000) (w : World) :
    Calls Try.prog 83 #[.string s, .int .u8 c.toNat] w fun e w' => e = .returned (.int .i64 m) ∧ w' = w := by
  rw [← hm]; exact in_any s c w hs

set_option maxRecDepth 100000 in
set_option maxHeartbeats 8000000 in
theorem rTrans_any (a t f : Vl) (w : World) (hs : a.s.size ≤ maxLen) (hs' : t.s.size ≤ maxLen) (hs'' : f.s.size ≤ maxLen) :
    Calls Try.prog 26 #[a.v, t.v, f.v] w fun e w' => e = .returned (.tuple #[orV (alikeE3 a t f) a.k (trL a.k a.s.data.toList t.s.data.toList f.s.data.toList), .int .i64 (alikeE3 a t f)]) ∧ Below w.heap.size w w' := by
  have RA := ((((Row.new w (vlC a.k a.n a.q a.s) 23).alloc (.cells (vlC t.k t.n t.q t.s) 23)).alloc (.cells (vlC f.k f.n f.q f.s) 23)).alloc (.cells (vlC 0 0 0 ⟨#[]⟩) 23)).alloc (.cells #[.int .i64 a.k, .int .i64 a.n, .int .i64 a.q, .string a.s, .int .i64 t.k, .int .i64 t.n, .int .i64 t.q, .string t.s, .int .i64 f.k, .int .i64 f.n, .int .i64 f.q, .string f.s] 23)
  have RT := (((Row.new2 w (.cells (vlC a.k a.n a.q a.s) 23) (vlC t.k t.n t.q t.s) 23).alloc (.cells (vlC f.k f.n f.q f.s) 23)).alloc (.cells (vlC 0 0 0 ⟨#[]⟩) 23)).alloc (.cells #[.int .i64 a.k, .int .i64 a.n, .int .i64 a.q, .string a.s, .int .i64 t.k, .int .i64 t.n, .int .i64 t.q, .string t.s, .int .i64 f.k, .int .i64 f.n, .int .i64 f.q, .string f.s] 23)
  have RF := ((Row.new3 w (.cells (vlC a.k a.n a.q a.s) 23) (.cells (vlC t.k t.n t.q t.s) 23) (vlC f.k f.n f.q f.s) 23).alloc (.cells (vlC 0 0 0 ⟨#[]⟩) 23)).alloc (.cells #[.int .i64 a.k, .int .i64 a.n, .int .i64 a.q, .string a.s, .int .i64 t.k, .int .i64 t.n, .int .i64 t.q, .string t.s, .int .i64 f.k, .int .i64 f.n, .int .i64 f.q, .string f.s] 23)
  have RZ := (Row.new4 w (.cells (vlC a.k a.n a.q a.s) 23) (.cells (vlC t.k t.n t.q t.s) 23) (.cells (vlC f.k f.n f.q f.s) 23) (vlC 0 0 0 ⟨#[]⟩) 23).alloc (.cells #[.int .i64 a.k, .int .i64 a.n, .int .i64 a.q, .string a.s, .int .i64 t.k, .int .i64 t.n, .int .i64 t.q, .string t.s, .int .i64 f.k, .int .i64 f.n, .int .i64 f.q, .string f.s] 23)
  have H1 := Lib.hid hs
  have H2 := Lib.hid hs'
  have H3 := Lib.hid hs''
  clear hs hs' hs''
  by_cases h0 : alikeE3 a t f = 0
  · obtain ⟨oa, ob, oc, ok, ok'⟩ := alikeE3_ok h0
    have la := vl_room2 a oa
    have lb := vl_room2 t ob
    have lc := vl_le oc
    have HE := Lib.hid h0
    have HL : Hid (trL a.k a.s.data.toList t.s.data.toList f.s.data.toList = tellL a.s.size (trF a.k a.s.data.toList t.s.data.toList f.s.data.toList)) := by show _ = _; unfold trL; rw [lsz]
    rw [h0, HL.out]
    obtain ⟨F, hF⟩ : ∃ F, trF a.k a.s.data.toList t.s.data.toList f.s.data.toList = F := ⟨_, rfl⟩
    rw [hF]
    have HF := Lib.hid hF
    have HZ0 : Hid (⟨#[]⟩ = bsz (tellL 0 F)) := Lib.hid rfl
    clear oa ob oc ok ok' h0 hF
    show Calls _ _ _ _ fun e w' => e = .returned (.tuple #[vlV a.k 0 0 (bsz (tellL a.s.size F)), .int .i64 0]) ∧ Below w.heap.size w w'
    go_enter Try.func26, Try.ntmps26
    go_wp2_with (go_at_call 68; refine (rStr3_any a t f (w.heap.size + 1 + 1 + 1 + 1) 3 _ H1.out H2.out H3.out (VlsAt.three (Row.new5 _ _ _ _ _ _ _)) (by simp <;> omega)).mono ?_; rw [HE.out]; rintro e w1 ⟨rfl, hb1⟩; have B1 : Below w.heap.size w w1 := below_then (by go_grown) hb1 (by simp <;> omega); have A1 := RA.keep hb1; have T1 := RT.keep hb1; have F1 := RF.keep hb1; have Z1 := RZ.keep hb1)
    have B1' := Lib.hid B1
    clear hb1 B1 RA RT RF RZ
    go_loopw [9, 10] (fun o v wr => ∃ j : Nat, j ≤ a.s.size ∧ v = .int .i64 j ∧ o = .string (bsz (tellL j F)) ∧ Row wr w.heap.size (vlC a.k a.n a.q a.s) 23 ∧ Row wr (w.heap.size + 1) (vlC t.k t.n t.q t.s) 23 ∧ Row wr (w.heap.size + 1 + 1) (vlC f.k f.n f.q f.s) 23 ∧ Row wr (w.heap.size + 1 + 1 + 1) (vlC 0 0 0 ⟨#[]⟩) 23 ∧ Below w.heap.size w wr) (fun _ v _ => a.s.size - (intOf v).toNat)
    case atStart => exact ⟨0, Nat.zero_le _, rfl, by rw [← HZ0.out], A1, T1, F1, Z1, B1'.out⟩
    case round =>
      obtain ⟨j, hj, rfl, rfl, hS, hT, hF, hZ, hB⟩ := hrel
      obtain ⟨x0, x1, x2, x3⟩ := hS.four
      have y3 := hT.four.2.2.2
      have u3 := hF.four.2.2.2
      have HB := Lib.hid hB
      clear hB
      by_cases hlt : j < a.s.size
      · have hx := ext_one a.s j hlt
        have hl1 : (tellL j F).length ≤ 250 := by rw [tellL_len]; omega
        have hsc := tellL_succ j F
        have i1 : (j : Int) < a.s.size := by omega
        have hg := getF_b a.k a.s j hlt
        cases hc : f.s.data.toList.contains a.s[j] with
        | true =>
          have hle := List.idxOf_le_length (a := a.s[j]) (l := f.s.data.toList)
          rw [lsz] at hle
          have hFj : F j = getF a.k t.s.data.toList (f.s.data.toList.idxOf a.s[j]) := by rw [← HF.out, trF, hg, hc]; rfl
          have hin : (inN f.s.data.toList a.s[j] : Int) = ((f.s.data.toList.idxOf a.s[j] : Nat) : Int) + 1 := by rw [inN_in hc]; rfl
          obtain ⟨N, hN⟩ : ∃ N, f.s.data.toList.idxOf a.s[j] = N := ⟨_, rfl⟩
          rw [hN] at hle hFj hin
          have hN2 : N ≤ 100000 := by omega
          have HC : Hid (∀ W, Calls Try.prog 83 #[.string f.s, .int .u8 a.s[j].toNat] W fun e w' => e = .returned (.int .i64 ((N : Int) + 1)) ∧ w' = W) := Lib.hid fun W => in_is f.s a.s[j] _ hin lc W
          have d1 : decide ((0 : Int) < (N : Int) + 1) = true := by simp only [decide_eq_true_eq]; omega
          have d1' : (0 : Int) < (N : Int) + 1 := by omega
          have d1'' : (0 : Int) ≤ (N : Int) := by omega
          by_cases c3 : N < t.s.size
          · have hy := ext_one t.s N c3
            have c3' : (N : Int) < t.s.size := by omega
            have c4' : (N : Int) + 1 ≤ t.s.size := by omega
            have s1 : ∀ W, (Op.stringOp .add (bsz (tellL j F)) (t.s.extract N (N + 1))).run Try.prog W = .ok (.string (bsz (tellL (j + 1) F))) W := fun W => by
              rw [hy]; exact bsadd _ [t.s[N]] _ (by rw [hsc, hFj, getF_b a.k t.s N c3]) (by omega) (by simp) W
            have d3 : decide ((N : Int) + 1 ≤ t.s.size) = true := decide_eq_true c4'
            have d3' : decide ((N : Int) < t.s.size) = true := decide_eq_true c3'
            have d4 : decide (N < t.s.size) = true := decide_eq_true c3
            have d4' : decide (N + 1 ≤ t.s.size) = true := decide_eq_true c3
            clear hx hl1 hsc hg hc hle hFj hin hN hy
            go_wp2
            go_quiet ((go_at_call 83; exact Calls.quiet_of_same (HC.out _)))
            have x0' := hS.four.1
            go_wp2_with (go_at_call 69; refine (filler_any _ _).mono ?_; rintro e w2 ⟨rfl, rfl⟩)
            go_roundw
            case rel => exact ⟨j + 1, by omega, by go_num, rfl, hS, hT, hF, hZ, bl_dN HB.out _⟩
            case measure => simp [intOf]; omega
          · have c3' : (t.s.size : Int) ≤ N := by omega
            have s1 : ∀ W, (Op.stringOp .add (bsz (tellL j F)) (bsz [fillC a.k])).run Try.prog W = .ok (.string (bsz (tellL (j + 1) F))) W := fun W =>
              bsadd _ [fillC a.k] _ (by rw [hsc, hFj, getF_ge (by rw [lsz]; omega)]) (by omega) (by simp) W
            have d3 : decide ((N : Int) + 1 ≤ t.s.size) = false := by simp only [decide_eq_false_iff_not]; omega
            have d3' : decide ((N : Int) < t.s.size) = false := by simp only [decide_eq_false_iff_not]; omega
            have d4 : decide (N < t.s.size) = false := by simp only [decide_eq_false_iff_not]; omega
            have d4' : decide (N + 1 ≤ t.s.size) = false := by simp only [decide_eq_false_iff_not]; omega
            clear hx hl1 hsc hg hc hle hFj hin hN c3
            go_wp2
            go_quiet ((go_at_call 83; exact Calls.quiet_of_same (HC.out _)))
            go_wp2_with (go_at_call 69; refine (filler_any _ _).mono ?_; rintro e w2 ⟨rfl, rfl⟩)
            go_roundw
            case rel => exact ⟨j + 1, by omega, by go_num, rfl, hS, hT, hF, hZ, bl_dN HB.out _⟩
            case measure => simp [intOf]; omega
        | false =>
          have hFj : F j = a.s[j] := by rw [← HF.out, trF, hg, hc]; rfl
          have hin : (inN f.s.data.toList a.s[j] : Int) = 0 := by rw [inN_out hc]; rfl
          have HC : Hid (∀ W, Calls Try.prog 83 #[.string f.s, .int .u8 a.s[j].toNat] W fun e w' => e = .returned (.int .i64 0) ∧ w' = W) := Lib.hid fun W => in_is f.s a.s[j] _ hin lc W
          have s1 : ∀ W, (Op.stringOp .add (bsz (tellL j F)) (a.s.extract j (j + 1))).run Try.prog W = .ok (.string (bsz (tellL (j + 1) F))) W := fun W => by
            rw [hx]; exact bsadd _ [a.s[j]] _ (by rw [hsc, hFj]) (by omega) (by simp) W
          clear hx hl1 hsc hg hc hFj hin
          go_wp2
          go_quiet ((go_at_call 83; exact Calls.quiet_of_same (HC.out _)))
          go_wp2
          go_roundw
          case rel => exact ⟨j + 1, by omega, by go_num, rfl, hS, hT, hF, hZ, bl_dN HB.out _⟩
          case measure => simp [intOf]; omega
      · obtain rfl : j = a.s.size := by omega
        go_wp2_with (go_at_call 62; refine (made_any _ _ _).mono ?_; rintro e w3 ⟨rfl, hb3⟩; have Z3 := hZ.keep hb3; obtain ⟨z0, z1, z2, z3⟩ := Z3.four; have f0 := Z3.free 0; have f1 := Z3.free 1; have f2 := Z3.free 2; have f3 := Z3.free 3)
        refine bodyPost_ret (v := .tuple #[vlV a.k 0 0 (bsz (tellL a.s.size F)), .int .i64 0]) (by simp [results, Try.results26, go_sem, z0, z1, z2, z3]) rfl ⟨rfl, ?_⟩
        (repeat refine Below.setCell ?_ (by simp <;> omega) _)
        exact bl_then HB.out hb3
  · have e1 : (alikeE3 a t f != 0) = true := by simpa using h0
    have e2 : (alikeE3 a t f == 0) = false := by simpa using h0
    rw [orV, if_neg h0, if_neg h0]
    generalize hE : alikeE3 a t f = E at e1 e2 ⊢
    have HE := Lib.hid hE
    clear h0 hE
    go_enter Try.func26, Try.ntmps26
    go_wp2_with (go_at_call 68; refine (rStr3_any a t f (w.heap.size + 1 + 1 + 1 + 1) 3 _ H1.out H2.out H3.out (VlsAt.three (Row.new5 _ _ _ _ _ _ _)) (by simp <;> omega)).mono ?_; rw [HE.out]; rintro e w1 ⟨rfl, hb1⟩; have B1 : Below w.heap.size w w1 := below_then (by go_grown) hb1 (by simp <;> omega); have Z1 := RZ.keep hb1; obtain ⟨z0, z1, z2, z3⟩ := Z1.four; have f0 := Z1.free 0; have f1 := Z1.free 1; have f2 := Z1.free 2; have f3 := Z1.free 3)
    refine bodyPost_ret (v := .tuple #[vlV 0 0 0 ⟨#[]⟩, .int .i64 E]) (by simp [results, Try.results26, go_sem, z0, z1, z2, z3]) rfl ⟨rfl, ?_⟩
    (repeat refine Below.setCell ?_ (by simp <;> omega) _)
    exact B1
end Go.Proofs.Ytgoghblfficfpaa
