/- The document's Join, row, Low, High; Low and High of package bits. -/
import Derived.Test.YtgoghblfficfpaaBitMake3
import Derived.Test.YtgoghblfficfpaaBitRBool0
namespace Go.Proofs.Ytgoghblfficfpaa
open Go.RowKit

set_option maxRecDepth 100000 in
set_option maxHeartbeats 4000000 in
theorem rJoin_any (a b : Vl) (w : World) (hs : a.s.size ≤ maxLen) (hs' : b.s.size ≤ maxLen) :
    Calls Try.prog 36 #[a.v, b.v] w fun e w' => e = .returned (.tuple #[orV (joinE a b) a.k (a.s.data.toList ++ b.s.data.toList), .int .i64 (joinE a b)]) ∧ Below w.heap.size w w' := by
  have H1 := Lib.hid hs
  have H2 := Lib.hid hs'
  clear hs hs'
  have RA := ((Row.new w (vlC a.k a.n a.q a.s) 23).alloc (.cells (vlC b.k b.n b.q b.s) 23)).alloc (.cells (vlC 0 0 0 ⟨#[]⟩) 23) |>.alloc (.cells #[.int .i64 a.k, .int .i64 a.n, .int .i64 a.q, .string a.s, .int .i64 b.k, .int .i64 b.n, .int .i64 b.q, .string b.s] 23)
  have RB := ((Row.new2 w (.cells (vlC a.k a.n a.q a.s) 23) (vlC b.k b.n b.q b.s) 23).alloc (.cells (vlC 0 0 0 ⟨#[]⟩) 23)).alloc (.cells #[.int .i64 a.k, .int .i64 a.n, .int .i64 a.q, .string a.s, .int .i64 b.k, .int .i64 b.n, .int .i64 b.q, .string b.s] 23)
  have RZ := (Row.new3 w (.cells (vlC a.k a.n a.q a.s) 23) (.cells (vlC b.k b.n b.q b.s) 23) (vlC 0 0 0 ⟨#[]⟩) 23).alloc (.cells #[.int .i64 a.k, .int .i64 a.n, .int .i64 a.q, .string a.s, .int .i64 b.k, .int .i64 b.n, .int .i64 b.q, .string b.s] 23)
  by_cases h0 : alikeE a b = 0
  · obtain ⟨oa, ob, ok⟩ := alikeE_ok h0
    have la : a.s.size ≤ 1000 := by have := okT_len (okV_eq oa).2.2; rw [lsz] at this; omega
    have lb : b.s.size ≤ 1000 := by have := okT_len (okV_eq ob).2.2; rw [lsz] at this; omega
    have HE := Lib.hid h0
    have hw : IntKind.i64.wrap ((a.s.size : Int) + (b.s.size : Int)) = (a.s.size : Int) + (b.s.size : Int) := IntWalk.i64_in _ (by omega)
    have s1 : ∀ W, (Op.stringOp .add a.s b.s).run Try.prog W = .ok (.string (bsz (a.s.data.toList ++ b.s.data.toList))) W := fun W =>
      bsadd a.s.data.toList b.s.data.toList _ rfl (by rw [lsz]; omega) (by rw [lsz]; omega) W
    by_cases hl : a.s.size + b.s.size ≤ 250
    · rw [joinE_of h0 hl]
      have d1 : decide (250 < (a.s.size : Int) + (b.s.size : Int)) = false := by simp only [decide_eq_false_iff_not]; omega
      clear oa ob ok h0 hl
      show Calls _ _ _ _ fun e w' => e = .returned (.tuple #[vlV a.k 0 0 (bsz (a.s.data.toList ++ b.s.data.toList)), .int .i64 0]) ∧ Below w.heap.size w w'
      go_enter Try.func36, Try.ntmps36
      go_wp2_with (first
        | (go_at_call 68; refine (rStr2_any a b (w.heap.size + 1 + 1 + 1) 2 _ H1.out H2.out (VlsAt.two (Row.new4 _ _ _ _ _ _)) (by simp <;> omega)).mono ?_; rw [HE.out]; rintro e w1 ⟨rfl, hb1⟩; have B1 := Lib.hid (bl_four (Below.refl _ w) hb1); have S1 := RA.keep hb1; have T1 := RB.keep hb1; have Z1 := RZ.keep hb1; obtain ⟨x0, x1, x2, x3⟩ := S1.four; obtain ⟨y0, y1, y2, y3⟩ := T1.four)
        | (go_at_call 62; refine (made_any _ _ _).mono ?_; rintro e w2 ⟨rfl, hb2⟩; have B2 := Lib.hid (bl_then B1.out hb2); have Z2 := Z1.keep hb2; obtain ⟨z0, z1, z2, z3⟩ := Z2.four; have f0 := Z2.free 0; have f1 := Z2.free 1; have f2 := Z2.free 2; have f3 := Z2.free 3))
      refine bodyPost_ret (v := .tuple #[vlV a.k 0 0 (bsz (a.s.data.toList ++ b.s.data.toList)), .int .i64 0]) (by simp [results, Try.results36, go_sem, z0, z1, z2, z3]) rfl ⟨rfl, ?_⟩
      (repeat refine Below.setCell ?_ (by simp <;> omega) _)
      exact B2.out
    · rw [joinE_long h0 hl]
      have d1 : decide (250 < (a.s.size : Int) + (b.s.size : Int)) = true := by simp only [decide_eq_true_eq]; omega
      have d2 : 250 < (a.s.size : Int) + (b.s.size : Int) := by omega
      clear oa ob ok h0 hl
      show Calls _ _ _ _ fun e w' => e = .returned (.tuple #[vlV 0 0 0 ⟨#[]⟩, .int .i64 3]) ∧ Below w.heap.size w w'
      go_enter Try.func36, Try.ntmps36
      go_wp2_with (first
        | (go_at_call 68; refine (rStr2_any a b (w.heap.size + 1 + 1 + 1) 2 _ H1.out H2.out (VlsAt.two (Row.new4 _ _ _ _ _ _)) (by simp <;> omega)).mono ?_; rw [HE.out]; rintro e w1 ⟨rfl, hb1⟩; have B1 := Lib.hid (bl_four (Below.refl _ w) hb1); have S1 := RA.keep hb1; have T1 := RB.keep hb1; have Z1 := RZ.keep hb1; obtain ⟨x0, x1, x2, x3⟩ := S1.four; obtain ⟨y0, y1, y2, y3⟩ := T1.four; obtain ⟨z0, z1, z2, z3⟩ := Z1.four; have f0 := Z1.free 0; have f1 := Z1.free 1; have f2 := Z1.free 2; have f3 := Z1.free 3))
      refine bodyPost_ret (v := .tuple #[vlV 0 0 0 ⟨#[]⟩, .int .i64 3]) (by simp [results, Try.results36, go_sem, z0, z1, z2, z3]) rfl ⟨rfl, ?_⟩
      (repeat refine Below.setCell ?_ (by simp <;> omega) _)
      exact B1.out
  · rw [joinE_no h0, show orV (alikeE a b) a.k (a.s.data.toList ++ b.s.data.toList) = vlV 0 0 0 ⟨#[]⟩ by unfold orV; rw [if_neg h0, if_neg h0]]
    have e1 : (alikeE a b != 0) = true := by simpa using h0
    have e2 : (alikeE a b == 0) = false := by simpa using h0
    clear h0
    go_enter Try.func36, Try.ntmps36
    go_wp2_with (go_at_call 68; refine (rStr2_any a b (w.heap.size + 1 + 1 + 1) 2 _ H1.out H2.out (VlsAt.two (Row.new4 _ _ _ _ _ _)) (by simp <;> omega)).mono ?_; rintro e w1 ⟨rfl, hb1⟩; have B1 := Lib.hid (bl_four (Below.refl _ w) hb1); have Z1 := RZ.keep hb1; obtain ⟨z0, z1, z2, z3⟩ := Z1.four; have f0 := Z1.free 0; have f1 := Z1.free 1; have f2 := Z1.free 2; have f3 := Z1.free 3)
    refine bodyPost_ret (v := .tuple #[vlV 0 0 0 ⟨#[]⟩, .int .i64 (alikeE a b)]) (by simp [results, Try.results36, go_sem, z0, z1, z2, z3]) rfl ⟨rfl, ?_⟩
    (repeat refine Below.setCell ?_ (by simp <;> omega) _)
    exact B1.out

set_option maxRecDepth 100000 in
set_option maxHeartbeats 4000000 in
theorem rRow_any (n : Int) (c : UInt8) (w : World) :
    Calls Try.prog 96 #[.int .i64 n, .string (bsz [c])] w fun e w' => e = .returned (.tuple #[orV (rowE n) 4 (tellL n.toNat (fun _ => c)), .int .i64 (rowE n)]) ∧ Below w.heap.size w w' := by
  have RZ := Row.new w (vlC 0 0 0 ⟨#[]⟩) 23
  by_cases hn : 0 ≤ n ∧ n ≤ 250
  · rw [show rowE n = 0 from if_pos hn]
    obtain ⟨N, rfl⟩ := Int.eq_ofNat_of_zero_le hn.1
    rw [show ((N : Int)).toNat = N from rfl]
    obtain ⟨q0, q1⟩ := hn
    have d1 : decide ((N : Int) < 0) = false := by simp only [decide_eq_false_iff_not]; omega
    have d2 : decide (250 < (N : Int)) = false := by simp only [decide_eq_false_iff_not]; omega
    have HZ0 : Hid (⟨#[]⟩ = bsz (tellL 0 (fun _ => c))) := Lib.hid rfl
    show Calls _ _ _ _ fun e w' => e = .returned (.tuple #[vlV 4 0 0 (bsz (tellL N (fun _ => c))), .int .i64 0]) ∧ Below w.heap.size w w'
    go_enter Try.func96, Try.ntmps96
    go_wp2
    go_loop [6] (fun o => ∃ j : Nat, j ≤ N ∧ o = .string (bsz (tellL j (fun _ => c)))) (fun o => N - (match o with | .string x => x.size | _ => 0))
    case atStart => exact ⟨0, Nat.zero_le _, by rw [← HZ0.out]⟩
    case round =>
      obtain ⟨j, hj, rfl⟩ := hrel
      have hlen : (bsz (tellL j (fun _ => c))).size = j := by rw [bsz_size, tellL_len]
      by_cases hlt : j < N
      · have s1 := fun W => bsadd (tellL j (fun _ => c)) [c] (tellL (j + 1) (fun _ => c)) (tellL_succ j (fun _ => c)).symm (by rw [tellL_len]; omega) (by simp) W
        go_wp2
        go_round
        case rel => exact ⟨j + 1, by omega, rfl⟩
        case measure => simp [bsz_size, tellL_len]; omega
      · obtain rfl : j = N := by omega
        go_wp2_with (go_at_call 62; refine (made_any _ _ _).mono ?_; rintro e w2 ⟨rfl, hb2⟩; have B2 := Lib.hid (bl_box (Below.refl _ w) hb2); have Z2 := RZ.keep hb2; obtain ⟨z0, z1, z2, z3⟩ := Z2.four; have f0 := Z2.free 0; have f1 := Z2.free 1; have f2 := Z2.free 2; have f3 := Z2.free 3)
        refine bodyPost_ret (v := .tuple #[vlV 4 0 0 (bsz (tellL j (fun _ => c))), .int .i64 0]) (by simp [results, Try.results96, go_sem, z0, z1, z2, z3]) rfl ⟨rfl, ?_⟩
        (repeat refine Below.setCell ?_ (by simp <;> omega) _)
        exact B2.out
  · rw [show rowE n = 7 from if_neg hn]
    show Calls _ _ _ _ fun e w' => e = .returned (.tuple #[vlV 0 0 0 ⟨#[]⟩, .int .i64 7]) ∧ Below w.heap.size w w'
    by_cases h1 : n < 0
    · have d1 : decide (n < 0) = true := decide_eq_true h1
      clear hn
      go_enter Try.func96, Try.ntmps96
      go_wp2
      exact bodyPost_ret (v := .tuple #[vlV 0 0 0 ⟨#[]⟩, .int .i64 7]) (by simp [results, Try.results96, go_sem]) rfl ⟨rfl, by go_grown⟩
    · have d1 : decide (n < 0) = false := decide_eq_false h1
      have h2 : 250 < n := by omega
      have d2 : decide (250 < n) = true := decide_eq_true h2
      clear hn
      go_enter Try.func96, Try.ntmps96
      go_wp2
      exact bodyPost_ret (v := .tuple #[vlV 0 0 0 ⟨#[]⟩, .int .i64 7]) (by simp [results, Try.results96, go_sem]) rfl ⟨rfl, by go_grown⟩

set_option maxRecDepth 100000 in
set_option maxHeartbeats 2000000 in
theorem rLow_any (n : Int) (w : World) :
    Calls Try.prog 32 #[.int .i64 n] w fun e w' => e = .returned (.tuple #[orV (rowE n) 4 (tellL n.toNat (fun _ => 32)), .int .i64 (rowE n)]) ∧ Below w.heap.size w w' := by
  have RZ := Row.new w (vlC 0 0 0 ⟨#[]⟩) 23
  have HC : Hid (∀ W, Calls Try.prog 96 #[.int .i64 n, .string ⟨#[32]⟩] W fun e w' => e = .returned (.tuple #[orV (rowE n) 4 (tellL n.toNat (fun _ => 32)), .int .i64 (rowE n)]) ∧ Below W.heap.size W w') := Lib.hid (fun W => rRow_any n 32 W)
  unfold orV at HC ⊢
  generalize rowE n = E at HC ⊢
  generalize (if E = 0 then (4 : Int) else 0) = K at HC ⊢
  generalize (if E = 0 then bsz (tellL n.toNat (fun _ => (32 : UInt8))) else ⟨#[]⟩) = L at HC ⊢
  go_enter Try.func32, Try.ntmps32
  go_wp2_with (go_at_call 96; refine (HC.out _).mono ?_; rintro e w2 ⟨rfl, hb2⟩; have B2 := Lib.hid (bl_box (Below.refl _ w) hb2); have Z2 := RZ.keep hb2; obtain ⟨z0, z1, z2, z3⟩ := Z2.four; have f0 := Z2.free 0; have f1 := Z2.free 1; have f2 := Z2.free 2; have f3 := Z2.free 3)
  refine bodyPost_ret (v := .tuple #[vlV K 0 0 L, .int .i64 E]) (by simp [results, Try.results32, go_sem, z0, z1, z2, z3]) rfl ⟨rfl, ?_⟩
  (repeat refine Below.setCell ?_ (by simp <;> omega) _)
  exact B2.out
set_option maxRecDepth 100000 in
set_option maxHeartbeats 2000000 in
theorem bLow_any (n : Int) (w : World) :
    Calls Try.prog 31 #[.int .i64 n] w fun e w' => e = .returned (.tuple #[orV (rowE n) 4 (tellL n.toNat (fun _ => 32)), .int .i64 (rowE n)]) ∧ Below w.heap.size w w' := by
  have RZ := Row.new w (vlC 0 0 0 ⟨#[]⟩) 23
  have HS : Hid (∀ W, Calls Try.prog 94 #[.iface 94 (.agg #[])] W fun e w' => e = .returned (.tuple #[.agg #[.int .u8 32, .int .u8 126], .bool true]) ∧ Below W.heap.size W w') := Lib.hid (fun W => spanOf_4 W)
  have HC : Hid (∀ W, Calls Try.prog 95 #[.int .i64 n, .int .u8 32] W fun e w' => e = .returned (.tuple #[orV (rowE n) 4 (tellL n.toNat (fun _ => 32)), .int .i64 (rowE n)]) ∧ Below W.heap.size W w') := Lib.hid (fun W => bRow_any n 32 W)
  unfold orV at HC ⊢
  generalize rowE n = E at HC ⊢
  generalize (if E = 0 then (4 : Int) else 0) = K at HC ⊢
  generalize (if E = 0 then bsz (tellL n.toNat (fun _ => (32 : UInt8))) else ⟨#[]⟩) = L at HC ⊢
  go_enter Try.func31, Try.ntmps31
  go_wp2_with (first
    | (go_at_call 94; refine (HS.out _).mono ?_; rintro e w1 ⟨rfl, hb1⟩; have B1 := Lib.hid (bl_box (Below.refl _ w) hb1); have Z1 := RZ.keep hb1; have lz1 := Z1.lt)
    | (go_at_call 95; refine (HC.out _).mono ?_; rintro e w2 ⟨rfl, hb2⟩; have B2 := Lib.hid (bl_box B1.out hb2); have Z2 := (Z1.alloc _).keep hb2; obtain ⟨z0, z1, z2, z3⟩ := Z2.four; have f0 := Z2.free 0; have f1 := Z2.free 1; have f2 := Z2.free 2; have f3 := Z2.free 3))
  refine bodyPost_ret (v := .tuple #[vlV K 0 0 L, .int .i64 E]) (by simp [results, Try.results31, go_sem, z0, z1, z2, z3]) rfl ⟨rfl, ?_⟩
  (repeat refine Below.setCell ?_ (by simp <;> omega) _)
  exact B2.out

set_option maxRecDepth 100000 in
set_option maxHeartbeats 2000000 in
theorem rHigh_any (n : Int) (w : World) :
    Calls Try.prog 34 #[.int .i64 n] w fun e w' => e = .returned (.tuple #[orV (rowE n) 4 (tellL n.toNat (fun _ => 126)), .int .i64 (rowE n)]) ∧ Below w.heap.size w w' := by
  have RZ := Row.new w (vlC 0 0 0 ⟨#[]⟩) 23
  have HC : Hid (∀ W, Calls Try.prog 96 #[.int .i64 n, .string ⟨#[126]⟩] W fun e w' => e = .returned (.tuple #[orV (rowE n) 4 (tellL n.toNat (fun _ => 126)), .int .i64 (rowE n)]) ∧ Below W.heap.size W w') := Lib.hid (fun W => rRow_any n 126 W)
  unfold orV at HC ⊢
  generalize rowE n = E at HC ⊢
  generalize (if E = 0 then (4 : Int) else 0) = K at HC ⊢
  generalize (if E = 0 then bsz (tellL n.toNat (fun _ => (126 : UInt8))) else ⟨#[]⟩) = L at HC ⊢
  go_enter Try.func34, Try.ntmps34
  go_wp2_with (go_at_call 96; refine (HC.out _).mono ?_; rintro e w2 ⟨rfl, hb2⟩; have B2 := Lib.hid (bl_box (Below.refl _ w) hb2); have Z2 := RZ.keep hb2; obtain ⟨z0, z1, z2, z3⟩ := Z2.four; have f0 := Z2.free 0; have f1 := Z2.free 1; have f2 := Z2.free 2; have f3 := Z2.free 3)
  refine bodyPost_ret (v := .tuple #[vlV K 0 0 L, .int .i64 E]) (by simp [results, Try.results34, go_sem, z0, z1, z2, z3]) rfl ⟨rfl, ?_⟩
  (repeat refine Below.setCell ?_ (by simp <;> omega) _)
  exact B2.out
set_option maxRecDepth 100000 in
set_option maxHeartbeats 2000000 in
theorem bHigh_any (n : Int) (w : World) :
    Calls Try.prog 33 #[.int .i64 n] w fun e w' => e = .returned (.tuple #[orV (rowE n) 4 (tellL n.toNat (fun _ => 126)), .int .i64 (rowE n)]) ∧ Below w.heap.size w w' := by
  have RZ := Row.new w (vlC 0 0 0 ⟨#[]⟩) 23
  have HS : Hid (∀ W, Calls Try.prog 94 #[.iface 94 (.agg #[])] W fun e w' => e = .returned (.tuple #[.agg #[.int .u8 32, .int .u8 126], .bool true]) ∧ Below W.heap.size W w') := Lib.hid (fun W => spanOf_4 W)
  have HC : Hid (∀ W, Calls Try.prog 95 #[.int .i64 n, .int .u8 126] W fun e w' => e = .returned (.tuple #[orV (rowE n) 4 (tellL n.toNat (fun _ => 126)), .int .i64 (rowE n)]) ∧ Below W.heap.size W w') := Lib.hid (fun W => bRow_any n 126 W)
  unfold orV at HC ⊢
  generalize rowE n = E at HC ⊢
  generalize (if E = 0 then (4 : Int) else 0) = K at HC ⊢
  generalize (if E = 0 then bsz (tellL n.toNat (fun _ => (126 : UInt8))) else ⟨#[]⟩) = L at HC ⊢
  go_enter Try.func33, Try.ntmps33
  go_wp2_with (first
    | (go_at_call 94; refine (HS.out _).mono ?_; rintro e w1 ⟨rfl, hb1⟩; have B1 := Lib.hid (bl_box (Below.refl _ w) hb1); have Z1 := RZ.keep hb1; have lz1 := Z1.lt)
    | (go_at_call 95; refine (HC.out _).mono ?_; rintro e w2 ⟨rfl, hb2⟩; have B2 := Lib.hid (bl_box B1.out hb2); have Z2 := (Z1.alloc _).keep hb2; obtain ⟨z0, z1, z2, z3⟩ := Z2.four; have f0 := Z2.free 0; have f1 := Z2.free 1; have f2 := Z2.free 2; have f3 := Z2.free 3))
  refine bodyPost_ret (v := .tuple #[vlV K 0 0 L, .int .i64 E]) (by simp [results, Try.results33, go_sem, z0, z1, z2, z3]) rfl ⟨rfl, ?_⟩
  (repeat refine Below.setCell ?_ (by simp <;> omega) _)
  exact B2.out
end Go.Proofs.Ytgoghblfficfpaa
