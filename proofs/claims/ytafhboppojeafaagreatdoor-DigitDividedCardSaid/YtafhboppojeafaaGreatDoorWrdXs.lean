/- digit: exact numbers: plus, minus. digit: exact numbers: minus; exactBin, exactDec. digit: exact numbers: shift; exactFloat. -/
import Derived.Test.YtafhboppojeafaaGreatDoorWrdX1
namespace Go.Proofs.YtafhboppojeafaaGreatDoor
open Go.RowKit

theorem plusx_mk {P : Nat → Prop} {B : Nat} {w : World} {sl s2 : Value} {b : Bool} {z : Int} {u : Nat} (h : LArg B w (.agg #[sl, .bool b]) z) (hP : ∀ c, B ≤ c → P c) (hu : WArgP P w s2 u) : XArgP P w (exV sl b s2) z u := by
  obtain ⟨sl', e, h1⟩ := h
  cases e
  exact ⟨sl, s2, rfl, h1.inP (fun c hc _ => hP c hc), hu⟩
/-- The sum of two fractions as digit makes it. -/
def plN (a : Int) (u : Nat) (b : Int) (t : Nat) : Int := if u = t then a + b else a * t + b * u
def plU (u t : Nat) : Nat := if u = t then u else u * t

end Go.Proofs.YtafhboppojeafaaGreatDoor
namespace Go.Proofs.YtafhboppojeafaaGreatDoor
open Go.RowKit

theorem hpow_bin (n : Nat) : (16 : Nat) ^ n = 2 ^ (4 * n) := by rw [Nat.pow_mul]
theorem wpow_bin (n : Nat) : (4294967296 : Nat) ^ n = 2 ^ (32 * n) := by rw [Nat.pow_mul]
theorem bpow_lt (a b : Nat) (h : a < b) : 2 ^ a < 2 ^ b := Nat.pow_lt_pow_right (by decide) h
theorem bpow_le (a b : Nat) (h : a ≤ b) : 2 ^ a ≤ 2 ^ b := Nat.pow_le_pow_right (by decide) h
theorem hpow_le (a b : Nat) (h : a ≤ b) : 16 ^ a ≤ 16 ^ b := Nat.pow_le_pow_right (by decide) h
theorem room_lt (b q K M : Nat) (hb : b ≤ 16) (hq : q ≤ K) (hK : 4 * K < 32 * M) : b ^ q < 4294967296 ^ M := by
  have h1 : b ^ q ≤ 16 ^ q := Nat.pow_le_pow_left hb q
  have h2 := hpow_le q K hq
  rw [hpow_bin K] at h2
  rw [wpow_bin M]
  exact Nat.lt_of_le_of_lt (Nat.le_trans h1 h2) (bpow_lt _ _ hK)
theorem pow_room {b q : Nat} (hb : b ≤ 16) (hq : q ≤ 20000) : b ^ q < 4294967296 ^ 10000 := room_lt b q 20000 10000 hb hq (by decide)

set_option maxRecDepth 100000 in
set_option maxHeartbeats 4000000 in
theorem exactBin_x {P : Nat → Prop} (k n : Int) (q : Nat) (s : ByteArray) (w : World) (hP : ∀ c, w.heap.size ≤ c → P c) (h1 : -9223372036854775807 ≤ n) (h2 : n ≤ 9223372036854775807) (hq : q ≤ 10000) :
    Calls Tryz.prog 45 #[.agg #[.int .i64 k, .int .i64 n, .int .i64 q, .string s]] w fun e w' => ∃ y, e = .returned y ∧ XArgP P w' y n (2 ^ q) ∧ Below w.heap.size w w' := by
  have HLO : Hid (∀ W, Calls Tryz.prog 80 #[.int .i64 n] W (GivesL W n)) := Lib.hid fun W => longOf_l n W h1 h2
  have HPO : Hid (∀ W, Calls Tryz.prog 81 #[.int .i64 2, .int .i64 (q : Int)] W (GivesW W (2 ^ q))) := Lib.hid fun W => power_d 2 q W (by decide) (by decide) (by omega) (pow_room (by decide) (by omega))
  have HPP := Lib.hid hP
  obtain ⟨U, hU⟩ : ∃ U, 2 ^ q = U := ⟨_, rfl⟩
  rw [hU] at HPO ⊢
  clear hP h1 h2 hq hU
  have RA := (Row.new w #[.int .i64 k, .int .i64 n, .int .i64 q, .string s] 23).alloc (.cells (exC (.slice none 0 0) false (.slice none 0 0)) 52)
  have RZ := Row.new2 w (.cells #[.int .i64 k, .int .i64 n, .int .i64 q, .string s] 23) (exC (.slice none 0 0) false (.slice none 0 0)) 52
  go_enter Tryz.func45, Tryz.ntmps45
  go_wp2
  generalize hw : (w.alloc (.cells #[.int .i64 k, .int .i64 n, .int .i64 q, .string s] 23)).alloc (.cells (exC (.slice none 0 0) false (.slice none 0 0)) 52) = W at *
  have B0 : Hid (Below w.heap.size w W) := by show Below _ _ _; rw [← hw]; go_grown
  have hsz : w.heap.size + 1 + 1 ≤ W.heap.size := by rw [← hw]; simp
  clear hw
  obtain ⟨x0, x1, x2, x3⟩ := RA.four
  go_region_held3 (fun w' => w'.cell? ⟨w.heap.size, 1, none⟩ = some (.int .i64 n) ∧ w'.cell? ⟨w.heap.size, 2, none⟩ = some (.int .i64 q))
    (first | go_keep | exact ⟨A3.four.2.1, A3.four.2.2.1⟩ | exact ⟨A2.four.2.1, A2.four.2.2.1⟩ | ((try dsimp only); (repeat' apply And.intro) <;> go_keep))
    (first
      | (go_at_call 80; (with_reducible refine (HLO.out _).mono ?_); rintro e w2 ⟨v2, rfl, L2, hb2⟩; have A2 := RA.keep (bl_drew hb2); have Z2 := RZ.keep (bl_drew hb2); have hs2 := Nat.le_trans hsz (bl_drew hb2).size; have L2' := Lib.hid (L2.base (show w.heap.size + 1 + 1 ≤ _ by simpa using hsz)); obtain ⟨p2, k2, rfl⟩ := L2.open; clear L2)
      | (go_at_call 81; (with_reducible refine (HPO.out _).mono ?_); rintro e w3 ⟨v3, rfl, W3, hb3⟩; have A3 := A2.keep hb3; have Z3 := Z2.keep hb3; have W3' := Lib.hid (W3.base hs2); obtain ⟨p3, k3, rfl⟩ := W3.slice; clear W3; obtain ⟨z0, z1, z2⟩ := Z3.ex; have f0 := Z3.free 0; have f1 := Z3.free 1; have f2 := Z3.free 2))
  go_wp2
  refine bodyPost_ret (v := exV (.slice p2 (wrds n.natAbs).length k2) (decide (n < 0)) (.slice p3 (wrds U).length k3)) (by simp [results, Tryz.results45, go_sem, z0, z1, z2]) rfl ⟨_, rfl, ?_, ?_⟩
  · exact plusx_mk (B := w.heap.size + 1 + 1) ((((L2'.out.keep hb3 (Nat.le_refl _)).put _ _ (by simp)).put _ _ (by simp)).put _ _ (by simp)) (fun c hc => HPP.out c (by omega)) ((((W3'.out.setCell _ (by simp)).setCell _ (by simp)).setCell _ (by simp)).inP fun c hc _ => HPP.out c (by omega))
  · (repeat refine Below.setCell ?_ (by simp <;> omega) _)
    exact bl_then B0.out (bl_then (bl_drew hb2) hb3)

set_option maxRecDepth 100000 in
set_option maxHeartbeats 4000000 in
theorem exactDec_x {P : Nat → Prop} (k n : Int) (q : Nat) (s : ByteArray) (w : World) (hP : ∀ c, w.heap.size ≤ c → P c) (h1 : -9223372036854775807 ≤ n) (h2 : n ≤ 9223372036854775807) (hq : q ≤ 10000) :
    Calls Tryz.prog 51 #[.agg #[.int .i64 k, .int .i64 n, .int .i64 q, .string s]] w fun e w' => ∃ y, e = .returned y ∧ XArgP P w' y n (10 ^ q) ∧ Below w.heap.size w w' := by
  have HLO : Hid (∀ W, Calls Tryz.prog 80 #[.int .i64 n] W (GivesL W n)) := Lib.hid fun W => longOf_l n W h1 h2
  have HPO : Hid (∀ W, Calls Tryz.prog 81 #[.int .i64 10, .int .i64 (q : Int)] W (GivesW W (10 ^ q))) := Lib.hid fun W => power_d 10 q W (by decide) (by decide) (by omega) (pow_room (by decide) (by omega))
  have HPP := Lib.hid hP
  obtain ⟨U, hU⟩ : ∃ U, 10 ^ q = U := ⟨_, rfl⟩
  rw [hU] at HPO ⊢
  clear hP h1 h2 hq hU
  have RA := (Row.new w #[.int .i64 k, .int .i64 n, .int .i64 q, .string s] 23).alloc (.cells (exC (.slice none 0 0) false (.slice none 0 0)) 52)
  have RZ := Row.new2 w (.cells #[.int .i64 k, .int .i64 n, .int .i64 q, .string s] 23) (exC (.slice none 0 0) false (.slice none 0 0)) 52
  go_enter Tryz.func51, Tryz.ntmps51
  go_wp2
  generalize hw : (w.alloc (.cells #[.int .i64 k, .int .i64 n, .int .i64 q, .string s] 23)).alloc (.cells (exC (.slice none 0 0) false (.slice none 0 0)) 52) = W at *
  have B0 : Hid (Below w.heap.size w W) := by show Below _ _ _; rw [← hw]; go_grown
  have hsz : w.heap.size + 1 + 1 ≤ W.heap.size := by rw [← hw]; simp
  clear hw
  obtain ⟨x0, x1, x2, x3⟩ := RA.four
  go_region_held3 (fun w' => w'.cell? ⟨w.heap.size, 1, none⟩ = some (.int .i64 n) ∧ w'.cell? ⟨w.heap.size, 2, none⟩ = some (.int .i64 q))
    (first | go_keep | exact ⟨A3.four.2.1, A3.four.2.2.1⟩ | exact ⟨A2.four.2.1, A2.four.2.2.1⟩ | ((try dsimp only); (repeat' apply And.intro) <;> go_keep))
    (first
      | (go_at_call 80; (with_reducible refine (HLO.out _).mono ?_); rintro e w2 ⟨v2, rfl, L2, hb2⟩; have A2 := RA.keep (bl_drew hb2); have Z2 := RZ.keep (bl_drew hb2); have hs2 := Nat.le_trans hsz (bl_drew hb2).size; have L2' := Lib.hid (L2.base (show w.heap.size + 1 + 1 ≤ _ by simpa using hsz)); obtain ⟨p2, k2, rfl⟩ := L2.open; clear L2)
      | (go_at_call 81; (with_reducible refine (HPO.out _).mono ?_); rintro e w3 ⟨v3, rfl, W3, hb3⟩; have A3 := A2.keep hb3; have Z3 := Z2.keep hb3; have W3' := Lib.hid (W3.base hs2); obtain ⟨p3, k3, rfl⟩ := W3.slice; clear W3; obtain ⟨z0, z1, z2⟩ := Z3.ex; have f0 := Z3.free 0; have f1 := Z3.free 1; have f2 := Z3.free 2))
  go_wp2
  refine bodyPost_ret (v := exV (.slice p2 (wrds n.natAbs).length k2) (decide (n < 0)) (.slice p3 (wrds U).length k3)) (by simp [results, Tryz.results51, go_sem, z0, z1, z2]) rfl ⟨_, rfl, ?_, ?_⟩
  · exact plusx_mk (B := w.heap.size + 1 + 1) ((((L2'.out.keep hb3 (Nat.le_refl _)).put _ _ (by simp)).put _ _ (by simp)).put _ _ (by simp)) (fun c hc => HPP.out c (by omega)) ((((W3'.out.setCell _ (by simp)).setCell _ (by simp)).setCell _ (by simp)).inP fun c hc _ => HPP.out c (by omega))
  · (repeat refine Below.setCell ?_ (by simp <;> omega) _)
    exact bl_then B0.out (bl_then (bl_drew hb2) hb3)
end Go.Proofs.YtafhboppojeafaaGreatDoor
namespace Go.Proofs.YtafhboppojeafaaGreatDoor
open Go.RowKit

def shN (a n : Int) : Int := if n < 0 then a else a * (10 ^ n.toNat : Nat)
def shU (u : Nat) (n : Int) : Nat := if n < 0 then u * 10 ^ (-n).toNat else u
theorem ten_lt (q N : Nat) (h : 16 ^ q ≤ 2 ^ N) (hN : 1 ≤ N) : 10 ^ q < 2 ^ N := by
  rcases Nat.eq_zero_or_pos q with rfl | hq
  · exact Nat.lt_of_lt_of_le (show 10 ^ 0 < 2 ^ 1 by decide) (bpow_le 1 N hN)
  · exact Nat.lt_of_lt_of_le (Nat.pow_lt_pow_left (by decide) (by omega)) h
theorem ten_room (q K M : Nat) (h : q ≤ K) (hK : 4 * K ≤ 32 * M) (h1 : 1 ≤ 4 * K) : 10 ^ q < 4294967296 ^ M := by
  have h2 := hpow_le q K h
  rw [hpow_bin K] at h2
  rw [wpow_bin M]
  exact Nat.lt_of_lt_of_le (ten_lt q (4 * K) h2 h1) (bpow_le _ _ hK)
theorem wrds_ten {q : Nat} (h : q ≤ 20000) : (wrds (10 ^ q)).length ≤ 2500 := by
  apply wrds_len
  exact ten_room q 20000 2500 h (by decide) (by decide)

set_option maxRecDepth 100000 in
set_option maxHeartbeats 4000000 in
theorem shift_x {P : Nat → Prop} {a : Int} {u : Nat} {va : Value} {w : World} (n : Int) (hX : XArgP P w va a u) (hP : ∀ c, w.heap.size ≤ c → P c) (la : (wrds a.natAbs).length ≤ 4000) (lu : (wrds u).length ≤ 4000) (h1 : -20000 ≤ n) (h2 : n ≤ 20000) :
    Calls Tryz.prog 90 #[va, .int .i64 n] w fun e w' => ∃ y, e = .returned y ∧ XArgP P w' y (shN a n) (shU u n) ∧ Below w.heap.size w w' := by
  obtain ⟨pa, ka, qa, ma, rfl⟩ := hX.x.open
  have HX := Lib.hid hX.x
  have HXP := Lib.hid hX
  have HPP := Lib.hid hP
  clear hX hP
  obtain ⟨da, hda⟩ : ∃ d, decide (a < 0) = d := ⟨_, rfl⟩
  rw [hda] at HX HXP ⊢
  have HDA := Lib.hid hda
  clear hda
  have RA := (Row.new w (exC (.slice pa (wrds a.natAbs).length ka) da (.slice qa (wrds u).length ma)) 52).alloc (.cells (exC (.slice none 0 0) false (.slice none 0 0)) 52)
  have RZ := Row.new2 w (.cells (exC (.slice pa (wrds a.natAbs).length ka) da (.slice qa (wrds u).length ma)) 52) (exC (.slice none 0 0) false (.slice none 0 0)) 52
  by_cases hn : n < 0
  · obtain ⟨m, hm⟩ := Int.eq_ofNat_of_zero_le (show 0 ≤ -n by omega)
    obtain rfl : n = -(m : Int) := by omega
    have e1 : shN a (-(m : Int)) = a := if_pos hn
    have e2 : shU u (-(m : Int)) = u * 10 ^ m := by rw [shU, if_pos hn, hm]; rfl
    rw [e1, e2]
    have HPO : Hid (∀ W, Calls Tryz.prog 81 #[.int .i64 10, .int .i64 (m : Int)] W (GivesW W (10 ^ m))) := Lib.hid fun W => power_d 10 m W (by decide) (by decide) (by omega) (pow_room (by decide) (by omega))
    have HTL : Hid ((wrds (10 ^ m)).length ≤ 10000) := Lib.hid (Nat.le_trans (wrds_ten (by omega)) (by decide))
    have hw1 : IntKind.i64.wrap (- -(m : Int)) = m := by rw [Int.neg_neg]; exact IntWalk.i64_in _ (by omega)
    have hw2 : IntKind.i64.wrap (m : Int) = m := IntWalk.i64_in _ (by omega)
    have hmm : 0 < (m : Int) := by omega
    generalize 10 ^ m = T at *
    clear hm e1 e2
    obtain ⟨U, hU⟩ : ∃ U, u * T = U := ⟨_, rfl⟩
    have HU := Lib.hid hU
    rw [hU]
    clear hU
    go_enter Tryz.func90, Tryz.ntmps90
    go_wp2
    generalize hw : (w.alloc (.cells (exC (.slice pa (wrds a.natAbs).length ka) da (.slice qa (wrds u).length ma)) 52)).alloc (.cells (exC (.slice none 0 0) false (.slice none 0 0)) 52) = W at *
    have B0 : Hid (Below w.heap.size w W) := by show Below _ _ _; rw [← hw]; go_grown
    have hsz : w.heap.size + 1 + 1 ≤ W.heap.size := by rw [← hw]; simp
    clear hw
    obtain ⟨x0, x1, x2⟩ := RA.ex
    go_region_held3 (fun w' => w'.cell? ⟨w.heap.size, 0, none⟩ = some (.slice pa (wrds a.natAbs).length ka) ∧ w'.cell? ⟨w.heap.size, 1, none⟩ = some (.bool da) ∧ w'.cell? ⟨w.heap.size, 2, none⟩ = some (.slice qa (wrds u).length ma))
      (first | go_keep | exact A3.ex | exact A2.ex | ((try dsimp only); (repeat' apply And.intro) <;> go_keep))
      (first
        | (go_at_call 81; (with_reducible refine (HPO.out _).mono ?_); rintro e w2 ⟨v2, rfl, W2, hb2⟩; have A2 := RA.keep (bl_drew hb2); have Z2 := RZ.keep (bl_drew hb2); have BW2 := Lib.hid (bl_then B0.out (bl_drew hb2)); have hs2 := Nat.le_trans hsz (bl_drew hb2).size)
        | (go_at_call 35; (with_reducible refine (product_d (HX.out.args.2.1.keep BW2.out (Nat.le_refl _)) W2 (by omega) HTL.out).mono ?_); rintro e w3 ⟨v3, rfl, W3, hb3⟩; have A3 := A2.keep hb3; have Z3 := Z2.keep hb3; rw [HU.out] at W3; have W3' := Lib.hid (W3.base hs2); obtain ⟨p3, k3, rfl⟩ := W3.slice; clear W3; obtain ⟨z0, z1, z2⟩ := Z3.ex; have f0 := Z3.free 0; have f1 := Z3.free 1; have f2 := Z3.free 2))
    go_wp2
    refine bodyPost_ret (v := exV (.slice pa (wrds a.natAbs).length ka) da (.slice p3 (wrds U).length k3)) (by simp [results, Tryz.results90, go_sem, z0, z1, z2]) rfl ⟨_, rfl, ?_, ?_⟩
    · refine ⟨_, _, by rw [HDA.out], HXP.out.args.1.keep (C := w.heap.size) ?_ (Nat.le_refl _), (((W3'.out.setCell _ (by simp)).setCell _ (by simp)).setCell _ (by simp)).inP fun c hc _ => HPP.out c (by omega)⟩
      (repeat refine Below.setCell ?_ (by simp <;> omega) _)
      exact bl_then B0.out (bl_then (bl_drew hb2) hb3)
    · (repeat refine Below.setCell ?_ (by simp <;> omega) _)
      exact bl_then B0.out (bl_then (bl_drew hb2) hb3)
  · obtain ⟨m, rfl⟩ := Int.eq_ofNat_of_zero_le (show 0 ≤ n by omega)
    have e1 : shN a (m : Int) = a * (10 ^ m : Nat) := by rw [shN, if_neg hn]; rfl
    have e2 : shU u (m : Int) = u := if_neg hn
    rw [e1, e2]
    have HPO : Hid (∀ W, Calls Tryz.prog 81 #[.int .i64 10, .int .i64 (m : Int)] W (GivesW W (10 ^ m))) := Lib.hid fun W => power_d 10 m W (by decide) (by decide) (by omega) (pow_room (by decide) (by omega))
    have HTL : Hid ((wrds (10 ^ m)).length ≤ 10000) := Lib.hid (Nat.le_trans (wrds_ten (by omega)) (by decide))
    have hmm : 0 ≤ (m : Int) := by omega
    generalize 10 ^ m = T at *
    clear e1 e2
    obtain ⟨Z, hZ⟩ : ∃ Z : Int, a * (T : Int) = Z := ⟨_, rfl⟩
    have HZ := Lib.hid hZ
    rw [hZ]
    clear hZ
    go_enter Tryz.func90, Tryz.ntmps90
    go_wp2
    generalize hw : (w.alloc (.cells (exC (.slice pa (wrds a.natAbs).length ka) da (.slice qa (wrds u).length ma)) 52)).alloc (.cells (exC (.slice none 0 0) false (.slice none 0 0)) 52) = W at *
    have B0 : Hid (Below w.heap.size w W) := by show Below _ _ _; rw [← hw]; go_grown
    have hsz : w.heap.size + 1 + 1 ≤ W.heap.size := by rw [← hw]; simp
    clear hw
    obtain ⟨x0, x1, x2⟩ := RA.ex
    go_region_held3 (fun w' => w'.cell? ⟨w.heap.size, 0, none⟩ = some (.slice pa (wrds a.natAbs).length ka) ∧ w'.cell? ⟨w.heap.size, 1, none⟩ = some (.bool da) ∧ w'.cell? ⟨w.heap.size, 2, none⟩ = some (.slice qa (wrds u).length ma))
      (first | go_keep | exact A3.ex | exact A2.ex | ((try dsimp only); (repeat' apply And.intro) <;> go_keep))
      (first
        | (go_at_call 81; (with_reducible refine (HPO.out _).mono ?_); rintro e w2 ⟨v2, rfl, W2, hb2⟩; have A2 := RA.keep (bl_drew hb2); have Z2 := RZ.keep (bl_drew hb2); have BW2 := Lib.hid (bl_then B0.out (bl_drew hb2)); have hs2 := Nat.le_trans hsz (bl_drew hb2).size)
        | (go_at_call 84; (with_reducible refine (scaled_l (HX.out.long.keep BW2.out (Nat.le_refl _)) W2 (by omega) HTL.out).mono ?_); rintro e w3 ⟨v3, rfl, L3, hb3⟩; have A3 := A2.keep hb3; have Z3 := Z2.keep hb3; rw [HZ.out] at L3; have L3' := Lib.hid (L3.base hs2); obtain ⟨p3, k3, rfl⟩ := L3.open; clear L3; obtain ⟨z0, z1, z2⟩ := Z3.ex; have f0 := Z3.free 0; have f1 := Z3.free 1; have f2 := Z3.free 2))
    go_wp2
    refine bodyPost_ret (v := exV (.slice p3 (wrds Z.natAbs).length k3) (decide (Z < 0)) (.slice qa (wrds u).length ma)) (by simp [results, Tryz.results90, go_sem, z0, z1, z2]) rfl ⟨_, rfl, ?_, ?_⟩
    · refine plusx_mk (B := w.heap.size + 1 + 1) (((L3'.out.put _ _ (by simp)).put _ _ (by simp)).put _ _ (by simp)) (fun c hc => HPP.out c (by omega)) (HXP.out.args.2.keep (C := w.heap.size) ?_ (Nat.le_refl _))
      (repeat refine Below.setCell ?_ (by simp <;> omega) _)
      exact bl_then B0.out (bl_then (bl_drew hb2) hb3)
    · (repeat refine Below.setCell ?_ (by simp <;> omega) _)
      exact bl_then B0.out (bl_then (bl_drew hb2) hb3)


set_option maxRecDepth 100000 in
set_option maxHeartbeats 4000000 in
theorem exactFloat_x {P : Nat → Prop} (k n q : Int) (s : ByteArray) (w : World) (hP : ∀ c, w.heap.size ≤ c → P c) (h1 : -9223372036854775807 ≤ n) (h2 : n ≤ 9223372036854775807) (hq1 : -20000 ≤ q) (hq2 : q ≤ 20000) :
    Calls Tryz.prog 58 #[.agg #[.int .i64 k, .int .i64 n, .int .i64 q, .string s]] w fun e w' => ∃ y, e = .returned y ∧ XArgP P w' y (shN n q) (shU 1 q) ∧ Below w.heap.size w w' := by
  have HLO : Hid (∀ W, Calls Tryz.prog 80 #[.int .i64 n] W (GivesL W n)) := Lib.hid fun W => longOf_l n W h1 h2
  have HNA : Hid (∀ W, Calls Tryz.prog 89 #[.int .i64 1] W (GivesW W 1)) := Lib.hid fun W => natural_d 1 W (by decide)
  have l1 : (wrds n.natAbs).length ≤ 4000 := Nat.le_trans (wrds_length n.natAbs 2 (by omega)) (by decide)
  have l2 : (wrds 1).length ≤ 4000 := Nat.le_trans (wrds_length 1 1 (by decide)) (by decide)
  obtain ⟨Q, hQ⟩ : ∃ Q : Nat → Prop, Q = fun c => P c ∧ c ≠ w.heap.size + 1 := ⟨_, rfl⟩
  have HQ : Hid (∀ c, w.heap.size + 1 + 1 ≤ c → Q c) := Lib.hid fun c hc => by rw [hQ]; exact ⟨hP c (by omega), by omega⟩
  have HQP : Hid (∀ c, Q c → P c) := Lib.hid fun c hc => by rw [hQ] at hc; exact hc.1
  have HQN : Hid (∀ c, Q c → c ≠ w.heap.size + 1) := Lib.hid fun c hc => by rw [hQ] at hc; exact hc.2
  obtain ⟨N, hN⟩ : ∃ N, shN n q = N := ⟨_, rfl⟩
  obtain ⟨U, hU⟩ : ∃ U, shU 1 q = U := ⟨_, rfl⟩
  have HSH : Hid (∀ (v : Value) (W : World), XArgP Q W v n 1 → (∀ c, W.heap.size ≤ c → Q c) → Calls Tryz.prog 90 #[v, .int .i64 q] W fun e w' => ∃ y, e = .returned y ∧ XArgP Q w' y N U ∧ Below W.heap.size W w') := Lib.hid fun v W h3 h4 => by
    rw [← hN, ← hU]; exact shift_x q h3 h4 l1 l2 hq1 hq2
  rw [hN, hU]
  clear hP h1 h2 hq1 hq2 hQ hN hU l1 l2
  have RA := (Row.new w #[.int .i64 k, .int .i64 n, .int .i64 q, .string s] 23).alloc (.cells (exC (.slice none 0 0) false (.slice none 0 0)) 52)
  have RZ := Row.new2 w (.cells #[.int .i64 k, .int .i64 n, .int .i64 q, .string s] 23) (exC (.slice none 0 0) false (.slice none 0 0)) 52
  go_enter Tryz.func58, Tryz.ntmps58
  go_wp2
  generalize hw : (w.alloc (.cells #[.int .i64 k, .int .i64 n, .int .i64 q, .string s] 23)).alloc (.cells (exC (.slice none 0 0) false (.slice none 0 0)) 52) = W at *
  have B0 : Hid (Below w.heap.size w W) := by show Below _ _ _; rw [← hw]; go_grown
  have hsz : w.heap.size + 1 + 1 ≤ W.heap.size := by rw [← hw]; simp
  clear hw
  obtain ⟨x0, x1, x2, x3⟩ := RA.four
  go_region_held3 (fun w' => w'.cell? ⟨w.heap.size, 1, none⟩ = some (.int .i64 n) ∧ w'.cell? ⟨w.heap.size, 2, none⟩ = some (.int .i64 q))
    (first | go_keep | exact ⟨A4.four.2.1, A4.four.2.2.1⟩ | exact ⟨A3.four.2.1, A3.four.2.2.1⟩ | exact ⟨A2.four.2.1, A2.four.2.2.1⟩ | ((try dsimp only); (repeat' apply And.intro) <;> go_keep))
    (first
      | (go_at_call 80; (with_reducible refine (HLO.out _).mono ?_); rintro e w2 ⟨v2, rfl, L2, hb2⟩; have A2 := RA.keep (bl_drew hb2); have Z2 := RZ.keep (bl_drew hb2); have hs2 := Nat.le_trans hsz (bl_drew hb2).size; have L2' := Lib.hid (L2.base (show w.heap.size + 1 + 1 ≤ _ by simpa using hsz)); obtain ⟨p2, k2, rfl⟩ := L2.open; clear L2)
      | (go_at_call 89; (with_reducible refine (HNA.out _).mono ?_); rintro e w3 ⟨v3, rfl, W3, hb3⟩; have A3 := A2.keep hb3; have Z3 := Z2.keep hb3; have W3' := Lib.hid (W3.base hs2); have hs3 := Nat.le_trans hs2 hb3.size; obtain ⟨p3, k3, rfl⟩ := W3.slice; clear W3; have X3 := Lib.hid (plusx_mk (P := Q) (L2'.out.keep hb3 (Nat.le_refl _)) HQ.out (W3'.out.inP fun c hc _ => HQ.out c hc)))
      | (go_at_call 90; (with_reducible refine (HSH.out _ _ X3.out (fun c hc => HQ.out c (Nat.le_trans hs3 hc))).mono ?_); rintro e w4 ⟨v4, rfl, X4, hb4⟩; have A4 := A3.keep hb4; have Z4 := Z3.keep hb4; have X4' := Lib.hid X4; obtain ⟨p4, k4, q4, m4, rfl⟩ := X4.x.open; clear X4; obtain ⟨z0, z1, z2⟩ := Z4.ex; have f0 := Z4.free 0; have f1 := Z4.free 1; have f2 := Z4.free 2))
  go_wp2
  refine bodyPost_ret (v := exV (.slice p4 (wrds N.natAbs).length k4) (decide (N < 0)) (.slice q4 (wrds U).length m4)) (by simp [results, Tryz.results58, go_sem, z0, z1, z2]) rfl ⟨_, rfl, ?_, ?_⟩
  · exact (((X4'.out.put _ _ HQN.out).put _ _ HQN.out).put _ _ HQN.out).weak fun c _ hc => HQP.out c hc
  · (repeat refine Below.setCell ?_ (by simp <;> omega) _)
    exact bl_then B0.out (bl_then (bl_then (bl_drew hb2) hb3) hb4)

end Go.Proofs.YtafhboppojeafaaGreatDoor
