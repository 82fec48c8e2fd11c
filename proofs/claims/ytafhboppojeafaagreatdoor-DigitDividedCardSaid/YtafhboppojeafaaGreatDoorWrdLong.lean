/- digit: isZero, signed, longOf: whole numbers with a sign. digit: (long).scaled. -/
import Derived.Test.YtafhboppojeafaaGreatDoorWrdPow
import Derived.Test.YtafhboppojeafaaGreatDoorBit0
namespace Go.Proofs.YtafhboppojeafaaGreatDoor
open Go.RowKit

theorem wrds_nil {n : Nat} : (wrds n).length = 0 ↔ n = 0 := by
  constructor
  · intro h
    have := List.length_eq_zero_iff.1 h
    rw [← wval_digs n, this]; rfl
  · rintro rfl; rw [wrds_zero]; rfl
theorem isZero_d {B n : Nat} {v : Value} {w : World} (hA : WArg B w v n) (_la : (wrds n).length ≤ 1000000) :
    Calls Tryz.prog 74 #[v] w fun e w' => e = .returned (.bool (decide (n = 0))) ∧ w = w' := by
  obtain ⟨pa, ka, rfl⟩ := hA.slice
  have HE : Hid ((((wrds n).length : Int) == 0) = decide (n = 0)) := by
    show _ = _
    by_cases h : n = 0
    · have := wrds_nil.2 h
      rw [this, decide_eq_true h]; rfl
    · have : (wrds n).length ≠ 0 := fun e => h (wrds_nil.1 e)
      rw [decide_eq_false h, beq_eq_false_iff_ne]; omega
  clear hA
  generalize (wrds n).length = L at *
  go_enter Tryz.func74, Tryz.ntmps74
  go_wp2
  go_ret
  exact ⟨by rw [← HE.out]; first | rfl | simp, rfl⟩

abbrev lgC (v : Value) (b : Bool) : Array Value := #[v, .bool b]
theorem Row.lg {w : World} {b : Nat} {a0 a1 : Value} {t : TypeId} (h : Row w b #[a0, a1] t) : w.cell? ⟨b, 0, none⟩ = some a0 ∧ w.cell? ⟨b, 1, none⟩ = some a1 := ⟨h.at 0, h.at 1⟩
set_option maxRecDepth 100000 in
set_option maxHeartbeats 1000000 in
theorem signed_d {B n : Nat} {v : Value} {w : World} (hA : WArg B w v n) (la : (wrds n).length ≤ 1000000) (neg : Bool) :
    Calls Tryz.prog 36 #[v, .bool neg] w fun e w' => e = .returned (.agg #[v, .bool (neg && !decide (n = 0))]) ∧ Below w.heap.size w w' := by
  have RZ := Row.new w (lgC (.slice none 0 0) false) 50
  obtain ⟨z0, z1⟩ := RZ.lg
  have f0 := RZ.free 0
  have f1 := RZ.free 1
  have HA := Lib.hid hA
  have HZ : Hid (∀ W, Below w.heap.size w W → Calls Tryz.prog 74 #[v] W fun e w' => e = .returned (.bool (decide (n = 0))) ∧ W = w') := by
    show ∀ _, _
    exact fun W hW => isZero_d (HA.out.keep hW (Nat.le_refl _)) la
  obtain ⟨pa, ka, rfl⟩ := hA.slice
  generalize decide (n = 0) = d at *
  clear hA HA
  cases neg
  · go_enter Tryz.func36, Tryz.ntmps36
    go_wp2_with (go_at_call 74; refine (HZ.out _ (by go_grown)).mono ?_; rintro e w2 ⟨rfl, rfl⟩)
    refine bodyPost_ret (v := .agg #[.slice pa (wrds n).length ka, .bool false]) (by simp [results, Tryz.results36, go_sem]) rfl ⟨rfl, ?_⟩
    (repeat refine Below.setCell ?_ (by simp <;> omega) _)
    exact (Below.refl _ w).alloc (Nat.le_refl _) _
  · cases d
    all_goals
      go_enter Tryz.func36, Tryz.ntmps36
      go_wp2_with (go_at_call 74; refine (HZ.out _ (by go_grown)).mono ?_; rintro e w2 ⟨rfl, rfl⟩)
    · refine bodyPost_ret (v := .agg #[.slice pa (wrds n).length ka, .bool true]) (by simp [results, Tryz.results36, go_sem]) rfl ⟨rfl, ?_⟩
      (repeat refine Below.setCell ?_ (by simp <;> omega) _)
      exact (Below.refl _ w).alloc (Nat.le_refl _) _
    · refine bodyPost_ret (v := .agg #[.slice pa (wrds n).length ka, .bool false]) (by simp [results, Tryz.results36, go_sem]) rfl ⟨rfl, ?_⟩
      (repeat refine Below.setCell ?_ (by simp <;> omega) _)
      exact (Below.refl _ w).alloc (Nat.le_refl _) _

/-- A whole number with its sign, in blocks from B on. -/
def LArg (B : Nat) (w : World) (v : Value) (z : Int) : Prop := ∃ sl, v = .agg #[sl, .bool (decide (z < 0))] ∧ WArg B w sl z.natAbs
theorem LArg.keep {B C : Nat} {w w' : World} {v : Value} {z : Int} (h : LArg B w v z) (hb : Below C w w') (hC : w.heap.size ≤ C) : LArg B w' v z := by
  obtain ⟨sl, e, hw⟩ := h; exact ⟨sl, e, hw.keep hb hC⟩
theorem LArg.base {B B' : Nat} {w : World} {v : Value} {z : Int} (h : LArg B w v z) (hB : B' ≤ B) : LArg B' w v z := by
  obtain ⟨sl, e, hw⟩ := h; exact ⟨sl, e, hw.base hB⟩
def GivesL (w : World) (z : Int) (e : Ending) (w' : World) : Prop := ∃ v, e = .returned v ∧ LArg w.heap.size w' v z ∧ Below w.heap.size w w'
/-- What signed makes, as a number. -/
theorem signed_l {B n : Nat} {v : Value} {w : World} (hA : WArg B w v n) (la : (wrds n).length ≤ 1000000) (neg : Bool) :
    Calls Tryz.prog 36 #[v, .bool neg] w fun e w' => ∃ u, e = .returned u ∧ LArg B w' u (if neg then -(n : Int) else n) ∧ Below w.heap.size w w' :=
  (signed_d hA la neg).mono fun e w' ⟨he, hb⟩ => by
    have hd : (neg && !decide (n = 0)) = decide ((if neg then -(n : Int) else n) < 0) := by
      cases neg
      · rw [Bool.false_and, if_neg (by decide), decide_eq_false (by omega)]
      · by_cases h : n = 0
        · subst h; rfl
        · rw [if_pos rfl, decide_eq_true (show -(n : Int) < 0 by omega), decide_eq_false h]; rfl
    rw [hd] at he
    have hn : (if neg then -(n : Int) else n).natAbs = n := by
      cases neg
      · rw [if_neg (by decide)]; omega
      · rw [if_pos rfl]; omega
    exact ⟨_, he, ⟨v, rfl, by rw [hn]; exact hA.keep hb (Nat.le_refl _)⟩, hb⟩

theorem signed_z {B : Nat} {v : Value} {w : World} {z : Int} {b : Bool} (hA : WArg B w v z.natAbs) (la : (wrds z.natAbs).length ≤ 1000000) (hb : z ≠ 0 → b = decide (z < 0)) :
    Calls Tryz.prog 36 #[v, .bool b] w fun e w' => ∃ u, e = .returned u ∧ LArg B w' u z ∧ Below w.heap.size w w' :=
  (signed_l hA la b).mono fun e w' ⟨u, he, hL, hB⟩ => by
    refine ⟨u, he, ?_, hB⟩
    have : (if b then -(z.natAbs : Int) else z.natAbs) = z := by
      by_cases h0 : z = 0
      · subst h0; cases b <;> rfl
      · rw [hb h0]
        by_cases h : z < 0
        · rw [decide_eq_true h, if_pos rfl]; omega
        · rw [decide_eq_false h, if_neg (by decide)]; omega
    rwa [this] at hL
theorem LArg.open {B : Nat} {w : World} {v : Value} {z : Int} (h : LArg B w v z) : ∃ p cap, v = .agg #[.slice p (wrds z.natAbs).length cap, .bool (decide (z < 0))] := by
  obtain ⟨sl, e, hw⟩ := h
  obtain ⟨p, cap, rfl⟩ := hw.slice
  exact ⟨p, cap, e⟩
theorem LArg.put {B : Nat} {w : World} {v : Value} {z : Int} (h : LArg B w v z) (a : Addr) (x : Value) (ha : a.block < B) : LArg B (w.setCell a x) v z := by
  obtain ⟨sl, e, hw⟩ := h; exact ⟨sl, e, hw.setCell a ha⟩

set_option maxRecDepth 100000 in
set_option maxHeartbeats 1000000 in
theorem longOf_l (z : Int) (w : World) (h1 : -9223372036854775807 ≤ z) (h2 : z ≤ 9223372036854775807) :
    Calls Tryz.prog 80 #[.int .i64 z] w (GivesL w z) := by
  have RZ := Row.new w (lgC (.slice none 0 0) false) 50
  have LA : Hid ((wrds z.natAbs).length ≤ 1000000) := Lib.hid (Nat.le_trans (wrds_length z.natAbs 2 (by omega)) (by decide))
  have HM : Hid (∀ W, Calls Tryz.prog 87 #[.int .i64 z] W (GivesW W z.natAbs)) := Lib.hid fun W => magnitude_d z W h1 h2
  obtain ⟨d, hd⟩ : ∃ d, decide (z < 0) = d := ⟨_, rfl⟩
  have HD := Lib.hid hd
  go_enter Tryz.func80, Tryz.ntmps80
  go_wp2_with (first
    | (go_at_call 87; refine (HM.out _).mono ?_; rintro e w2 ⟨v2, rfl, W2, hb2⟩; have Z2 := RZ.keep hb2)
    | (go_at_call 36; refine (signed_z W2 LA.out (fun _ => HD.out.symm)).mono ?_; rintro e w3 ⟨u, rfl, L3, hb3⟩; have L3' := Lib.hid L3; have Z3 := Z2.keep hb3; obtain ⟨p, cap, rfl⟩ := L3.open; clear L3; obtain ⟨z0, z1⟩ := Z3.lg; have f0 := Z3.free 0; have f1 := Z3.free 1; have B3 := Lib.hid (bl_box (Below.refl _ w) (bl_then hb2 hb3)); have hs2 := hb2.size; clear hb2 hb3))
  refine bodyPost_ret (v := .agg #[.slice p (wrds z.natAbs).length cap, .bool d]) (by simp [results, Tryz.results80, go_sem, z0, z1]) rfl ⟨_, rfl, ?_, ?_⟩
  · rw [← hd]
    have hs : w.heap.size + 1 ≤ (w.alloc (.cells (lgC (.slice none 0 0) false) 50)).heap.size := by simp
    exact ((((L3'.out.base hs).put _ _ (by simp)).put _ _ (by simp)).base (by omega))
  · (repeat refine Below.setCell ?_ (by simp <;> omega) _)
    exact B3.out
end Go.Proofs.YtafhboppojeafaaGreatDoor
namespace Go.Proofs.YtafhboppojeafaaGreatDoor
open Go.RowKit

theorem wrds_mul_len (a b : Nat) : (wrds (a * b)).length ≤ (wrds a).length + (wrds b).length := by
  apply wrds_len
  have ha := wval_lt (wrds a) (wrds_digs a)
  have hb := wval_lt (wrds b) (wrds_digs b)
  rw [wval_digs] at ha hb
  rw [Nat.pow_add]
  exact Nat.mul_lt_mul'' ha hb
theorem LArg.arg {B : Nat} {w : World} {sl : Value} {b : Bool} {z : Int} (h : LArg B w (.agg #[sl, .bool b]) z) : WArg B w sl z.natAbs := by
  obtain ⟨sl', e, hw⟩ := h
  cases e
  exact hw
theorem scale_sign {z : Int} {u : Nat} (h : z * u ≠ 0) : decide (z < 0) = decide (z * u < 0) := by
  have hu : 0 < (u : Int) := by
    rcases Nat.eq_zero_or_pos u with rfl | hu
    · exact absurd (by simp) h
    · omega
  by_cases hz : z < 0
  · rw [decide_eq_true hz, decide_eq_true (Int.mul_neg_of_neg_of_pos hz hu)]
  · rw [decide_eq_false hz, decide_eq_false (by have := Int.mul_nonneg (show 0 ≤ z by omega) (Int.le_of_lt hu); omega)]

set_option maxRecDepth 100000 in
set_option maxHeartbeats 2000000 in
theorem scaled_l {B C : Nat} {z : Int} {u : Nat} {va vu : Value} {w : World} (hA : LArg B w va z) (hU : WArg C w vu u) (la : (wrds z.natAbs).length ≤ 10000) (lu : (wrds u).length ≤ 10000) :
    Calls Tryz.prog 84 #[va, vu] w (GivesL w (z * u)) := by
  obtain ⟨pa, ka, rfl⟩ := hA.open
  obtain ⟨pu, ku, rfl⟩ := hU.slice
  have HA := Lib.hid hA.arg
  have HU := Lib.hid hU
  have LA : Hid ((wrds (z * u).natAbs).length ≤ 1000000) := Lib.hid (by rw [Int.natAbs_mul, Int.natAbs_natCast]; have := wrds_mul_len z.natAbs u; omega)
  have HS : Hid (z * u ≠ 0 → decide (z < 0) = decide (z * u < 0)) := by show _ → _; exact scale_sign
  have HM : Hid ((z * u).natAbs = z.natAbs * u) := Lib.hid (by rw [Int.natAbs_mul, Int.natAbs_natCast])
  obtain ⟨Z, hZ⟩ : ∃ Z : Int, z * u = Z := ⟨_, rfl⟩
  rw [hZ] at LA HS HM ⊢
  clear hA hU hZ
  generalize hd : decide (z < 0) = d at *
  have RA := (Row.new w (lgC (.slice pa (wrds z.natAbs).length ka) d) 50).alloc (.cells (lgC (.slice none 0 0) false) 50)
  have RZ := Row.new2 w (.cells (lgC (.slice pa (wrds z.natAbs).length ka) d) 50) (lgC (.slice none 0 0) false) 50
  go_enter Tryz.func84, Tryz.ntmps84
  go_wp2
  generalize hw : (w.alloc (.cells (lgC (.slice pa (wrds z.natAbs).length ka) d) 50)).alloc (.cells (lgC (.slice none 0 0) false) 50) = W at *
  have B0 : Hid (Below w.heap.size w W) := by show Below _ _ _; rw [← hw]; go_grown
  have hsz : w.heap.size + 1 + 1 = W.heap.size := by rw [← hw]; simp
  clear hw hd
  obtain ⟨x0, x1⟩ := RA.lg
  go_region_held3 (fun w' => w'.cell? ⟨w.heap.size, 0, none⟩ = some (.slice pa (wrds z.natAbs).length ka) ∧ w'.cell? ⟨w.heap.size, 1, none⟩ = some (.bool d))
    (first | go_keep | exact A3.lg | exact A2.lg)
    (first
      | (go_at_call 35; refine (product_d (B := B) (C := C) ((HA.out.keep B0.out (Nat.le_refl _)).drew) ((HU.out.keep B0.out (Nat.le_refl _)).drew) la lu).mono ?_; rintro e w2 ⟨v2, rfl, W2, hb2⟩; have A2 := RA.keep (bl_drew hb2); have Z2 := RZ.keep (bl_drew hb2))
      | (go_at_call 36; refine (signed_z (z := Z) (B := w.heap.size + 1 + 1) (by rw [HM.out, hsz]; exact W2.base (by simp)) LA.out HS.out).mono ?_; rintro e w3 ⟨u3, rfl, L3, hb3⟩; have A3 := A2.keep hb3; have Z3 := Z2.keep hb3; have L3' := Lib.hid L3; obtain ⟨p3, k3, rfl⟩ := L3.open; clear L3; obtain ⟨z0, z1⟩ := Z3.lg; have f0 := Z3.free 0; have f1 := Z3.free 1))
  go_wp2
  refine bodyPost_ret (v := .agg #[.slice p3 (wrds Z.natAbs).length k3, .bool (decide (Z < 0))]) (by simp [results, Tryz.results84, go_sem, z0, z1]) rfl ⟨_, rfl, ?_, ?_⟩
  · exact (((L3'.out.put _ _ (by simp)).put _ _ (by simp)).base (by omega))
  · (repeat refine Below.setCell ?_ (by simp <;> omega) _)
    exact bl_then B0.out (bl_then (bl_drew hb2) hb3)
end Go.Proofs.YtafhboppojeafaaGreatDoor
