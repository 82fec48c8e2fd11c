/- digit: exact numbers: over. digit.Divide of one by three, in fifteen digits. -/
import Derived.Test.YtafhboppojeafaaGreatDoorWrdXs
import Derived.Test.YtafhboppojeafaaGreatDoorWrdRec1
import Derived.Test.YtafhboppojeafaaGreatDoorWrdExs
import Derived.Test.YtafhboppojeafaaGreatDoorWrdNum
namespace Go.Proofs.YtafhboppojeafaaGreatDoor
open Go.RowKit

/-- A quotient's numerator as digit makes it. -/
def ovN (a b : Int) (t : Nat) : Int := if b < 0 then -(a * t) else a * t
theorem ovN_abs (a b : Int) (t : Nat) : (ovN a b t).natAbs = a.natAbs * t := by
  unfold ovN
  split
  · rw [Int.natAbs_neg, Int.natAbs_mul, Int.natAbs_natCast]
  · rw [Int.natAbs_mul, Int.natAbs_natCast]
theorem ovN_neg (a b : Int) (t : Nat) (h : ovN a b t ≠ 0) : (decide (a < 0) != decide (b < 0)) = decide (ovN a b t < 0) := by
  have ha : a ≠ 0 := by rintro rfl; apply h; unfold ovN; split <;> simp
  have ht : t ≠ 0 := by rintro rfl; apply h; unfold ovN; split <;> simp
  have hp : 0 < (t : Int) := by omega
  have hs : a * t < 0 ↔ a < 0 := by
    constructor
    · intro h1
      rcases Int.lt_or_lt_of_ne ha with h2 | h2
      · exact h2
      · have := Int.mul_pos h2 hp; omega
    · intro h1; exact Int.mul_neg_of_neg_of_pos h1 hp
  have hz : a * t ≠ 0 := Int.mul_ne_zero ha (by omega)
  unfold ovN
  by_cases hb : b < 0
  · rw [if_pos hb, decide_eq_true hb]
    by_cases h2 : a < 0
    · have h3 := hs.2 h2
      rw [decide_eq_true h2, decide_eq_false (by omega)]; rfl
    · have h3 : ¬ a * t < 0 := fun x => h2 (hs.1 x)
      rw [decide_eq_false h2, decide_eq_true (by omega)]; rfl
  · rw [if_neg hb, decide_eq_false hb]
    by_cases h2 : a < 0
    · rw [decide_eq_true h2, decide_eq_true (hs.2 h2)]; rfl
    · rw [decide_eq_false h2, decide_eq_false (fun x => h2 (hs.1 x))]; rfl

set_option maxRecDepth 100000 in
set_option maxHeartbeats 8000000 in
theorem over_x {P : Nat → Prop} {a b : Int} {u t : Nat} {va vb : Value} {w : World} (hX : XArgP P w va a u) (hY : XArgP P w vb b t) (hP : ∀ c, w.heap.size ≤ c → P c) (la : (wrds a.natAbs).length ≤ 4000) (lb : (wrds b.natAbs).length ≤ 4000) (lu : (wrds u).length ≤ 4000) (lt : (wrds t).length ≤ 4000) :
    Calls Tryz.prog 17 #[va, vb] w fun e w' => ∃ y, e = .returned y ∧ XArgP P w' y (ovN a b t) (u * b.natAbs) ∧ Below w.heap.size w w' := by
  obtain ⟨pa, ka, qa, ma, rfl⟩ := hX.x.open
  obtain ⟨pb, kb, qb, mb, rfl⟩ := hY.x.open
  have HX := Lib.hid hX.x
  have HY := Lib.hid hY.x
  have HPP := Lib.hid hP
  clear hX hY hP
  have hng := ovN_neg a b t
  have hab := ovN_abs a b t
  have k1 := wrds_mul_len a.natAbs t
  have k2 := wrds_mul_len u b.natAbs
  obtain ⟨Z, hZ⟩ : ∃ Z : Int, ovN a b t = Z := ⟨_, rfl⟩
  obtain ⟨U, hU⟩ : ∃ U : Nat, u * b.natAbs = U := ⟨_, rfl⟩
  rw [hZ] at hng hab ⊢
  obtain ⟨da, hda⟩ : ∃ d, decide (a < 0) = d := ⟨_, rfl⟩
  obtain ⟨db, hdb⟩ : ∃ d, decide (b < 0) = d := ⟨_, rfl⟩
  rw [hda] at HX hng ⊢
  rw [hdb] at HY hng ⊢
  obtain ⟨dx, hdx⟩ : ∃ d, (da != db) = d := ⟨_, rfl⟩
  rw [hdx] at hng
  have HPA : Hid (∀ (W : World), Below w.heap.size w W → Calls Tryz.prog 35 #[.slice pa (wrds a.natAbs).length ka, .slice qb (wrds t).length mb] W (GivesW W Z.natAbs)) := Lib.hid fun W hW => by
    rw [hab]; exact product_d (HX.out.args.1.keep hW (Nat.le_refl _)) (HY.out.args.2.1.keep hW (Nat.le_refl _)) (by omega) (by omega)
  have HPU : Hid (∀ (W : World), Below w.heap.size w W → Calls Tryz.prog 35 #[.slice qa (wrds u).length ma, .slice pb (wrds b.natAbs).length kb] W (GivesW W U)) := Lib.hid fun W hW => by
    rw [← hU]; exact product_d (HX.out.args.2.1.keep hW (Nat.le_refl _)) (HY.out.args.1.keep hW (Nat.le_refl _)) (by omega) (by omega)
  have HSG : Hid (∀ (B : Nat) (v : Value) (W : World), WArg B W v Z.natAbs → Calls Tryz.prog 36 #[v, .bool dx] W fun e w' => ∃ s, e = .returned s ∧ LArg B w' s Z ∧ Below W.heap.size W w') := Lib.hid fun B v W h => signed_z h (by rw [hab]; omega) hng
  rw [hU]
  have hqn : ∀ W, (binOp .neq 4 (.bool da) (.bool db)).run Tryz.prog W = .ok (.bool dx) W := fun W => by
    rw [← hdx]; cases da <;> cases db <;> kernel_rfl
  clear hda hdb hZ hU hng hab k1 k2 HX HY hdx
  have RA := ((Row.new w (exC (.slice pa (wrds a.natAbs).length ka) da (.slice qa (wrds u).length ma)) 52).alloc (.cells (exC (.slice pb (wrds b.natAbs).length kb) db (.slice qb (wrds t).length mb)) 52)).alloc (.cells (exC (.slice none 0 0) false (.slice none 0 0)) 52)
  have RC := (Row.new2 w (.cells (exC (.slice pa (wrds a.natAbs).length ka) da (.slice qa (wrds u).length ma)) 52) (exC (.slice pb (wrds b.natAbs).length kb) db (.slice qb (wrds t).length mb)) 52).alloc (.cells (exC (.slice none 0 0) false (.slice none 0 0)) 52)
  have RZ := Row.new3 w (.cells (exC (.slice pa (wrds a.natAbs).length ka) da (.slice qa (wrds u).length ma)) 52) (.cells (exC (.slice pb (wrds b.natAbs).length kb) db (.slice qb (wrds t).length mb)) 52) (exC (.slice none 0 0) false (.slice none 0 0)) 52
  go_enter Tryz.func17, Tryz.ntmps17
  go_wp2_with fail
  generalize hw : ((w.alloc (.cells (exC (.slice pa (wrds a.natAbs).length ka) da (.slice qa (wrds u).length ma)) 52)).alloc (.cells (exC (.slice pb (wrds b.natAbs).length kb) db (.slice qb (wrds t).length mb)) 52)).alloc (.cells (exC (.slice none 0 0) false (.slice none 0 0)) 52) = W at *
  have B0 : Hid (Below w.heap.size w W) := by show Below _ _ _; rw [← hw]; go_grown
  have hsz : w.heap.size + 1 + 1 + 1 ≤ W.heap.size := by rw [← hw]; simp
  clear hw
  have n1 : ¬ w.heap.size + 1 + 1 = w.heap.size := by omega
  have n2 : ¬ w.heap.size = w.heap.size + 1 + 1 := by omega
  have n3 : ¬ w.heap.size + 1 + 1 = w.heap.size + 1 := by omega
  have n4 : ¬ w.heap.size + 1 = w.heap.size + 1 + 1 := by omega
  obtain ⟨x0, x1, x2⟩ := RA.ex
  obtain ⟨y0, y1, y2⟩ := RC.ex
  go_wp2_with (go_at_call 35; (with_reducible refine (HPA.out _ B0.out).mono ?_); rintro e w1 ⟨v1, rfl, W1, hb1⟩; have RA := RA.keep hb1; have RC := RC.keep hb1; have RZ := RZ.keep hb1; have W1 := W1.base hsz; have B0 := Lib.hid (bl_then B0.out hb1); have hsz := Nat.le_trans hsz hb1.size; obtain ⟨x0, x1, x2⟩ := RA.ex; obtain ⟨y0, y1, y2⟩ := RC.ex; have W1' := Lib.hid W1; obtain ⟨p1, k1, rfl⟩ := W1.slice; clear hb1 W1)
  go_region_held3 (fun w' => (w'.cell? ⟨w.heap.size, 0, none⟩ = some (.slice pa (wrds a.natAbs).length ka) ∧ w'.cell? ⟨w.heap.size, 1, none⟩ = some (.bool da) ∧ w'.cell? ⟨w.heap.size, 2, none⟩ = some (.slice qa (wrds u).length ma)) ∧ (w'.cell? ⟨w.heap.size + 1, 0, none⟩ = some (.slice pb (wrds b.natAbs).length kb) ∧ w'.cell? ⟨w.heap.size + 1, 1, none⟩ = some (.bool db) ∧ w'.cell? ⟨w.heap.size + 1, 2, none⟩ = some (.slice qb (wrds t).length mb)))
    (first | go_keep | exact ⟨A3.ex, C3.ex⟩ | exact ⟨A2.ex, C2.ex⟩ | ((try dsimp only); (repeat' apply And.intro) <;> go_keep))
    (first
      | (go_at_call 36; (with_reducible refine (HSG.out _ _ _ (W1'.out.keep ((Below.refl _ _).drew) (Nat.le_refl _))).mono ?_); rintro e w2 ⟨v2, rfl, L2, hb2⟩; have A2 := RA.keep (bl_drew hb2); have C2 := RC.keep (bl_drew hb2); have Z2 := RZ.keep (bl_drew hb2); have BW2 := Lib.hid (bl_then B0.out (bl_drew hb2)); have hs2 := Nat.le_trans hsz (bl_drew hb2).size; have L2' := Lib.hid L2; obtain ⟨p2, k2, rfl⟩ := L2.open; clear L2)
      | (go_at_call 35; (with_reducible refine (HPU.out _ BW2.out).mono ?_); rintro e w3 ⟨v3, rfl, W3, hb3⟩; have A3 := A2.keep hb3; have C3 := C2.keep hb3; have Z3 := Z2.keep hb3; have W3' := Lib.hid (W3.base hs2); obtain ⟨p3, k3, rfl⟩ := W3.slice; clear W3; obtain ⟨z0, z1, z2⟩ := Z3.ex; have f0 := Z3.free 0; have f1 := Z3.free 1; have f2 := Z3.free 2))
  go_wp2
  refine bodyPost_ret (v := exV (.slice p2 (wrds Z.natAbs).length k2) (decide (Z < 0)) (.slice p3 (wrds U).length k3)) (by simp [results, Tryz.results17, go_sem, z0, z1, z2]) rfl ⟨_, rfl, ?_, ?_⟩
  · have h2 := L2'.out.keep hb3 (Nat.le_refl _)
    exact plusx_mk (((h2.put _ _ (by simp)).put _ _ (by simp)).put _ _ (by simp)) (fun c hc => HPP.out c (by omega)) ((((W3'.out.setCell _ (by simp)).setCell _ (by simp)).setCell _ (by simp)).inP fun c hc _ => HPP.out c (by omega))
  · (repeat refine Below.setCell ?_ (by simp <;> omega) _)
    exact bl_then BW2.out hb3
end Go.Proofs.YtafhboppojeafaaGreatDoor
namespace Go.Proofs.YtafhboppojeafaaGreatDoor
open Go.RowKit

theorem exactly_from (n : Int) (q : Nat) (s : ByteArray) (W : World) (h1 : -9223372036854775807 ≤ n) (h2 : n ≤ 9223372036854775807) (hq : q ≤ 10000) :
    Calls Tryz.prog 33 #[vaV 2 n (q : Int) s] W fun e w' => ∃ y, e = .returned y ∧ XArg W.heap.size w' y n (10 ^ q) ∧ Below W.heap.size W w' :=
  (exactly_2 (P := fun c => W.heap.size ≤ c) n q s W (fun _ h => h) h1 h2 hq).mono fun _ _ ⟨y, he, hx, hb⟩ => ⟨y, he, hx, hb⟩
/-- What the fitter of a fixed type captures. -/
def FitCap (k n : Int) (p q : Nat) (vy : Bool) (pic : ByteArray) (S Bd : Nat) (L : Int) (w : World) (cap : Array Value) : Prop :=
  ∃ bt bf c, cap = #[ptD bt, ptD bf] ∧ Row w bf #[.func (.func 103) #[] c] 73 ∧ FixCap w c k n p q vy pic S Bd L
theorem FitCap.later {k n : Int} {p q : Nat} {vy : Bool} {pic : ByteArray} {S Bd : Nat} {L : Int} {w w' : World} {cap : Array Value} (h : FitCap k n p q vy pic S Bd L w cap) (hb : Below w.heap.size w w') : FitCap k n p q vy pic S Bd L w' cap := by
  obtain ⟨bt, bf, c, e, h1, h2⟩ := h
  exact ⟨bt, bf, c, e, h1.keep hb, h2.later hb⟩
theorem fitting_2c (n L : Int) (p q : Nat) (vy : Bool) (pic : ByteArray) (W : World) (hp : p ≤ 10000) (hq : q ≤ 10000) :
    Calls Tryz.prog 34 #[.agg #[.int .i64 2, .int .i64 (p : Int), .int .i64 (q : Int), .int .i64 n, .bool vy, .string pic], .int .i64 0, .int .i64 L] W fun e w' => ∃ cap, e = .returned (.func (.func 73) #[] cap) ∧ FitCap 2 n p q vy pic (10 ^ q) (10 ^ p) L w' cap ∧ Below W.heap.size W w' :=
  (fitting_2 n L p q vy pic W hp hq).mono fun _ _ ⟨bt, bf, c, he, _, h2, h3, hb⟩ => ⟨_, he, ⟨bt, bf, c, rfl, h2, h3⟩, hb⟩
theorem fit_hcf : ∀ (args : Array Value) (W : World), (callFunc 103 args).run Tryz.prog W = .ok (.enter 103 args) W := fun _ _ => by kernel_rfl
theorem over_hcf : ∀ (args : Array Value) (W : World), (callFunc 17 args).run Tryz.prog W = .ok (.enter 17 args) W := fun _ _ => by kernel_rfl
theorem over_0 {a b : Int} {u t : Nat} {va vb : Value} {w : World} (hX : XArg 0 w va a u) (hY : XArg 0 w vb b t) (la : (wrds a.natAbs).length ≤ 4000) (lb : (wrds b.natAbs).length ≤ 4000) (lu : (wrds u).length ≤ 4000) (lt : (wrds t).length ≤ 4000) :
    Calls Tryz.prog 17 #[va, vb] w fun e w' => ∃ y, e = .returned y ∧ XArg 0 w' y (ovN a b t) (u * b.natAbs) ∧ Below w.heap.size w w' :=
  (over_x (P := fun c => 0 ≤ c) hX hY (fun _ _ => Nat.zero_le _) la lb lu lt).mono fun _ _ ⟨y, he, hx, hb⟩ => ⟨y, he, hx, hb⟩

theorem third_rec (w : World) :
    Calls Tryz.prog 16 #[vaV 2 1 0 emp, vaV 2 3 0 emp, .agg #[.int .i64 2, .int .i64 15, .int .i64 14, .int .i64 0, .bool false, .string emp], fnv 17, .int .i64 2] w fun e w' => e = .returned (.tuple #[vaV 2 33333333333333 14 emp, .int .i64 0, .int .i64 0]) ∧ Below w.heap.size w w' := by
  refine rec_x (F := FitCap 2 0 15 14 false emp (10 ^ 14) (10 ^ 15) 2) (za := 1) (ua := 10 ^ 0) (zb := 3) (ub := 10 ^ 0) (Z := 1) (U := 3) over_hcf ?_ ?_ ?_ ?_ ?_ ?_ ?_ ?_
  · intro t ht W
    rcases List.mem_cons.1 ht with rfl | ht
    · exact right_2_yes 1 0 W (by decide) (by decide)
    · rw [List.mem_singleton.1 ht]
      exact right_2_yes 3 0 W (by decide) (by decide)
  · exact fun W => demValid_yes 2 15 14 0 false emp W (by decide) (by simp [validS, validFixedS, Lib.toList_data])
  · exact fun W => exactly_from 1 0 emp W (by decide) (by decide) (by decide)
  · exact fun W => exactly_from 3 0 emp W (by decide) (by decide) (by decide)
  · exact fun h hb => h.later hb
  · exact fun W => fitting_2c 0 2 15 14 false emp W (by decide) (by decide)
  · intro W vx vy hX hY
    exact over_0 hX hY (Nat.le_trans (wrds_length _ 1 (by decide)) (by decide)) (Nat.le_trans (wrds_length _ 1 (by decide)) (by decide)) (Nat.le_trans (wrds_length _ 1 (by decide)) (by decide)) (Nat.le_trans (wrds_length _ 1 (by decide)) (by decide))
  · rintro W cap vx ⟨bt, bf, c, rfl, hR, hC⟩ hX
    refine fitting1_x fit_hcf hR hX (Nat.le_trans (wrds_length 3 1 (by decide)) (by decide)) (by decide) fun W' hW' => ?_
    exact fit1_fit (M := 100000000000000) (Q := 33333333333333) (R := 33333333333333) (hC.later hW') (hX.keep hW' (Nat.le_refl _)) (Nat.le_trans (wrds_length _ 1 (by decide)) (by decide)) (Nat.le_trans (wrds_length _ 2 (by decide)) (by decide)) (by decide) (by decide) (divided_1 (by decide) (by decide) (by decide) (Nat.le_trans (wrds_length _ 2 (by decide)) (by decide))) (by decide) (Nat.le_trans (wrds_length _ 2 (by decide)) (by decide)) rfl (by decide)

set_option maxRecDepth 100000 in
set_option maxHeartbeats 1000000 in
theorem third (w : World) :
    Calls Tryz.prog 8 #[vaV 2 1 0 emp, vaV 2 3 0 emp, .agg #[.int .i64 2, .int .i64 15, .int .i64 14, .int .i64 0, .bool false, .string emp]] w fun e w' => e = .returned (.tuple #[vaV 2 33333333333333 14 emp, .int .i64 0, .int .i64 0]) ∧ Below w.heap.size w w' := by
  have HR : Hid (∀ W, Calls Tryz.prog 16 #[vaV 2 1 0 emp, vaV 2 3 0 emp, .agg #[.int .i64 2, .int .i64 15, .int .i64 14, .int .i64 0, .bool false, .string emp], fnv 17, .int .i64 2] W fun e w' => e = .returned (.tuple #[vaV 2 33333333333333 14 emp, .int .i64 0, .int .i64 0]) ∧ Below W.heap.size W w') := Lib.hid third_rec
  have RZ := row_n3 w (.cells (vaC 2 1 0 emp) 23) (.cells (vaC 2 3 0 emp) 23) (.cells #[.int .i64 2, .int .i64 15, .int .i64 14, .int .i64 0, .bool false, .string emp] 25) (vaC 0 0 0 emp) 23
  go_enter Tryz.func8, Tryz.ntmps8
  go_wp2_with (go_at_call 16; (refine (HR.out _).mono ?_); rintro e w2 ⟨rfl, hb2⟩; have Z2 := RZ.keep hb2; have B2 := Lib.hid (bl_box (Below.refl _ w |>.alloc (Nat.le_refl _) _ |>.alloc (by simp) _ |>.alloc (by simp; omega) _) hb2); obtain ⟨z0, z1, z2, z3⟩ := Z2.four; have f0 := Z2.free 0; have f1 := Z2.free 1; have f2 := Z2.free 2; have f3 := Z2.free 3)
  refine bodyPost_ret (v := .tuple #[vaV 2 33333333333333 14 emp, .int .i64 0, .int .i64 0]) (by simp [results, Tryz.results8, go_sem, z0, z1, z2, z3]) rfl ⟨rfl, ?_⟩
  (repeat refine Below.setCell ?_ (by simp <;> omega) _)
  exact B2.out
end Go.Proofs.YtafhboppojeafaaGreatDoor
