/- digit.Divide of one by three, in fifteen digits. -/
import Derived.Test.YtjdgefgdekanjaaGreatDoorWrdRec1
import Derived.Test.YtjdgefgdekanjaaGreatDoorWrdOver
import Derived.Test.YtjdgefgdekanjaaGreatDoorWrdExs
import Derived.Test.YtjdgefgdekanjaaGreatDoorWrdNum
namespace Go.Proofs.YtjdgefgdekanjaaGreatDoor
open Go.RowKit

theorem exactly_from (n : Int) (q : Nat) (s : ByteArray) (W : World) (h1 : -9223372036854775807 ≤ n) (h2 : n ≤ 9223372036854775807) (hq : q ≤ 10000) :
    Calls Tryz.prog 69 #[vaV 2 n (q : Int) s] W fun e w' => ∃ y, e = .returned y ∧ XArg W.heap.size w' y n (10 ^ q) ∧ Below W.heap.size W w' :=
  (exactly_2 (P := fun c => W.heap.size ≤ c) n q s W (fun _ h => h) h1 h2 hq).mono fun _ _ ⟨y, he, hx, hb⟩ => ⟨y, he, hx, hb⟩
/-- What the fitter of a fixed type captures. -/
def FitCap (k n : Int) (p q : Nat) (vy : Bool) (pic : ByteArray) (S Bd : Nat) (L : Int) (w : World) (cap : Array Value) : Prop :=
  ∃ bt bf c, cap = #[ptD bt, ptD bf] ∧ Row w bf #[.func (.func 103) #[] c] 75 ∧ FixCap w c k n p q vy pic S Bd L
theorem FitCap.later {k n : Int} {p q : Nat} {vy : Bool} {pic : ByteArray} {S Bd : Nat} {L : Int} {w w' : World} {cap : Array Value} (h : FitCap k n p q vy pic S Bd L w cap) (hb : Below w.heap.size w w') : FitCap k n p q vy pic S Bd L w' cap := by
  obtain ⟨bt, bf, c, e, h1, h2⟩ := h
  exact ⟨bt, bf, c, e, h1.keep hb, h2.later hb⟩
theorem fitting_2c (n L : Int) (p q : Nat) (vy : Bool) (pic : ByteArray) (W : World) (hp : p ≤ 10000) (hq : q ≤ 10000) :
    Calls Tryz.prog 70 #[.agg #[.int .i64 2, .int .i64 (p : Int), .int .i64 (q : Int), .int .i64 n, .bool vy, .string pic], .int .i64 0, .int .i64 L] W fun e w' => ∃ cap, e = .returned (.func (.func 100) #[] cap) ∧ FitCap 2 n p q vy pic (10 ^ q) (10 ^ p) L w' cap ∧ Below W.heap.size W w' :=
  (fitting_2 n L p q vy pic W hp hq).mono fun _ _ ⟨bt, bf, c, he, _, h2, h3, hb⟩ => ⟨_, he, ⟨bt, bf, c, rfl, h2, h3⟩, hb⟩
theorem fit_hcf : ∀ (args : Array Value) (W : World), (callFunc 103 args).run Tryz.prog W = .ok (.enter 103 args) W := fun _ _ => by kernel_rfl
theorem over_hcf : ∀ (args : Array Value) (W : World), (callFunc 29 args).run Tryz.prog W = .ok (.enter 29 args) W := fun _ _ => by kernel_rfl
theorem over_0 {a b : Int} {u t : Nat} {va vb : Value} {w : World} (hX : XArg 0 w va a u) (hY : XArg 0 w vb b t) (la : (wrds a.natAbs).length ≤ 4000) (lb : (wrds b.natAbs).length ≤ 4000) (lu : (wrds u).length ≤ 4000) (lt : (wrds t).length ≤ 4000) :
    Calls Tryz.prog 29 #[va, vb] w fun e w' => ∃ y, e = .returned y ∧ XArg 0 w' y (ovN a b t) (u * b.natAbs) ∧ Below w.heap.size w w' :=
  (over_x (P := fun c => 0 ≤ c) hX hY (fun _ _ => Nat.zero_le _) la lb lu lt).mono fun _ _ ⟨y, he, hx, hb⟩ => ⟨y, he, hx, hb⟩

theorem third_rec (w : World) :
    Calls Tryz.prog 28 #[vaV 2 1 0 emp, vaV 2 3 0 emp, .agg #[.int .i64 2, .int .i64 15, .int .i64 14, .int .i64 0, .bool false, .string emp], fnv 29, .int .i64 2] w fun e w' => e = .returned (.tuple #[vaV 2 33333333333333 14 emp, .int .i64 0, .int .i64 0]) ∧ Below w.heap.size w w' := by
  refine rec_x (F := FitCap 2 0 15 14 false emp (10 ^ 14) (10 ^ 15) 2) (za := 1) (ua := 10 ^ 0) (zb := 3) (ub := 10 ^ 0) (Z := 1) (U := 3) over_hcf ?_ ?_ ?_ ?_ ?_ ?_ ?_ ?_
  · intro t ht W
    rcases List.mem_cons.1 ht with rfl | ht
    · exact right_2_yes 1 0 W (by decide) (by decide)
    · rw [List.mem_singleton.1 ht]
      exact right_2_yes 3 0 W (by decide) (by decide)
  · exact fun W => demValid_yes 2 15 14 0 false emp W (by decide) (by simp [validS, validFixedS, Lib.toList_data])
  · exact fun W => exactly_from 1 0 emp W (by decide) (by decide) (by decide)
  · exact fun W => exactly_from 3 0 emp W (by decide) (by decide) (by decide)
  · exact fun h hb => h.later hb
  · exact fun W => fitting_2c 0 2 15 14 false emp W (by decide) (by decide)
  · intro W vx vy hX hY
    exact over_0 hX hY (Nat.le_trans (wrds_length _ 1 (by decide)) (by decide)) (Nat.le_trans (wrds_length _ 1 (by decide)) (by decide)) (Nat.le_trans (wrds_length _ 1 (by decide)) (by decide)) (Nat.le_trans (wrds_length _ 1 (by decide)) (by decide))
  · rintro W cap vx ⟨bt, bf, c, rfl, hR, hC⟩ hX
    refine fitting1_x fit_hcf hR hX (Nat.le_trans (wrds_length 3 1 (by decide)) (by decide)) (by decide) fun W' hW' => ?_
    exact fit1_fit (M := 100000000000000) (Q := 33333333333333) (R := 33333333333333) (hC.later hW') (hX.keep hW' (Nat.le_refl _)) (Nat.le_trans (wrds_length _ 1 (by decide)) (by decide)) (Nat.le_trans (wrds_length _ 2 (by decide)) (by decide)) (by decide) (by decide) (divided_1 (by decide) (by decide) (by decide) (Nat.le_trans (wrds_length _ 2 (by decide)) (by decide))) (by decide) (Nat.le_trans (wrds_length _ 2 (by decide)) (by decide)) rfl (by decide)

set_option maxRecDepth 100000 in
set_option maxHeartbeats 1000000 in
theorem third (w : World) :
    Calls Tryz.prog 14 #[vaV 2 1 0 emp, vaV 2 3 0 emp, .agg #[.int .i64 2, .int .i64 15, .int .i64 14, .int .i64 0, .bool false, .string emp]] w fun e w' => e = .returned (.tuple #[vaV 2 33333333333333 14 emp, .int .i64 0, .int .i64 0]) ∧ Below w.heap.size w w' := by
  have HR : Hid (∀ W, Calls Tryz.prog 28 #[vaV 2 1 0 emp, vaV 2 3 0 emp, .agg #[.int .i64 2, .int .i64 15, .int .i64 14, .int .i64 0, .bool false, .string emp], fnv 29, .int .i64 2] W fun e w' => e = .returned (.tuple #[vaV 2 33333333333333 14 emp, .int .i64 0, .int .i64 0]) ∧ Below W.heap.size W w') := Lib.hid third_rec
  have RZ := row_n3 w (.cells (vaC 2 1 0 emp) 23) (.cells (vaC 2 3 0 emp) 23) (.cells #[.int .i64 2, .int .i64 15, .int .i64 14, .int .i64 0, .bool false, .string emp] 25) (vaC 0 0 0 emp) 23
  go_enter Tryz.func14, Tryz.ntmps14
  go_wp2_with (go_at_call 28; (refine (HR.out _).mono ?_); rintro e w2 ⟨rfl, hb2⟩; have Z2 := RZ.keep hb2; have B2 := Lib.hid (bl_box (Below.refl _ w |>.alloc (Nat.le_refl _) _ |>.alloc (by simp) _ |>.alloc (by simp; omega) _) hb2); obtain ⟨z0, z1, z2, z3⟩ := Z2.four; have f0 := Z2.free 0; have f1 := Z2.free 1; have f2 := Z2.free 2; have f3 := Z2.free 3)
  refine bodyPost_ret (v := .tuple #[vaV 2 33333333333333 14 emp, .int .i64 0, .int .i64 0]) (by simp [results, Tryz.results14, go_sem, z0, z1, z2, z3]) rfl ⟨rfl, ?_⟩
  (repeat refine Below.setCell ?_ (by simp <;> omega) _)
  exact B2.out
end Go.Proofs.YtjdgefgdekanjaaGreatDoor
