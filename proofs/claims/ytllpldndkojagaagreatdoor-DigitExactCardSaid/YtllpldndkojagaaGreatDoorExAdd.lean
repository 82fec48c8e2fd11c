/- digit.Add and Subtract of two numbers of one fixed kind and scale, into the widest type of that kind and scale. digit.Add and Subtract of numbers of one fixed kind and scale; ironbarkref01.Right of them. -/
import Derived.Test.YtllpldndkojagaaGreatDoorWrdThird
import Derived.Test.YtllpldndkojagaaGreatDoorWrdDivd
import Derived.Test.YtllpldndkojagaaGreatDoorRefRight
import Derived.Test.YtllpldndkojagaaGreatDoorWrdAwake
namespace Go.Proofs.YtllpldndkojagaaGreatDoor
open Go.RowKit

/-- The two fixed kinds: base and precision. -/
def KindOK (k : Int) (β P : Nat) : Prop := (k = 1 ∧ β = 2 ∧ P = 31) ∨ (k = 2 ∧ β = 10 ∧ P = 15)
theorem KindOK.bound {k : Int} {β P : Nat} (h : KindOK k β P) : 0 < β ^ P ∧ β ^ P ≤ 1000000000000000 := by
  rcases h with ⟨_, rfl, rfl⟩ | ⟨_, rfl, rfl⟩ <;> decide
theorem KindOK.scale {k : Int} {β P : Nat} (h : KindOK k β P) {q : Nat} (hq : q ≤ 31) : 0 < β ^ q ∧ (wrds (β ^ q)).length ≤ 4 := by
  have hb : 0 < β ∧ β ≤ 10 := by rcases h with ⟨_, rfl, rfl⟩ | ⟨_, rfl, rfl⟩ <;> decide
  refine ⟨Nat.pow_pos hb.1, wrds_length _ 4 ?_⟩
  exact Nat.lt_of_le_of_lt (Nat.le_trans (Nat.pow_le_pow_left hb.2 q) (Nat.pow_le_pow_right (by decide) hq)) (by decide)

set_option maxHeartbeats 400000 in
theorem rBin_yes (k n q : Int) (w : World) (h : -2147483648 < n ∧ n < 2147483648) (h' : 0 ≤ q ∧ q ≤ 31) :
    Calls Tryz.prog 37 #[vaV k n q emp] w (YesD w) := by
  go_enter Tryz.func37, Tryz.ntmps37
  go_wp2_with (go_at_call 77; refine (rFixed_yes _ _ _ _ _ (by omega) (by omega) h h').mono ?_; rintro e w' ⟨rfl, hb⟩)
  go_ret
  exact ⟨rfl, below_then (by go_grown) hb (by simp)⟩
set_option maxHeartbeats 400000 in
theorem right_1_yes (n q : Int) (w : World) (h : -2147483648 < n ∧ n < 2147483648) (h' : 0 ≤ q ∧ q ≤ 31) :
    Calls Tryz.prog 34 #[vaV 1 n q emp] w (YesD w) := by
  have hfd := fld_1
  have hn : ∀ (f : Nat) (w : World), (binOp .neq 24 (fnv f) .nilFunc).run Tryz.prog w = .ok (.bool true) w := fun _ _ => by kernel_rfl
  go_enter Tryz.func34, Tryz.ntmps34
  go_wp2_with (first
    | (go_at_call 22; refine (rules_1 _).mono ?_; rintro e w1 ⟨rfl, hb⟩; obtain ⟨hc, hf⟩ := bcell hb)
    | (go_at_call 37; refine (rBin_yes _ _ _ _ h h').mono ?_; rintro e w2 ⟨rfl, hb2⟩))
  go_ret
  exact ⟨rfl, below_then (below_then (by go_grown) hb (by simp)) hb2 (by have := hb.size; simp at this ⊢; omega)⟩
theorem right_k {k n : Int} {β P q : Nat} (h : KindOK k β P) (h1 : -((β ^ P : Nat) : Int) < n) (h2 : n < ((β ^ P : Nat) : Int)) (hq : q ≤ 31) (w : World) : Calls Tryz.prog 34 #[vaV k n (q : Int) emp] w (YesD w) := by
  rcases h with ⟨rfl, rfl, rfl⟩ | ⟨rfl, rfl, rfl⟩
  · exact right_1_yes n q w ⟨by simpa using h1, by simpa using h2⟩ ⟨by omega, by omega⟩
  · exact right_2_yes n q w ⟨by simpa using h1, by simpa using h2⟩ ⟨by omega, by omega⟩
theorem valid_k {k : Int} {β P q : Nat} (h : KindOK k β P) (hq : q ≤ 31) (w : World) : Calls Tryz.prog 24 #[tyV k (P : Int) (q : Int) 0 false emp] w fun e w' => e = .returned (.tuple #[]) ∧ Below w.heap.size w w' := by
  rcases h with ⟨rfl, rfl, rfl⟩ | ⟨rfl, rfl, rfl⟩
  · exact demValid_yes 1 _ _ 0 false emp w (by decide) (by simp [validS, validFixedS, Lib.toList_data]; omega)
  · exact demValid_yes 2 _ _ 0 false emp w (by decide) (by simp [validS, validFixedS, Lib.toList_data]; omega)
theorem exactly_k {k n : Int} {β P q : Nat} (h : KindOK k β P) (s : ByteArray) (W : World) (h1 : -9223372036854775807 ≤ n) (h2 : n ≤ 9223372036854775807) (hq : q ≤ 10000) :
    Calls Tryz.prog 25 #[vaV k n (q : Int) s] W fun e w' => ∃ y, e = .returned y ∧ XArg W.heap.size w' y n (β ^ q) ∧ Below W.heap.size W w' := by
  rcases h with ⟨rfl, rfl, rfl⟩ | ⟨rfl, rfl, rfl⟩
  · exact (exactly_1 (P := fun c => W.heap.size ≤ c) n q s W (fun _ h => h) h1 h2 hq).mono fun _ _ ⟨y, he, hx, hb⟩ => ⟨y, he, hx, hb⟩
  · exact exactly_from n q s W h1 h2 hq
theorem fitting_k {k : Int} {β P q : Nat} (h : KindOK k β P) (n L : Int) (vy : Bool) (pic : ByteArray) (W : World) (hq : q ≤ 10000) :
    Calls Tryz.prog 26 #[.agg #[.int .i64 k, .int .i64 (P : Int), .int .i64 (q : Int), .int .i64 n, .bool vy, .string pic], .int .i64 0, .int .i64 L] W fun e w' => ∃ cap, e = .returned (.func (.func 68) #[] cap) ∧ FitCap k n P q vy pic (β ^ q) (β ^ P) L w' cap ∧ Below W.heap.size W w' := by
  rcases h with ⟨rfl, rfl, rfl⟩ | ⟨rfl, rfl, rfl⟩
  · exact (fitting_1 n L 31 q vy pic W (by decide) hq).mono fun _ _ ⟨bt, bf, c, he, _, h2, h3, hb⟩ => ⟨_, he, ⟨bt, bf, c, rfl, h2, h3⟩, hb⟩
  · exact fitting_2c n L 15 q vy pic W (by decide) hq

theorem small_len {m : Nat} (h : m ≤ 4000000000000000) : (wrds m).length ≤ 2 := wrds_length m 2 (by omega)
theorem fixN_abs (z : Int) : fixN z z.natAbs = z := by unfold fixN; split <;> omega
/-- What fits: a number over its own scale, in the widest type. -/
theorem fits_same {k z : Int} {β P q : Nat} (h : KindOK k β P) (hq : q ≤ 31) (hz : z.natAbs < β ^ P) {W : World} {cap : Array Value} {vx : Value} (hF : FitCap k 0 P q false emp (β ^ q) (β ^ P) 2 W cap) (hX : XArg 0 W vx z (β ^ q)) :
    Calls Tryz.prog 68 (#[vx] ++ cap) W fun e w' => e = .returned (.tuple #[vaV k z q emp, .int .i64 0]) ∧ Below W.heap.size W w' := by
  obtain ⟨bt, bf, c, rfl, hR, hC⟩ := hF
  obtain ⟨s0, s1⟩ := h.scale hq
  obtain ⟨b0, b1⟩ := h.bound
  have l1 := small_len (m := z.natAbs) (by omega)
  have l2 := wrds_mul_len z.natAbs (β ^ q)
  refine fitting1_x fit_hcf hR hX (by omega) (by omega) fun W' hW' => ?_
  have := fit1_fit (M := z.natAbs * β ^ q) (Q := z.natAbs) (R := z.natAbs) (hC.later hW') (hX.keep hW' (Nat.le_refl _)) (by omega) (by omega) rfl (Nat.mul_div_cancel _ s0) (div_any s0 (by omega) (by omega)) (by omega) (by omega) rfl hz
  rwa [fixN_abs] at this
theorem fits_not {k z : Int} {β P q : Nat} (h : KindOK k β P) (hq : q ≤ 31) (hz : β ^ P ≤ z.natAbs) (hz2 : z.natAbs ≤ 2000000000000000) {W : World} {cap : Array Value} {vx : Value} (hF : FitCap k 0 P q false emp (β ^ q) (β ^ P) 2 W cap) (hX : XArg 0 W vx z (β ^ q)) :
    Calls Tryz.prog 68 (#[vx] ++ cap) W fun e w' => e = .returned (.tuple #[vaV k (fixN z (z.natAbs % β ^ P)) q emp, .int .i64 2]) ∧ Below W.heap.size W w' := by
  obtain ⟨bt, bf, c, rfl, hR, hC⟩ := hF
  obtain ⟨s0, s1⟩ := h.scale hq
  obtain ⟨b0, b1⟩ := h.bound
  have l1 := small_len (m := z.natAbs) (by omega)
  have l3 := small_len (m := β ^ P) (by omega)
  have l2 := wrds_mul_len z.natAbs (β ^ q)
  refine fitting1_x fit_hcf hR hX (by omega) (by omega) fun W' hW' => ?_
  exact fit1_big (M := z.natAbs * β ^ q) (Q := z.natAbs) (hC.later hW') (hX.keep hW' (Nat.le_refl _)) (by omega) (by omega) rfl (Nat.mul_div_cancel _ s0) (div_any s0 (by omega) (by omega)) (by omega) (by omega) hz (div_any b0 (by omega) (by omega)) b0 rfl

theorem plus_hcf : ∀ (args : Array Value) (W : World), (callFunc 14 args).run Tryz.prog W = .ok (.enter 14 args) W := fun _ _ => by kernel_rfl
theorem minus_hcf : ∀ (args : Array Value) (W : World), (callFunc 15 args).run Tryz.prog W = .ok (.enter 15 args) W := fun _ _ => by kernel_rfl
/-- reckoned, of two numbers of one fixed kind and scale. -/
theorem rec_same {opf : Nat} {k a b z N c : Int} {β P q : Nat} (h : KindOK k β P) (hq : q ≤ 31) (a1 : -((β ^ P : Nat) : Int) < a) (a2 : a < ((β ^ P : Nat) : Int)) (b1 : -((β ^ P : Nat) : Int) < b) (b2 : b < ((β ^ P : Nat) : Int)) (w : World)
    (hcf : ∀ (args : Array Value) (W : World), (callFunc opf args).run Tryz.prog W = .ok (.enter opf args) W)
    (hOP : ∀ W vx vy, XArg 0 W vx a (β ^ q) → XArg 0 W vy b (β ^ q) → Calls Tryz.prog opf #[vx, vy] W fun e w' => ∃ y, e = .returned y ∧ XArg 0 w' y z (β ^ q) ∧ Below W.heap.size W w')
    (hFX : ∀ W cap vx, FitCap k 0 P q false emp (β ^ q) (β ^ P) 2 W cap → XArg 0 W vx z (β ^ q) → Calls Tryz.prog 68 (#[vx] ++ cap) W fun e w' => e = .returned (.tuple #[vaV k N q emp, .int .i64 c]) ∧ Below W.heap.size W w') :
    Calls Tryz.prog 13 #[vaV k a q emp, vaV k b q emp, .agg #[.int .i64 k, .int .i64 (P : Int), .int .i64 (q : Int), .int .i64 0, .bool false, .string emp], fnv opf, .int .i64 2] w fun e w' => e = .returned (.tuple #[vaV k N q emp, .int .i64 c, .int .i64 0]) ∧ Below w.heap.size w w' := by
  have hb := h.bound
  refine rec_x (F := FitCap k 0 P q false emp (β ^ q) (β ^ P) 2) (za := a) (ua := β ^ q) (zb := b) (ub := β ^ q) (Z := z) (U := β ^ q) hcf ?_ (valid_k h hq) (fun W => exactly_k h _ W (by omega) (by omega) (by omega)) (fun W => exactly_k h _ W (by omega) (by omega) (by omega)) (fun h hb => h.later hb) (fun W => fitting_k h 0 2 false emp W (by omega)) hOP hFX
  intro t ht W
  rcases List.mem_cons.1 ht with rfl | ht
  · exact right_k h a1 a2 hq W
  · rw [List.mem_singleton.1 ht]
    exact right_k h b1 b2 hq W
theorem plus_same {k a b : Int} {β P q : Nat} (h : KindOK k β P) (hq : q ≤ 31) (la : a.natAbs ≤ 1000000000000000) (lb : b.natAbs ≤ 1000000000000000) : ∀ W vx vy, XArg 0 W vx a (β ^ q) → XArg 0 W vy b (β ^ q) → Calls Tryz.prog 14 #[vx, vy] W fun e w' => ∃ y, e = .returned y ∧ XArg 0 w' y (a + b) (β ^ q) ∧ Below W.heap.size W w' := by
  intro W vx vy hX hY
  obtain ⟨s0, s1⟩ := h.scale hq
  have l1 := small_len (m := a.natAbs) (by omega)
  have l2 := small_len (m := b.natAbs) (by omega)
  refine (plus_x (P := fun c => 0 ≤ c) hX hY (fun _ _ => Nat.zero_le _) (by omega) (by omega) (by omega) (by omega)).mono ?_
  rintro e w' ⟨y, he, hx, hb⟩
  rw [plN, if_pos rfl, plU, if_pos rfl] at hx
  exact ⟨y, he, hx, hb⟩
theorem minus_same {k a b : Int} {β P q : Nat} (h : KindOK k β P) (hq : q ≤ 31) (la : a.natAbs ≤ 1000000000000000) (lb : b.natAbs ≤ 1000000000000000) : ∀ W vx vy, XArg 0 W vx a (β ^ q) → XArg 0 W vy b (β ^ q) → Calls Tryz.prog 15 #[vx, vy] W fun e w' => ∃ y, e = .returned y ∧ XArg 0 w' y (a - b) (β ^ q) ∧ Below W.heap.size W w' := by
  intro W vx vy hX hY
  obtain ⟨s0, s1⟩ := h.scale hq
  have l1 := small_len (m := a.natAbs) (by omega)
  have l2 := small_len (m := b.natAbs) (by omega)
  refine (minus_x (P := fun c => 0 ≤ c) hX hY (fun _ _ => Nat.zero_le _) (by omega) (by omega) (by omega) (by omega)).mono ?_
  rintro e w' ⟨y, he, hx, hb⟩
  rw [plN, if_pos rfl, plU, if_pos rfl] at hx
  exact ⟨y, he, hx, hb⟩
end Go.Proofs.YtllpldndkojagaaGreatDoor
namespace Go.Proofs.YtllpldndkojagaaGreatDoor
open Go.RowKit

set_option maxRecDepth 100000 in
set_option maxHeartbeats 2000000 in
theorem add_w {k a b N c P Q : Int} (w : World) (h : ∀ W, Calls Tryz.prog 13 #[vaV k a Q emp, vaV k b Q emp, .agg #[.int .i64 k, .int .i64 P, .int .i64 Q, .int .i64 0, .bool false, .string emp], fnv 14, .int .i64 2] W fun e w' => e = .returned (.tuple #[vaV k N Q emp, .int .i64 c, .int .i64 0]) ∧ Below W.heap.size W w') :
    Calls Tryz.prog 6 #[vaV k a Q emp, vaV k b Q emp, .agg #[.int .i64 k, .int .i64 P, .int .i64 Q, .int .i64 0, .bool false, .string emp]] w fun e w' => e = .returned (.tuple #[vaV k N Q emp, .int .i64 c, .int .i64 0]) ∧ Below w.heap.size w w' := by
  have HR := Lib.hid h
  clear h
  have RZ := row_n3 w (.cells (vaC k a Q emp) 23) (.cells (vaC k b Q emp) 23) (.cells #[.int .i64 k, .int .i64 P, .int .i64 Q, .int .i64 0, .bool false, .string emp] 27) (vaC 0 0 0 emp) 23
  go_enter Tryz.func6, Tryz.ntmps6
  go_wp2_with (go_at_call 13; (refine (HR.out _).mono ?_); rintro e w2 ⟨rfl, hb2⟩; have Z2 := RZ.keep hb2; have B2 := Lib.hid (bl_box (Below.refl _ w |>.alloc (Nat.le_refl _) _ |>.alloc (by simp) _ |>.alloc (by simp; omega) _) hb2); obtain ⟨z0, z1, z2, z3⟩ := Z2.four; have f0 := Z2.free 0; have f1 := Z2.free 1; have f2 := Z2.free 2; have f3 := Z2.free 3)
  refine bodyPost_ret (v := .tuple #[vaV k N Q emp, .int .i64 c, .int .i64 0]) (by simp [results, Tryz.results6, go_sem, z0, z1, z2, z3]) rfl ⟨rfl, ?_⟩
  (repeat refine Below.setCell ?_ (by simp <;> omega) _)
  exact B2.out

set_option maxRecDepth 100000 in
set_option maxHeartbeats 2000000 in
theorem sub_w {k a b N c P Q : Int} (w : World) (h : ∀ W, Calls Tryz.prog 13 #[vaV k a Q emp, vaV k b Q emp, .agg #[.int .i64 k, .int .i64 P, .int .i64 Q, .int .i64 0, .bool false, .string emp], fnv 15, .int .i64 2] W fun e w' => e = .returned (.tuple #[vaV k N Q emp, .int .i64 c, .int .i64 0]) ∧ Below W.heap.size W w') :
    Calls Tryz.prog 7 #[vaV k a Q emp, vaV k b Q emp, .agg #[.int .i64 k, .int .i64 P, .int .i64 Q, .int .i64 0, .bool false, .string emp]] w fun e w' => e = .returned (.tuple #[vaV k N Q emp, .int .i64 c, .int .i64 0]) ∧ Below w.heap.size w w' := by
  have HR := Lib.hid h
  clear h
  have RZ := row_n3 w (.cells (vaC k a Q emp) 23) (.cells (vaC k b Q emp) 23) (.cells #[.int .i64 k, .int .i64 P, .int .i64 Q, .int .i64 0, .bool false, .string emp] 27) (vaC 0 0 0 emp) 23
  go_enter Tryz.func7, Tryz.ntmps7
  go_wp2_with (go_at_call 13; (refine (HR.out _).mono ?_); rintro e w2 ⟨rfl, hb2⟩; have Z2 := RZ.keep hb2; have B2 := Lib.hid (bl_box (Below.refl _ w |>.alloc (Nat.le_refl _) _ |>.alloc (by simp) _ |>.alloc (by simp; omega) _) hb2); obtain ⟨z0, z1, z2, z3⟩ := Z2.four; have f0 := Z2.free 0; have f1 := Z2.free 1; have f2 := Z2.free 2; have f3 := Z2.free 3)
  refine bodyPost_ret (v := .tuple #[vaV k N Q emp, .int .i64 c, .int .i64 0]) (by simp [results, Tryz.results7, go_sem, z0, z1, z2, z3]) rfl ⟨rfl, ?_⟩
  (repeat refine Below.setCell ?_ (by simp <;> omega) _)
  exact B2.out

set_option maxRecDepth 100000 in
set_option maxHeartbeats 800000 in
theorem refRight_1 (n q : Int) (w : World) (h : -2147483648 < n ∧ n < 2147483648) (h' : 0 ≤ q ∧ q ≤ 31) :
    Calls Tryz.prog 4 #[vaV 1 n q emp] w fun e w' => e = .returned (.bool true) ∧ Below w.heap.size w w' := by
  obtain ⟨h1, h2⟩ := h
  obtain ⟨h3, h4⟩ := h'
  have hs1 : emp.toList.isEmpty = true := by rw [ByteArray.toList_eq]; rfl
  go_enter Tryz.func4, Tryz.ntmps4
  go_wp2_with (go_at_call 8; refine (numericB 1 true _ (by decide)).mono ?_; rintro e w' ⟨rfl, rfl⟩)
  all_goals first
    | (go_ret; exact ⟨ret_bool (by simp_all), by go_grown⟩)
    | (exfalso; simp_all; omega)
set_option maxRecDepth 100000 in
set_option maxHeartbeats 800000 in
theorem refRight_2 (n q : Int) (w : World) (h : -1000000000000000 < n ∧ n < 1000000000000000) (h' : 0 ≤ q ∧ q ≤ 31) :
    Calls Tryz.prog 4 #[vaV 2 n q emp] w fun e w' => e = .returned (.bool true) ∧ Below w.heap.size w w' := by
  obtain ⟨h1, h2⟩ := h
  obtain ⟨h3, h4⟩ := h'
  have hs1 : emp.toList.isEmpty = true := by rw [ByteArray.toList_eq]; rfl
  go_enter Tryz.func4, Tryz.ntmps4
  go_wp2_with (go_at_call 8; refine (numericB 2 true _ (by decide)).mono ?_; rintro e w' ⟨rfl, rfl⟩)
  all_goals first
    | (go_ret; exact ⟨ret_bool (by simp_all), by go_grown⟩)
    | (exfalso; simp_all; omega)
end Go.Proofs.YtllpldndkojagaaGreatDoor
