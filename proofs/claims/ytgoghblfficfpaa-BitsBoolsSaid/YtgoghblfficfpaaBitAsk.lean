/- Package bits, what asks of places: begins, isIn, not; least, many. -/
import Derived.Test.YtgoghblfficfpaaBitTell2
namespace Go.Proofs.Ytgoghblfficfpaa
open Go.RowKit

/-- A function of the program that answers of a place, for the places below n, in any world behind w. -/
def Asks (w : World) (fn : Nat) (cap : Array Value) (n : Nat) (p : Nat → Bool) : Prop :=
  (∀ (args : Array Value) (W : World), (callFunc fn args).run Try.prog W = .ok (.enter fn args) W) ∧
  ∀ (i : Nat) (W : World), i < n → Below w.heap.size w W → Calls Try.prog fn (#[.int .i64 i] ++ cap) W fun e w' => e = .returned (.bool (p i)) ∧ Below W.heap.size W w'
theorem Asks.later {w w' : World} {fn : Nat} {cap : Array Value} {n : Nat} {p : Nat → Bool} (h : Asks w fn cap n p) (hB : Below w.heap.size w w') : Asks w' fn cap n p :=
  ⟨h.1, fun i W hi hW => h.2 i W hi (bl_then hB hW)⟩
def GivesA (w : World) (n : Nat) (p : Nat → Bool) (e : Ending) (w' : World) : Prop := ∃ fn cap, e = .returned (fnC fn cap) ∧ Asks w' fn cap n p ∧ Below w.heap.size w w'

set_option maxHeartbeats 1000000 in
theorem least_any (k n q : Int) (s : ByteArray) (fn : Nat) (cap : Array Value) (p : Nat → Bool) (w : World) (hs : s.size ≤ 100000) (hA : Asks w fn cap s.size p) :
    Calls Try.prog 75 #[vlV k n q s, fnC fn cap] w fun e w' => e = .returned (.int .i64 (leastN p s.size)) ∧ Below w.heap.size w w' := by
  have hcf := hA.1
  have HA := Lib.hid hA
  clear hA
  go_enter Try.func75, Try.ntmps75
  go_wp2
  go_loopw [9] (fun v wr => ∃ j : Nat, j ≤ s.size ∧ v = .int .i64 j ∧ Hid (∀ i, i < j → p i = false) ∧ Below w.heap.size w wr) (fun v _ => s.size - (intOf v).toNat)
  case atStart => exact ⟨0, Nat.zero_le _, rfl, fun i hi => absurd hi (Nat.not_lt_zero _), by go_grown⟩
  case round =>
    obtain ⟨j, hj, rfl, HF, hB⟩ := hrel
    have HB := Lib.hid hB
    clear hB
    by_cases hlt : j < s.size
    · cases hp : p j with
      | true =>
        have HL := Lib.hid (leastN_at HF.out hp s.size hlt)
        have HP := Lib.hid hp
        clear hp
        go_wp2_with (refine (HA.out.2 j _ hlt HB.out).mono ?_; rw [HP.out]; rintro e w2 ⟨rfl, hb2⟩; have B2 := bl_then HB.out hb2)
        go_ret
        exact ⟨by rw [HL.out]; rfl, B2⟩
      | false =>
        have HP := Lib.hid hp
        clear hp
        go_wp2_with (refine (HA.out.2 j _ hlt HB.out).mono ?_; rw [HP.out]; rintro e w2 ⟨rfl, hb2⟩; have B2 := bl_then HB.out hb2)
        go_roundw
        case rel => exact ⟨j + 1, by omega, by go_num, fun i hi => by
          by_cases e : i = j
          · rw [e]; exact HP.out
          · exact HF.out i (by omega), B2⟩
        case measure => simp [intOf]; omega
    · have HL := Lib.hid (leastN_zero (n := s.size) (fun i hi => HF.out i (by omega)))
      go_wp2
      go_ret
      exact ⟨by rw [HL.out]; rfl, HB.out⟩

set_option maxHeartbeats 1000000 in
theorem many_any (k n q : Int) (s : ByteArray) (fn : Nat) (cap : Array Value) (p : Nat → Bool) (w : World) (hs : s.size ≤ 100000) (hA : Asks w fn cap s.size p) :
    Calls Try.prog 79 #[vlV k n q s, fnC fn cap] w fun e w' => e = .returned (.int .i64 (manyN p s.size)) ∧ Below w.heap.size w w' := by
  have hcf := hA.1
  have HA := Lib.hid hA
  clear hA
  go_enter Try.func79, Try.ntmps79
  go_wp2
  go_loopw [5, 10] (fun c v wr => ∃ (m j : Nat), j ≤ s.size ∧ v = .int .i64 j ∧ c = .int .i64 m ∧ Hid (m = manyN p j) ∧ m ≤ 100000 ∧ Below w.heap.size w wr) (fun _ v _ => s.size - (intOf v).toNat)
  case atStart => exact ⟨0, 0, Nat.zero_le _, rfl, rfl, rfl, by omega, by go_grown⟩
  case round =>
    obtain ⟨m, j, hj, rfl, rfl, HM, hm, hB⟩ := hrel
    have HB := Lib.hid hB
    clear hB
    by_cases hlt : j < s.size
    · have HU := Lib.hid (manyN_succ p j)
      have hle := manyN_le p j
      rw [← HM.out] at hle
      cases hp : p j with
      | true =>
        have HP := Lib.hid hp
        clear hp
        go_wp2_with (refine (HA.out.2 j _ hlt HB.out).mono ?_; rw [HP.out]; rintro e w2 ⟨rfl, hb2⟩; have B2 := bl_then HB.out hb2)
        go_roundw
        case rel => exact ⟨m + 1, j + 1, by omega, by go_num, by go_num, by rw [HU.out, HP.out, ← HM.out]; rfl, by omega, B2⟩
        case measure => simp [intOf]; omega
      | false =>
        have HP := Lib.hid hp
        clear hp
        go_wp2_with (refine (HA.out.2 j _ hlt HB.out).mono ?_; rw [HP.out]; rintro e w2 ⟨rfl, hb2⟩; have B2 := bl_then HB.out hb2)
        go_roundw
        case rel => exact ⟨m, j + 1, by omega, by go_num, rfl, by rw [HU.out, HP.out, ← HM.out]; rfl, by omega, B2⟩
        case measure => simp [intOf]; omega
    · have hje : j = s.size := by omega
      have HJ := Lib.hid hje
      clear hje
      go_wp2
      go_ret
      exact ⟨by rw [← HJ.out, ← HM.out]; rfl, HB.out⟩

/- placeOf, isIn, not -/
set_option maxHeartbeats 400000 in
theorem placeOf_any (c : UInt8) (k n q : Int) (s : ByteArray) (w : World) :
    Calls Try.prog 132 #[.int .u8 c.toNat, vlV k n q s] w fun e w' => e = .returned (.int .i64 (Lib.indexByte s.data.toList c)) ∧ Below w.heap.size w w' := by
  go_enter Try.func132, Try.ntmps132
  go_wp2_with (go_at_call 152; refine (idxByte _ _ _).mono ?_; rintro e w' ⟨rfl, rfl⟩)
  go_ret
  exact ⟨rfl, by go_grown⟩

theorem inP_b (s : ByteArray) (set : List UInt8) (i : Nat) (h : i < s.size) : inP s.data.toList set i = decide (0 ≤ Lib.indexByte set s[i]) := by
  rw [inP, getD_b s i h, has_eq]
set_option maxRecDepth 100000 in
set_option maxHeartbeats 1000000 in
theorem isIn1 (k n q : Int) (s : ByteArray) (kt nt qt : Int) (t : ByteArray) (bs bt i : Nat) (w : World) (hS : Row w bs (vlC k n q s) 23) (hT : Row w bt (vlC kt nt qt t) 23) (_hs : s.size ≤ 100000) (hi : i < s.size) :
    Calls Try.prog 131 #[.int .i64 i, ptr bs, ptr bt] w fun e w' => e = .returned (.bool (inP s.data.toList t.data.toList i)) ∧ Below w.heap.size w w' := by
  obtain ⟨x0, x1, x2, x3⟩ := hS.four
  obtain ⟨y0, y1, y2, y3⟩ := hT.four
  have HG := Lib.hid (inP_b s t.data.toList i hi)
  generalize inP s.data.toList t.data.toList i = r at HG
  have i1 : (i : Int) < s.size := by omega
  go_enter Try.func131, Try.ntmps131
  go_wp2
  go_region_held3 (fun w' => w'.cell? ⟨bs, 3, none⟩ = some (.string s) ∧ (w'.cell? ⟨bt, 0, none⟩ = some (.int .i64 kt) ∧ w'.cell? ⟨bt, 1, none⟩ = some (.int .i64 nt) ∧ w'.cell? ⟨bt, 2, none⟩ = some (.int .i64 qt) ∧ w'.cell? ⟨bt, 3, none⟩ = some (.string t)))
    (first | go_keep | (go_split_ands; refine ⟨?_, ?_, ?_, ?_, ?_⟩ <;> (rw [hb2.cell (by simp <;> first | exact hS.lt | exact hT.lt)]; assumption)))
    (first | (go_at_call 132; refine (placeOf_any _ _ _ _ _ _).mono ?_; rintro e w2 ⟨rfl, hb2⟩))
  go_wp2
  go_ret
  exact ⟨ret_bool HG.out.symm, bl_drew hb2⟩

set_option maxHeartbeats 400000 in
theorem isIn_any (k n q : Int) (s : ByteArray) (kt nt qt : Int) (t : ByteArray) (w : World) (hs : s.size ≤ 100000) :
    Calls Try.prog 82 #[vlV k n q s, vlV kt nt qt t] w (GivesA w s.size (inP s.data.toList t.data.toList)) := by
  go_enter Try.func82, Try.ntmps82
  go_wp2
  go_ret
  refine ⟨_, _, rfl, ⟨fun _ _ => by kernel_rfl, fun i W hi hB => ?_⟩, by go_grown⟩
  show Calls Try.prog 131 #[.int .i64 i, ptr w.heap.size, ptr (w.heap.size + 1)] W _
  exact isIn1 k n q s kt nt qt t _ _ i W (((Row.new _ _ _).alloc _).keep hB) ((Row.new2 _ _ _ _).keep hB) hs hi

set_option maxHeartbeats 1000000 in
theorem not1 (fn : Nat) (cap : Array Value) (p : Nat → Bool) (n bf i : Nat) (w : World) (hF : Row w bf #[fnC fn cap] 75) (hA : Asks w fn cap n p) (hi : i < n) :
    Calls Try.prog 130 #[.int .i64 i, ptr bf] w fun e w' => e = .returned (.bool (notP p i)) ∧ Below w.heap.size w w' := by
  have x0 := hF.one
  have hcf := hA.1
  have HA := Lib.hid hA
  clear hA
  go_enter Try.func130, Try.ntmps130
  go_wp2_with (refine (HA.out.2 i _ hi (Below.refl _ _)).mono ?_; rintro e w2 ⟨rfl, hb2⟩)
  go_ret
  exact ⟨rfl, hb2⟩
set_option maxHeartbeats 400000 in
theorem not_any (fn : Nat) (cap : Array Value) (p : Nat → Bool) (n : Nat) (w : World) (hA : Asks w fn cap n p) :
    Calls Try.prog 81 #[fnC fn cap] w (GivesA w n (notP p)) := by
  have HA := Lib.hid hA
  clear hA
  go_enter Try.func81, Try.ntmps81
  go_wp2
  go_ret
  refine ⟨_, _, rfl, ⟨fun _ _ => by kernel_rfl, fun i W hi hB => ?_⟩, by go_grown⟩
  show Calls Try.prog 130 #[.int .i64 i, ptr w.heap.size] W _
  exact not1 fn cap p n _ i W ((Row.new _ _ _).keep hB) (HA.out.later (bl_box (Below.refl _ w) hB)) hi

/- begins -/
theorem begsP_b (s p : ByteArray) (i : Nat) (hp : p.size ≠ 0) : begsP s.data.toList p.data.toList i = Lib.hasPrefix (s.data.toList.drop i) p.data.toList := by
  have : p.data.toList.isEmpty = false := by
    rw [Bool.eq_false_iff]; intro e; apply hp; rw [← lsz, List.isEmpty_iff.1 e]; rfl
  simp [begsP, this]
theorem begsP_e (s p : ByteArray) (i : Nat) (hp : p.size = 0) : begsP s.data.toList p.data.toList i = false := by
  have : p.data.toList = [] := List.eq_nil_of_length_eq_zero (by rw [lsz]; exact hp)
  simp [begsP, this]
theorem ext_drop (s : ByteArray) (a : Nat) (_h : a ≤ s.size) : s.extract a s.size = bsz (s.data.toList.drop a) := by
  have e : (s.extract a s.size).data.toList = s.data.toList.drop a := by
    rw [Lib.extract_data, List.take_of_length_le (by rw [List.length_drop, lsz]; omega)]
  rw [← e]
set_option maxRecDepth 100000 in
set_option maxHeartbeats 1000000 in
theorem begins1 (k n q : Int) (s : ByteArray) (kt nt qt : Int) (p : ByteArray) (bs bt i : Nat) (w : World) (hS : Row w bs (vlC k n q s) 23) (hT : Row w bt (vlC kt nt qt p) 23) (hs : s.size ≤ 100000) (hp : p.size ≤ 100000) (hi : i < s.size) :
    Calls Try.prog 128 #[.int .i64 i, ptr bt, ptr bs] w fun e w' => e = .returned (.bool (begsP s.data.toList p.data.toList i)) ∧ Below w.heap.size w w' := by
  obtain ⟨x0, x1, x2, x3⟩ := hS.four
  obtain ⟨y0, y1, y2, y3⟩ := hT.four
  have i1 : (i : Int) < s.size := by omega
  by_cases h0 : p.size = 0
  · have HG := Lib.hid (begsP_e s p i h0)
    have e2 : p.toList = [] := by rw [ByteArray.toList_eq]; exact List.eq_nil_of_length_eq_zero (by rw [lsz]; exact h0)
    have e1 : (p.toList == []) = true := beq_iff_eq.2 e2
    generalize begsP s.data.toList p.data.toList i = r at HG
    clear h0
    go_enter Try.func128, Try.ntmps128
    go_wp2
    go_quiet (fail)
    go_wp2
    go_ret
    exact ⟨ret_bool HG.out.symm, below_drewN (Below.refl _ _) _⟩
  · have HG := Lib.hid (begsP_b s p i h0)
    have e2 : ¬ p.toList = [] := fun e => h0 (by rw [← lsz, ← ByteArray.toList_eq, e]; rfl)
    have e1 : (p.toList == []) = false := by simpa using e2
    have e3 : (!p.toList.isEmpty) = true := by simpa using e2
    have hc : ∀ W, Calls Try.prog 129 #[.string (s.extract i s.size), .string p] W fun e w' => e = .returned (.bool (begsP s.data.toList p.data.toList i)) ∧ w' = W := by
      intro W
      rw [ext_drop s i (by omega), HG.out]
      exact (hasPre _ p W (by rw [bsz_size, List.length_drop, lsz]; omega) hp).mono fun _ _ ⟨he, hw⟩ => ⟨he, hw.symm⟩
    generalize begsP s.data.toList p.data.toList i = r at HG hc
    have HC := Lib.hid hc
    clear h0 hc
    go_enter Try.func128, Try.ntmps128
    go_wp2
    go_quiet ((go_at_call 129; exact Calls.quiet_of_same (HC.out _)))
    go_wp2
    go_ret
    exact ⟨rfl, below_drewN (Below.refl _ _) _⟩
set_option maxHeartbeats 400000 in
theorem begins_any (k n q : Int) (s : ByteArray) (kt nt qt : Int) (p : ByteArray) (w : World) (hs : s.size ≤ 100000) (hp : p.size ≤ 100000) :
    Calls Try.prog 76 #[vlV k n q s, vlV kt nt qt p] w (GivesA w s.size (begsP s.data.toList p.data.toList)) := by
  go_enter Try.func76, Try.ntmps76
  go_wp2
  go_ret
  refine ⟨_, _, rfl, ⟨fun _ _ => by kernel_rfl, fun i W hi hB => ?_⟩, by go_grown⟩
  show Calls Try.prog 128 #[.int .i64 i, ptr (w.heap.size + 1), ptr w.heap.size] W _
  exact begins1 k n q s kt nt qt p _ _ i W (((Row.new _ _ _).alloc _).keep hB) ((Row.new2 _ _ _ _).keep hB) hs hp hi
end Go.Proofs.Ytgoghblfficfpaa
