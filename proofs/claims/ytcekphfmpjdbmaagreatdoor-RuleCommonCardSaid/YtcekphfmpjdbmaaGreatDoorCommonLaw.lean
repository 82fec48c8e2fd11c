/- The law RuleCommon, walked: heavy arguments, errors, one type or more than two, two. -/
import Derived.Test.YtcekphfmpjdbmaaGreatDoorCommon3
import Derived.Test.YtcekphfmpjdbmaaGreatDoorRes0
namespace Go.Proofs.YtcekphfmpjdbmaaGreatDoor
open Go.RowKit

set_option maxHeartbeats 4000000 in
theorem common_long (sa : Option Addr) (len cap : Nat) (w : World) (hlen : len ≤ 9223372036854775807) (h : 30 < len) :
    Calls Tryz.prog 5 #[.slice sa len cap] w fun e w' => e = .returned (.bool true) ∧ Below w.heap.size w w' := by
  have h1 : (30 : Int) < len := by omega
  go_enter Tryz.func5, Tryz.ntmps5
  go_wp2_with fail
  go_at_call 12
  refine (awake_2 _).mono ?_
  rintro e w1 ⟨rfl, hb⟩
  go_wp2
  go_ret
  exact ⟨rfl, hb⟩

set_option maxHeartbeats 4000000 in
theorem common_heavy (sa : Option Addr) (len cap : Nat) (w : World) (h : len ≤ 30)
    (hl : Calls Tryz.prog 11 #[.slice sa len cap] w fun e w' => e = .returned (.bool false) ∧ w = w') :
    Calls Tryz.prog 5 #[.slice sa len cap] w fun e w' => e = .returned (.bool true) ∧ Below w.heap.size w w' := by
  have h1 : (len : Int) ≤ 30 := by omega
  have HL := Lib.hid hl
  clear hl
  go_enter Tryz.func5, Tryz.ntmps5
  go_wp2_with fail
  go_at_call 11
  refine HL.out.mono ?_
  rintro e w1 ⟨rfl, rfl⟩
  go_wp2_with fail
  go_at_call 12
  refine (awake_2 _).mono ?_
  rintro e w1 ⟨rfl, hb⟩
  go_wp2
  go_ret
  exact ⟨rfl, hb⟩

/- Both refuse alike. -/
set_option maxRecDepth 100000 in
set_option maxHeartbeats 4000000 in
theorem common_err (n : Int) (sa : Option Addr) (len cap : Nat) (w : World) (h : len ≤ 30) (hn : 8 ≤ n)
    (hl : Calls Tryz.prog 11 #[.slice sa len cap] w fun e w' => e = .returned (.bool true) ∧ w = w')
    (hp : ∀ W, Below w.heap.size w W → Calls Tryz.prog 28 #[.slice sa len cap] W fun e w' => e = .returned (.tuple #[numV 0 0 0, .int .i64 n]) ∧ Below W.heap.size W w')
    (hr : ∀ W, Below w.heap.size w W → Calls Tryz.prog 29 #[.slice sa len cap] W fun e w' => e = .returned (.tuple #[numV 0 0 0, .int .i64 n]) ∧ Below W.heap.size W w') :
    Calls Tryz.prog 5 #[.slice sa len cap] w fun e w' => e = .returned (.bool true) ∧ Below w.heap.size w w' := by
  have h1 : (len : Int) ≤ 30 := by omega
  have HL := Lib.hid hl; have HP := Lib.hid hp; have HR := Lib.hid hr
  have n0 : (n == 0) = false := by rw [beq_eq_false_iff_ne]; omega
  have n1 : (n != 0) = true := by rw [bne_iff_ne]; omega
  clear hl hp hr hn
  have hNE := neqSame
  have hcases : ((len : Int) != 2) = true ∨ len = 2 := by
    by_cases h2 : len = 2
    · exact .inr h2
    · exact .inl (by rw [bne_iff_ne]; omega)
  rcases hcases with h2 | rfl
  all_goals
    go_enter Tryz.func5, Tryz.ntmps5
    go_wp2_with fail
    go_at_call 11
    refine HL.out.mono ?_
    rintro e w1 ⟨rfl, rfl⟩
    go_wp2_with fail
    go_at_call 28
    refine (HP.out _ (Below.refl _ _)).mono ?_
    rintro e w1 ⟨rfl, hb⟩
    have HW := Lib.hid hb
    go_wp2_with fail
    go_at_call 29
    refine (HR.out _ (below_then HW.out (by go_grown) HW.out.size)).mono ?_
    rintro e w2 ⟨rfl, hb2⟩
    have xB := Lib.hid (BoxAt.fresh (t := nTy 0 0 0) hb2)
    have HW2 := Lib.hid (below_then HW.out (below_then ((Below.refl _ _).alloc (Nat.le_refl _) _) hb2 (by simp)) HW.out.size)
    clear hb hb2
    have L1 : w1.heap.size < w2.heap.size := xB.out.lt
    obtain ⟨x0, x1, x2, x3, x4, x5⟩ := xB.out.cells
    go_wp2_with fail
    go_at_call 12
    refine (awake_2 _).mono ?_
    rintro e w3 ⟨rfl, hb⟩
    clear x0 x1 x2 x3 x4 x5
    have HW3 := Lib.hid (below_then HW2.out (below_then ((Below.refl _ _).alloc (Nat.le_refl _) _) hb (by simp)) HW2.out.size)
    clear hb
    go_wp2
    go_ret
    exact ⟨rfl, HW3.out⟩

/- Both tell one type, of any list but two. -/
set_option maxRecDepth 100000 in
set_option maxHeartbeats 4000000 in
theorem common_fine (k p q : Int) (sa : Option Addr) (len cap : Nat) (w : World) (h : len ≤ 30) (hne : ((len : Int) != 2) = true) (hn : NumB k p q)
    (hl : Calls Tryz.prog 11 #[.slice sa len cap] w fun e w' => e = .returned (.bool true) ∧ w = w')
    (hp : ∀ W, Below w.heap.size w W → Calls Tryz.prog 28 #[.slice sa len cap] W fun e w' => e = .returned (.tuple #[numV k p q, .int .i64 0]) ∧ Below W.heap.size W w')
    (hr : ∀ W, Below w.heap.size w W → Calls Tryz.prog 29 #[.slice sa len cap] W fun e w' => e = .returned (.tuple #[numV k p q, .int .i64 0]) ∧ Below W.heap.size W w') :
    Calls Tryz.prog 5 #[.slice sa len cap] w fun e w' => e = .returned (.bool true) ∧ Below w.heap.size w w' := by
  have h1 : (len : Int) ≤ 30 := by omega
  have HL := Lib.hid hl; have HP := Lib.hid hp; have HR := Lib.hid hr; have HN := Lib.hid hn
  clear hl hp hr hn
  have hNE := neqSame
  go_enter Tryz.func5, Tryz.ntmps5
  go_wp2_with fail
  go_at_call 11
  refine HL.out.mono ?_
  rintro e w1 ⟨rfl, rfl⟩
  go_wp2_with fail
  go_at_call 28
  refine (HP.out _ (Below.refl _ _)).mono ?_
  rintro e w1 ⟨rfl, hb⟩
  have HW := Lib.hid hb
  go_wp2_with fail
  go_at_call 29
  refine (HR.out _ (below_then HW.out (by go_grown) HW.out.size)).mono ?_
  rintro e w2 ⟨rfl, hb2⟩
  have xB := Lib.hid (BoxAt.fresh (t := nTy k p q) hb2)
  have HW2 := Lib.hid (below_then HW.out (below_then ((Below.refl _ _).alloc (Nat.le_refl _) _) hb2 (by simp)) HW.out.size)
  clear hb hb2
  have L1 : w1.heap.size < w2.heap.size := xB.out.lt
  obtain ⟨x0, x1, x2, x3, x4, x5⟩ := xB.out.cells
  go_wp2_with fail
  go_at_call 17
  refine (refValid_b true _ _ _ _ _ _ _ pic0 HN.out.ok).mono ?_
  rintro e w3 ⟨rfl, hb⟩
  clear x0 x1 x2 x3 x4 x5
  have HW3 := Lib.hid (below_then HW2.out (below_then ((Below.refl _ _).alloc (Nat.le_refl _) _) hb (by simp)) HW2.out.size)
  clear hb
  go_wp2_with fail
  go_at_call 12
  refine (awake_2 _).mono ?_
  rintro e w4 ⟨rfl, hb⟩
  have HW4 := Lib.hid (below_then HW3.out hb HW3.out.size)
  clear hb
  go_wp2
  go_ret
  exact ⟨rfl, HW4.out⟩
end Go.Proofs.YtcekphfmpjdbmaaGreatDoor
