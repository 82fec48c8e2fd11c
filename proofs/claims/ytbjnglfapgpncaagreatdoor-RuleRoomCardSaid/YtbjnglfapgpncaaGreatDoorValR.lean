/- ironbarkref01.Right, of any value: what a valid fixed number is; other kinds are answered with true or false. -/
import Derived.Test.YtbjnglfapgpncaaGreatDoorDigArg
import Derived.Test.YtbjnglfapgpncaaGreatDoorRefValid
namespace Go.Proofs.YtbjnglfapgpncaaGreatDoor
open Go.RowKit

/-- A struct api.Value as a value. -/
abbrev valV (k n q : Int) (s : ByteArray) : Value := .agg #[.int .i64 k, .int .i64 n, .int .i64 q, .string s]

/-- Some truth value, true only where P holds. -/
def SomeB (P : Prop) (w : World) (e : Ending) (w' : World) : Prop := ∃ r : Bool, e = .returned (.bool r) ∧ (r = true → P) ∧ Below w.heap.size w w'

theorem someB {P : Prop} {w w' : World} (r : Bool) (h : r = true → P) (hb : Below w.heap.size w w') : SomeB P w (.returned (.bool r)) w' := ⟨r, rfl, h, hb⟩

def FixedR (m n q : Int) (s : ByteArray) : Prop := 0 ≤ q ∧ q ≤ 31 ∧ -m < n ∧ n < m ∧ s = ⟨#[]⟩

theorem empty_of (s : ByteArray) (h : s.toList = []) : s = ⟨#[]⟩ := by
  obtain ⟨⟨l⟩⟩ := s
  rw [ByteArray.toList_eq] at h
  simp at h
  rw [h]

theorem numericB (k : Int) (b : Bool) (w : World) (h : b = (decide (1 ≤ k) && decide (k ≤ 3))) :
    Calls Tryz.prog 30 #[.int .i64 k] w fun e w' => e = .returned (.bool b) ∧ w = w' := by subst h; exact numeric_any k w

set_option maxRecDepth 100000 in
set_option maxHeartbeats 800000 in
theorem right_1 (n q : Int) (s : ByteArray) (w : World) :
    Calls Tryz.prog 14 #[valV 1 n q s] w (SomeB (FixedR 2147483648 n q s) w) := by
  by_cases hs : s.toList = []
  · have hs1 : s.toList.isEmpty = true := by rw [hs]; rfl
    have HS := Lib.hid hs
    clear hs
    go_enter Tryz.func14, Tryz.ntmps14
    go_wp2_with (go_at_call 30; refine (numericB 1 true _ (by decide)).mono ?_; rintro e w' ⟨rfl, rfl⟩)
    all_goals
      go_ret
      refine someB _ (fun h => ⟨?_, ?_, ?_, ?_, empty_of s HS.out⟩) (by go_grown) <;> simp_all <;> omega
  · have hs1 : s.toList.isEmpty = false := by cases h : s.toList with | nil => exact absurd h hs | cons a b => rfl
    clear hs
    go_enter Tryz.func14, Tryz.ntmps14
    go_wp2_with (go_at_call 30; refine (numericB 1 true _ (by decide)).mono ?_; rintro e w' ⟨rfl, rfl⟩)
    go_ret
    exact someB _ (fun h => by cases h) (by go_grown)
end Go.Proofs.YtbjnglfapgpncaaGreatDoor
