/- ironbarkref01.Right, of any value: it answers; what is right of a fixed kind has its bounds. What arithmetic gives: a value of numbers, a condition, an error. -/
import Derived.Test.YtpdoddhieblooaaGreatDoorKDigFrom
import Derived.Test.YtpdoddhieblooaaGreatDoorKRefValid
import Derived.Deep.RegionHeld3
namespace Go.Proofs.YtpdoddhieblooaaGreatDoor
open Go.RowKit

theorem from_s (n : Nat) (w : World) (hn : n < 9223372036854775808) : Calls Tryz.prog 106 #[.int .i64 (n : Int)] w fun e w' => ∃ p k, e = .returned (.slice p (digs n).length k) ∧ Below w.heap.size w w' :=
 (from_any n w hn).mono fun _ _ ⟨v, he, ho, hb⟩ => by
   rcases ho.2 with ⟨rfl, h0⟩ | ⟨g, cap, cur, rfl, _⟩
   · exact ⟨none, 0, by rw [he, h0], hb⟩
   · exact ⟨_, _, he, hb⟩
abbrev valV (k n q : Int) (s : ByteArray) : Value := .agg #[.int .i64 k, .int .i64 n, .int .i64 q, .string s]
def SomeB (P : Prop) (w : World) (e : Ending) (w' : World) : Prop := ∃ r : Bool, e = .returned (.bool r) ∧ (r = true → P) ∧ Below w.heap.size w w'
theorem someB {P : Prop} {w w' : World} (r : Bool) (h : r = true → P) (hb : Below w.heap.size w w') : SomeB P w (.returned (.bool r)) w' := ⟨r, rfl, h, hb⟩
def FixedR (m n q : Int) (s : ByteArray) : Prop := 0 ≤ q ∧ q ≤ 31 ∧ -m < n ∧ n < m ∧ s = ⟨#[]⟩
theorem empty_of (s : ByteArray) (h : s.toList = []) : s = ⟨#[]⟩ := by
 obtain ⟨⟨l⟩⟩ := s
 rw [ByteArray.toList_eq] at h
 simp at h
 rw [h]
theorem numericB (k : Int) (b : Bool) (w : World) (h : b = (decide (1 ≤ k) && decide (k ≤ 3))) :
   Calls Tryz.prog 51 #[.int .i64 k] w fun e w' => e = .returned (.bool b) ∧ w = w' := by subst h; exact numeric_any k w
set_option maxRecDepth 100000 in
set_option maxHeartbeats 800000 in
theorem right_1 (n q : Int) (s : ByteArray) (w : World) :
   Calls Tryz.prog 50 #[valV 1 n q s] w (SomeB (FixedR 2147483648 n q s) w) := by
 by_cases hs : s.toList = []
 · have hs1 : s.toList.isEmpty = true := by rw [hs]; rfl
   have HS := Lib.hid hs
   clear hs
   go_enter Tryz.func50, Tryz.ntmps50
   go_wp2_with (go_at_call 51; refine (numericB 1 true _ (by decide)).mono ?_; rintro e w' ⟨rfl, rfl⟩)
   all_goals
     go_ret
     refine someB _ (fun h => ⟨?_, ?_, ?_, ?_, empty_of s HS.out⟩) (by go_grown) <;> simp_all <;> omega
 · have hs1 : s.toList.isEmpty = false := by cases h : s.toList with | nil => exact absurd h hs | cons a b => rfl
   clear hs
   go_enter Tryz.func50, Tryz.ntmps50
   go_wp2_with (go_at_call 51; refine (numericB 1 true _ (by decide)).mono ?_; rintro e w' ⟨rfl, rfl⟩)
   go_ret
   exact someB _ (fun h => by cases h) (by go_grown)
set_option maxHeartbeats 800000 in
theorem size_any (n : Int) (w : World) (h1 : -9223372036854775807 < n) (h2 : n < 9223372036854775807) :
   Calls Tryz.prog 104 #[.int .i64 n] w fun e w' => e = .returned (.int .i64 ((digs n.natAbs).length : Int)) ∧ Below w.heap.size w w' := by
 have hl : (digs n.natAbs).length ≤ 19 := digs_length _ _ (by omega)
 by_cases h : n < 0
 · obtain ⟨m, rfl⟩ : ∃ m : Nat, n = -(m : Int) := ⟨n.natAbs, by omega⟩
   have e : (-(m : Int)).natAbs = m := by omega
   rw [e] at hl ⊢
   have hm : -(m : Int) < 0 := h
   go_enter Tryz.func104, Tryz.ntmps104
   go_wp2_with (go_at_call 106; refine (from_s m _ (by omega)).mono ?_; rintro e w1 ⟨p1, k1, rfl, hb1⟩)
   go_ret
   exact ⟨rfl, hb1⟩
 · obtain ⟨m, rfl⟩ : ∃ m : Nat, n = (m : Int) := ⟨n.natAbs, by omega⟩
   have e : ((m : Int)).natAbs = m := by omega
   rw [e] at hl ⊢
   go_enter Tryz.func104, Tryz.ntmps104
   go_wp2_with (go_at_call 106; refine (from_s m _ (by omega)).mono ?_; rintro e w1 ⟨p1, k1, rfl, hb1⟩)
   go_ret
   exact ⟨rfl, hb1⟩
end Go.Proofs.YtpdoddhieblooaaGreatDoor
namespace Go.Proofs.YtpdoddhieblooaaGreatDoor
open Go.RowKit

end Go.Proofs.YtpdoddhieblooaaGreatDoor
namespace Go.Proofs.YtpdoddhieblooaaGreatDoor
open Go.RowKit


end Go.Proofs.YtpdoddhieblooaaGreatDoor
namespace Go.Proofs.YtpdoddhieblooaaGreatDoor
open Go.RowKit

end Go.Proofs.YtpdoddhieblooaaGreatDoor
namespace Go.Proofs.YtpdoddhieblooaaGreatDoor
open Go.RowKit
def Gives3 (G : Int → Int → Int → Int → Int → Prop) (w : World) (e : Ending) (w' : World) : Prop := ∃ k N Q c er : Int, (e = .returned (.tuple #[valV k N Q ⟨#[]⟩, .int .i64 c, .int .i64 er]) ∧ Below w.heap.size w w') ∧ G k N Q c er
end Go.Proofs.YtpdoddhieblooaaGreatDoor
