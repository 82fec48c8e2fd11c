/- digit.Compare: its closure, where both values are numbers. digit.Compare: its closure, where the first value is no number. digit.Compare: its closure, where the second value is no number. digit.Compare: its closure, any two values. digit.Compare: any two values. -/
import Derived.Test.YtafhboppojeafaaGreatDoorWrdNum
import Derived.Test.YtafhboppojeafaaGreatDoorWrdGuard
namespace Go.Proofs.YtafhboppojeafaaGreatDoor
open Go.RowKit

/-- How Compare's closure ends: with an error, or with the order laid into the caller's result. -/
def CmpD (a b : Va) (po : Nat) (w : World) (e : Ending) (w' : World) : Prop :=
  ∃ w1, Below w.heap.size w w1 ∧ ((∃ n, n ≠ 0 ∧ e = dRef n ∧ w' = w1) ∨ (e = .returned (.tuple #[]) ∧ a.right ∧ b.right ∧ a.number ∧ b.number ∧ w' = w1.setCell ⟨po, 0, none⟩ (.int .i64 (sgnZ (plN a.num a.den (-b.num) b.den)))))
abbrev TT : Nat → Prop := fun _ => True
theorem plN_len {a b : Int} {u t : Nat} (la : (wrds a.natAbs).length ≤ 4000) (lb : (wrds b.natAbs).length ≤ 4000) (lu : (wrds u).length ≤ 4000) (lt : (wrds t).length ≤ 4000) : (wrds (plN a u (-b) t).natAbs).length ≤ 1000000 := by
  unfold plN
  split
  · have h0 := wrds_le_len (Int.natAbs_add_le a (-b))
    have h := wrds_add_len a.natAbs (-b).natAbs
    rw [Int.natAbs_neg] at h h0
    omega
  · have h0 := wrds_le_len (Int.natAbs_add_le (a * t) (-b * u))
    have h := wrds_add_len (a * t).natAbs (-b * u).natAbs
    rw [Int.natAbs_mul, Int.natAbs_mul, Int.natAbs_neg, Int.natAbs_natCast, Int.natAbs_natCast] at h h0
    have h1 := wrds_mul_len a.natAbs t
    have h2 := wrds_mul_len b.natAbs u
    omega
abbrev Va.row (t : Va) : Array Value := #[.int .i64 t.k, .int .i64 t.n, .int .i64 t.q, .string t.s]
theorem VasAt.two {w : World} {c : Nat} {a b : Va} {t : TypeId} (h : Row w c #[.int .i64 a.k, .int .i64 a.n, .int .i64 a.q, .string a.s, .int .i64 b.k, .int .i64 b.n, .int .i64 b.q, .string b.s] t) : VasAt w c 0 [a, b] := by
  intro i hi j v hv
  have hi2 : i = 0 ∨ i = 1 := by simp at hi; omega
  rcases hi2 with rfl | rfl
  · rcases j with _ | _ | _ | _ | j
    · exact (h.at 0).trans hv
    · exact (h.at 1).trans hv
    · exact (h.at 2).trans hv
    · exact (h.at 3).trans hv
    · simp at hv
  · rcases j with _ | _ | _ | _ | j
    · exact (h.at 4).trans hv
    · exact (h.at 5).trans hv
    · exact (h.at 6).trans hv
    · exact (h.at 7).trans hv
    · simp at hv

end Go.Proofs.YtafhboppojeafaaGreatDoor
namespace Go.Proofs.YtafhboppojeafaaGreatDoor
open Go.RowKit

end Go.Proofs.YtafhboppojeafaaGreatDoor
namespace Go.Proofs.YtafhboppojeafaaGreatDoor
open Go.RowKit

end Go.Proofs.YtafhboppojeafaaGreatDoor
namespace Go.Proofs.YtafhboppojeafaaGreatDoor
open Go.RowKit

end Go.Proofs.YtafhboppojeafaaGreatDoor
namespace Go.Proofs.YtafhboppojeafaaGreatDoor
open Go.RowKit

set_option maxRecDepth 100000 in
set_option maxHeartbeats 400000 in
/-- guarded, over a work that ends either way: what it tells of the error and the world behind it. -/
theorem guard_any (fn : Nat) (cap : Array Value) (w : World) {R : Int → World → Prop} (hcf : ∀ W : World, (callFunc fn cap).run Tryz.prog W = .ok (.enter fn cap) W)
    (h : Calls Tryz.prog fn cap (w.alloc (.cells #[.int .i64 0] 30)) fun e w' => (∃ n : Int, (e = dRef n ∨ e = .returned (.tuple #[]) ∧ n = 0) ∧ R n w') ∧ w'.cell? ⟨w.heap.size, 0, none⟩ = some (.int .i64 0) ∧ w'.frozen? ⟨w.heap.size, 0, none⟩ = false) :
    Calls Tryz.prog 26 #[.func (.func fn) #[] cap] w fun e w' => ∃ n : Int, e = .returned (.int .i64 n) ∧ ∃ w1, R n w1 ∧ w' = w1.setCell ⟨w.heap.size, 0, none⟩ (.int .i64 n) := by
  have hmf : ∀ (fn : Fn) (first cap : Array Value) (w : World), (Instr.makeFunc fn first cap).run Tryz.prog w = .ok (.func fn first cap) w := fun _ _ _ _ => rfl
  have H := Lib.hid h
  clear h
  go_enter_defers Tryz.func26, Tryz.ntmps26
  go_wp2_with (refine H.out.mono ?_; rintro e w1 ⟨⟨n, (rfl | ⟨rfl, rfl⟩), hr⟩, hc, hz⟩ <;> have HR := Lib.hid hr <;> clear hr)
  · refine leaves_cons (f := 38) (args := #[.pointer (some ⟨w.heap.size, 0, none⟩)]) (by simp) (by simp [go_sem]) ?_
    refine (dgd_caught ⟨w.heap.size, 0, none⟩ n 0 _ hc hz).mono ?_
    rintro e u' w2 ⟨rfl, rfl, rfl⟩
    simp [Leaves, settle, results, Tryz.results26, go_sem, hc]
    exact ⟨w1, HR.out, rfl⟩
  · refine leaves_cons (f := 38) (args := #[.pointer (some ⟨w.heap.size, 0, none⟩)]) (by simp) (by simp [go_sem]) ?_
    refine (dgd_idle ⟨w.heap.size, 0, none⟩ _).mono ?_
    rintro e u' w2 ⟨rfl, rfl, rfl⟩
    simp [Leaves, settle, results, Tryz.results26, go_sem, hc]
    exact ⟨w1, HR.out, rfl⟩

theorem Row.putw {w : World} {b : Nat} {cs : Array Value} {t : TypeId} (h : Row w b cs t) (k : Nat) (v : Value) : Row (w.setCell ⟨b, k, none⟩ v) b (cs.setIfInBounds k v) t := heap_setCell_same w b k cs t v h
/-- What Compare tells of two values: where there is no error, both are right numbers, and their order. -/
def OrdP (a b : Va) (n o : Int) : Prop := n = 0 → a.right ∧ b.right ∧ a.number ∧ b.number ∧ o = sgnZ (plN a.num a.den (-b.num) b.den)
end Go.Proofs.YtafhboppojeafaaGreatDoor
