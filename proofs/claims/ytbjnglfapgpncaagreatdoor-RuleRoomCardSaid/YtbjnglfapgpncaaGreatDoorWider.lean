/- Two types of numbers, brought to one base: widerFloat. -/
import Derived.Test.YtbjnglfapgpncaaGreatDoorConv
import Derived.Deep.RegionWith
namespace Go.Proofs.YtbjnglfapgpncaaGreatDoor
open Go.RowKit
set_option maxRecDepth 100000 in
set_option maxHeartbeats 4000000 in
theorem widerFloat_any (ka pa qa kb pb qb : Int) (w : World) (h1 : 1 ≤ ka) (h3 : ka ≤ 3) (h1b : 1 ≤ kb) (h3b : kb ≤ 3) (hpa : 1 ≤ pa) (hpa' : pa ≤ 31) (hpb : 1 ≤ pb) (hpb' : pb ≤ 31) :
    Calls Tryz.prog 45 #[numV ka pa qa, numV kb pb qb] w fun e w' => e = .returned (numV 3 (max (flP ka pa) (flP kb pb)) 0) ∧ Below w.heap.size w w' := by
  have n2 : ∀ n : Nat, n < n + 1 + 1 := fun n => by omega
  have n3 : ∀ n : Nat, n < n + 1 + 1 + 1 := fun n => by omega
  have n4 : ∀ n : Nat, n < n + 1 + 1 + 1 + 1 := fun n => by omega
  have hfd : ∀ (k p q : Int) (W : World), (Instr.field 25 (numV k p q) 1).run Tryz.prog W = .ok (.int .i64 p) W := fun _ _ _ _ => by kernel_rfl
  go_enter Tryz.func45, Tryz.ntmps45
  go_wp2_with fail
  go_region_with (first
    | (go_at_call 52; refine (asFloat_any _ _ _ _ (by omega) (by omega) (by omega) (by omega)).mono ?_; rintro e w1 ⟨rfl, hb1⟩; obtain ⟨hc, hf⟩ := bcell hb1; have hz := hb1.size; have hz' : w.heap.size + 1 + 1 + 1 ≤ w1.heap.size := (by first | omega | (simp at hz; omega)); have hW : Below w.heap.size w w1 := (by first | exact below_then (by go_grown) hb1 (by simp <;> omega) | exact below_then (by assumption) hb1 (by omega)); have g0 : w.heap.size < w1.heap.size := (by omega); have g1 : w.heap.size + 1 < w1.heap.size := (by omega); have g2 : w.heap.size + 1 + 1 < w1.heap.size := (by omega))
    | (go_at_call 51; refine (float_any _ _).mono ?_; rintro e w1 ⟨rfl, hb1⟩; obtain ⟨hc, hf⟩ := bcell hb1; have hz := hb1.size; have hz' : w.heap.size + 1 + 1 + 1 ≤ w1.heap.size := (by first | omega | (simp at hz; omega)); have hW : Below w.heap.size w w1 := (by first | exact below_then (by go_grown) hb1 (by simp <;> omega) | exact below_then (by assumption) hb1 (by omega)); have g0 : w.heap.size < w1.heap.size := (by omega); have g1 : w.heap.size + 1 < w1.heap.size := (by omega); have g2 : w.heap.size + 1 + 1 < w1.heap.size := (by omega)))
  all_goals
    go_wp2
    all_goals
      refine bodyPost_ret (v := numV 3 (max (flP ka pa) (flP kb pb)) 0) ?_ rfl ⟨rfl, ?_⟩
      · simp [results, Tryz.results45, go_sem, *]
        try omega
      · (repeat refine Below.setCell ?_ (by simp <;> omega) _)
        assumption
end Go.Proofs.YtbjnglfapgpncaaGreatDoor
