/- Two types of numbers, brought to one base: alike. -/
import Derived.Test.YtbjnglfapgpncaaGreatDoorConv
import Derived.Deep.RegionWith
namespace Go.Proofs.YtbjnglfapgpncaaGreatDoor
open Go.RowKit
set_option maxHeartbeats 2000000 in
theorem alike_fa (kb pa qa pb qb : Int) (w : World) (h1 : 1 ≤ kb) (h3 : kb ≤ 3) (hpa : 1 ≤ pa) (hpa' : pa ≤ 31) (hpb : 1 ≤ pb) (hpb' : pb ≤ 31) :
    Calls Tryz.prog 48 #[numV 3 pa qa, numV kb pb qb] w fun e w' => e = .returned (.tuple #[numV 3 (flP 3 pa) 0, numV 3 (flP kb pb) 0]) ∧ Below w.heap.size w w' := by
  have n2 : ∀ n : Nat, n < n + 1 + 1 := fun n => by omega
  have n3 : ∀ n : Nat, n < n + 1 + 1 + 1 := fun n => by omega
  have n4 : ∀ n : Nat, n < n + 1 + 1 + 1 + 1 := fun n => by omega
  go_enter Tryz.func48, Tryz.ntmps48
  go_wp2_with fail
  go_region_with (go_at_call 52; refine (asFloat_any _ _ _ _ (by omega) (by omega) (by omega) (by omega)).mono ?_; rintro e w1 ⟨rfl, hb1⟩; obtain ⟨hc, hf⟩ := bcell hb1; have hz := hb1.size; have hz' : w.heap.size + 1 + 1 + 1 + 1 ≤ w1.heap.size := (by first | omega | (simp at hz; omega)); have hW : Below w.heap.size w w1 := (by first | exact below_then (by go_grown) hb1 (by simp <;> omega) | exact below_then (by assumption) hb1 (by omega)); have g0 : w.heap.size < w1.heap.size := (by omega); have g1 : w.heap.size + 1 < w1.heap.size := (by omega); have g2 : w.heap.size + 1 + 1 < w1.heap.size := (by omega); have g3 : w.heap.size + 1 + 1 + 1 < w1.heap.size := (by omega))
  all_goals
    go_wp2
    refine bodyPost_ret (v := .tuple #[numV 3 (flP 3 pa) 0, numV 3 (flP kb pb) 0]) (by simp [results, Tryz.results48, go_sem, *]) rfl ⟨rfl, ?_⟩
    (repeat refine Below.setCell ?_ (by simp <;> omega) _)
    assumption

set_option maxHeartbeats 2000000 in
theorem alike_fb (ka pa qa pb qb : Int) (w : World) (h1 : 1 ≤ ka) (h3 : ka ≤ 2) (hpa : 1 ≤ pa) (hpa' : pa ≤ 31) (hpb : 1 ≤ pb) (hpb' : pb ≤ 31) :
    Calls Tryz.prog 48 #[numV ka pa qa, numV 3 pb qb] w fun e w' => e = .returned (.tuple #[numV 3 (flP ka pa) 0, numV 3 (flP 3 pb) 0]) ∧ Below w.heap.size w w' := by
  have e3 : (ka == 3) = false := by rw [beq_eq_false_iff_ne]; omega
  have n2 : ∀ n : Nat, n < n + 1 + 1 := fun n => by omega
  have n3 : ∀ n : Nat, n < n + 1 + 1 + 1 := fun n => by omega
  have n4 : ∀ n : Nat, n < n + 1 + 1 + 1 + 1 := fun n => by omega
  go_enter Tryz.func48, Tryz.ntmps48
  go_wp2_with fail
  go_region_with (go_at_call 52; refine (asFloat_any _ _ _ _ (by omega) (by omega) (by omega) (by omega)).mono ?_; rintro e w1 ⟨rfl, hb1⟩; obtain ⟨hc, hf⟩ := bcell hb1; have hz := hb1.size; have hz' : w.heap.size + 1 + 1 + 1 + 1 ≤ w1.heap.size := (by first | omega | (simp at hz; omega)); have hW : Below w.heap.size w w1 := (by first | exact below_then (by go_grown) hb1 (by simp <;> omega) | exact below_then (by assumption) hb1 (by omega)); have g0 : w.heap.size < w1.heap.size := (by omega); have g1 : w.heap.size + 1 < w1.heap.size := (by omega); have g2 : w.heap.size + 1 + 1 < w1.heap.size := (by omega); have g3 : w.heap.size + 1 + 1 + 1 < w1.heap.size := (by omega))
  all_goals
    go_wp2
    refine bodyPost_ret (v := .tuple #[numV 3 (flP ka pa) 0, numV 3 (flP 3 pb) 0]) (by simp [results, Tryz.results48, go_sem, *]) rfl ⟨rfl, ?_⟩
    (repeat refine Below.setCell ?_ (by simp <;> omega) _)
    assumption

set_option maxHeartbeats 2000000 in
theorem alike_ba (kb pa qa pb qb : Int) (w : World) (h1 : 1 ≤ kb) (h3 : kb ≤ 2) (hpa : 1 ≤ pa) (hpa' : pa ≤ 31) (hpb : 1 ≤ pb) (hpb' : pb ≤ 31) (hqa : 0 ≤ qa) (hqa' : qa ≤ 31) (hqb : 0 ≤ qb) (hqb' : qb ≤ 31) :
    Calls Tryz.prog 48 #[numV 1 pa qa, numV kb pb qb] w fun e w' => e = .returned (.tuple #[numV 1 (biP 1 pa) (biQ 1 qa), numV 1 (biP kb pb) (biQ kb qb)]) ∧ Below w.heap.size w w' := by
  have e3 : (kb == 3) = false := by rw [beq_eq_false_iff_ne]; omega
  have n2 : ∀ n : Nat, n < n + 1 + 1 := fun n => by omega
  have n3 : ∀ n : Nat, n < n + 1 + 1 + 1 := fun n => by omega
  have n4 : ∀ n : Nat, n < n + 1 + 1 + 1 + 1 := fun n => by omega
  go_enter Tryz.func48, Tryz.ntmps48
  go_wp2_with fail
  go_region_with (go_at_call 84; refine (asBinary_any _ _ _ _ (by omega) (by omega) (by omega) (by omega) (by omega) (by omega)).mono ?_; rintro e w1 ⟨rfl, hb1⟩; obtain ⟨hc, hf⟩ := bcell hb1; have hz := hb1.size; have hz' : w.heap.size + 1 + 1 + 1 + 1 ≤ w1.heap.size := (by first | omega | (simp at hz; omega)); have hW : Below w.heap.size w w1 := (by first | exact below_then (by go_grown) hb1 (by simp <;> omega) | exact below_then (by assumption) hb1 (by omega)); have g0 : w.heap.size < w1.heap.size := (by omega); have g1 : w.heap.size + 1 < w1.heap.size := (by omega); have g2 : w.heap.size + 1 + 1 < w1.heap.size := (by omega); have g3 : w.heap.size + 1 + 1 + 1 < w1.heap.size := (by omega))
  all_goals
    go_wp2
    refine bodyPost_ret (v := .tuple #[numV 1 (biP 1 pa) (biQ 1 qa), numV 1 (biP kb pb) (biQ kb qb)]) (by simp [results, Tryz.results48, go_sem, *]) rfl ⟨rfl, ?_⟩
    (repeat refine Below.setCell ?_ (by simp <;> omega) _)
    assumption

set_option maxHeartbeats 2000000 in
theorem alike_bb (pa qa pb qb : Int) (w : World) (hpa : 1 ≤ pa) (hpa' : pa ≤ 31) (hpb : 1 ≤ pb) (hpb' : pb ≤ 31) (hqa : 0 ≤ qa) (hqa' : qa ≤ 31) (hqb : 0 ≤ qb) (hqb' : qb ≤ 31) :
    Calls Tryz.prog 48 #[numV 2 pa qa, numV 1 pb qb] w fun e w' => e = .returned (.tuple #[numV 1 (biP 2 pa) (biQ 2 qa), numV 1 (biP 1 pb) (biQ 1 qb)]) ∧ Below w.heap.size w w' := by
  have n2 : ∀ n : Nat, n < n + 1 + 1 := fun n => by omega
  have n3 : ∀ n : Nat, n < n + 1 + 1 + 1 := fun n => by omega
  have n4 : ∀ n : Nat, n < n + 1 + 1 + 1 + 1 := fun n => by omega
  go_enter Tryz.func48, Tryz.ntmps48
  go_wp2_with fail
  go_region_with (go_at_call 84; refine (asBinary_any _ _ _ _ (by omega) (by omega) (by omega) (by omega) (by omega) (by omega)).mono ?_; rintro e w1 ⟨rfl, hb1⟩; obtain ⟨hc, hf⟩ := bcell hb1; have hz := hb1.size; have hz' : w.heap.size + 1 + 1 + 1 + 1 ≤ w1.heap.size := (by first | omega | (simp at hz; omega)); have hW : Below w.heap.size w w1 := (by first | exact below_then (by go_grown) hb1 (by simp <;> omega) | exact below_then (by assumption) hb1 (by omega)); have g0 : w.heap.size < w1.heap.size := (by omega); have g1 : w.heap.size + 1 < w1.heap.size := (by omega); have g2 : w.heap.size + 1 + 1 < w1.heap.size := (by omega); have g3 : w.heap.size + 1 + 1 + 1 < w1.heap.size := (by omega))
  all_goals
    go_wp2
    refine bodyPost_ret (v := .tuple #[numV 1 (biP 2 pa) (biQ 2 qa), numV 1 (biP 1 pb) (biQ 1 qb)]) (by simp [results, Tryz.results48, go_sem, *]) rfl ⟨rfl, ?_⟩
    (repeat refine Below.setCell ?_ (by simp <;> omega) _)
    assumption

set_option maxHeartbeats 2000000 in
theorem alike_dd (pa qa pb qb : Int) (w : World) :
    Calls Tryz.prog 48 #[numV 2 pa qa, numV 2 pb qb] w fun e w' => e = .returned (.tuple #[numV 2 pa qa, numV 2 pb qb]) ∧ Below w.heap.size w w' := by
  have n2 : ∀ n : Nat, n < n + 1 + 1 := fun n => by omega
  have n3 : ∀ n : Nat, n < n + 1 + 1 + 1 := fun n => by omega
  have n4 : ∀ n : Nat, n < n + 1 + 1 + 1 + 1 := fun n => by omega
  go_enter Tryz.func48, Tryz.ntmps48
  go_wp2_with fail
  go_region
  all_goals
    go_wp2
    refine bodyPost_ret (v := .tuple #[numV 2 pa qa, numV 2 pb qb]) (by simp [results, Tryz.results48, go_sem, *]) rfl ⟨rfl, by go_grown⟩

theorem alike_any (ka pa qa kb pb qb : Int) (w : World) (h1 : 1 ≤ ka) (h3 : ka ≤ 3) (h1b : 1 ≤ kb) (h3b : kb ≤ 3) (hpa : 1 ≤ pa) (hpa' : pa ≤ 31) (hpb : 1 ≤ pb) (hpb' : pb ≤ 31) (hqa : 0 ≤ qa) (hqa' : qa ≤ 31) (hqb : 0 ≤ qb) (hqb' : qb ≤ 31) :
    Calls Tryz.prog 48 #[numV ka pa qa, numV kb pb qb] w fun e w' => e = .returned (.tuple #[numV (base ka kb) (cP (base ka kb) ka pa) (cQ (base ka kb) ka qa), numV (base ka kb) (cP (base ka kb) kb pb) (cQ (base ka kb) kb qb)]) ∧ Below w.heap.size w w' := by
  by_cases ha : ka = 3
  · subst ha
    exact alike_fa kb pa qa pb qb w h1b h3b hpa hpa' hpb hpb'
  · by_cases hb : kb = 3
    · subst hb
      have e : base ka 3 = 3 := by simp [base]
      rw [e]
      exact alike_fb ka pa qa pb qb w h1 (by omega) hpa hpa' hpb hpb'
    · by_cases ha1 : ka = 1
      · subst ha1
        have e : base 1 kb = 1 := by simp [base, hb]
        rw [e]
        exact alike_ba kb pa qa pb qb w h1b (by omega) hpa hpa' hpb hpb' hqa hqa' hqb hqb'
      · obtain rfl : ka = 2 := by omega
        by_cases hb1 : kb = 1
        · subst hb1
          exact alike_bb pa qa pb qb w hpa hpa' hpb hpb' hqa hqa' hqb hqb'
        · obtain rfl : kb = 2 := by omega
          exact alike_dd pa qa pb qb w

end Go.Proofs.YtbjnglfapgpncaaGreatDoor
