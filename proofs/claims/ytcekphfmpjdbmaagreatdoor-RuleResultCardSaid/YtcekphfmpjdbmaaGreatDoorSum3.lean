/- ironbarkref02.sum, of floats. -/
import Derived.Test.YtcekphfmpjdbmaaGreatDoorBrought
import Derived.Test.YtcekphfmpjdbmaaGreatDoorBased
namespace Go.Proofs.YtcekphfmpjdbmaaGreatDoor
open Go.RowKit
theorem brought_b3 (ka pa qa kb pb qb : Int) (hB : base ka kb = 3) (w : World) (h1 : 1 ≤ ka) (h3 : ka ≤ 3) (h1b : 1 ≤ kb) (h3b : kb ≤ 3) (hpa : 1 ≤ pa) (hpa' : pa ≤ 31) (hpb : 1 ≤ pb) (hpb' : pb ≤ 31) (hqa : 0 ≤ qa) (hqa' : qa ≤ 31) (hqb : 0 ≤ qb) (hqb' : qb ≤ 31) :
    Calls Tryz.prog 75 #[numV ka pa qa, numV kb pb qb] w fun e w' => e = .returned (.tuple #[numV 3 (flP ka pa) 0, numV 3 (flP kb pb) 0]) ∧ Below w.heap.size w w' :=
  (brought_any ka pa qa kb pb qb w h1 h3 h1b h3b hpa hpa' hpb hpb' hqa hqa' hqb hqb').mono fun _ _ ⟨he, hw⟩ => ⟨by rw [he, hB]; rfl, hw⟩
set_option maxHeartbeats 4000000 in
theorem rsum_3 (c ka pa qa kb pb qb : Int) (hB : base ka kb = 3) (w : World) (h1 : 1 ≤ ka) (h3 : ka ≤ 3) (h1b : 1 ≤ kb) (h3b : kb ≤ 3) (hpa : 1 ≤ pa) (hpa' : pa ≤ 31) (hpb : 1 ≤ pb) (hpb' : pb ≤ 31) (hqa : 0 ≤ qa) (hqa' : qa ≤ 31) (hqb : 0 ≤ qb) (hqb' : qb ≤ 31) :
    Calls Tryz.prog 76 #[numV ka pa qa, numV kb pb qb, .int .i64 c] w fun e w' => e = .returned (numV 3 (max (flP ka pa) (flP kb pb)) 0) ∧ Below w.heap.size w w' := by
  have HB := Lib.hid hB
  clear hB
  have bA := Lib.hid (cP_bd 3 ka pa hpa hpa')
  have bB := Lib.hid (cP_bd 3 kb pb hpb hpb')
  have n2 : ∀ n : Nat, n < n + 1 + 1 := fun n => by omega
  have n3 : ∀ n : Nat, n < n + 1 + 1 + 1 := fun n => by omega
  go_enter Tryz.func76, Tryz.ntmps76
  go_wp2_with fail
  go_at_call 75
  refine (brought_b3 _ _ _ _ _ _ HB.out _ h1 h3 h1b h3b hpa hpa' hpb hpb' hqa hqa' hqb hqb').mono ?_
  rintro e w1 ⟨rfl, hb1⟩
  have hz := hb1.size
  obtain ⟨a0, a1, a2, a3, a4, a5, af⟩ := bcells (w2 := w1) (b := w.heap.size) (heap_alloc3_old _ _ _ _) (by simp <;> omega) hb1
  obtain ⟨b0, b1, b2, b3, b4, b5, bf'⟩ := bcells (w2 := w1) (b := w.heap.size + 1) (heap_alloc3_mid _ _ _ _) (by simp <;> omega) hb1
  obtain ⟨z0, z1, z2, z3, z4, z5, zf⟩ := zcells (w2 := w1) (b := w.heap.size + 1 + 1) (heap_alloc3_new _ _ _ _) (by simp) hb1
  have hz' : w.heap.size + 1 + 1 + 1 ≤ w1.heap.size := by simp at hz; omega
  have g0 : w.heap.size < w1.heap.size := by omega
  have g1 : w.heap.size + 1 < w1.heap.size := by omega
  have g2 : w.heap.size + 1 + 1 < w1.heap.size := by omega
  have nA : ¬ w.heap.size + 1 + 1 = w.heap.size := by omega
  have nA' : ¬ w.heap.size = w.heap.size + 1 + 1 := by omega
  iterate 70 (first | go_values | go_skip | go_guarded | go_step | go_upon | go_simp)
  all_goals
    refine bodyPost_ret (v := numV 3 (max (flP ka pa) (flP kb pb)) 0) ?_ rfl ⟨rfl, ?_⟩
    · simp [results, Tryz.results76, go_sem, *]
      try simp [cP]
      try omega
    · (repeat refine Below.setCell ?_ (by simp <;> omega) _)
      exact below_then (by go_grown) hb1 (by simp <;> omega)

end Go.Proofs.YtcekphfmpjdbmaaGreatDoor
