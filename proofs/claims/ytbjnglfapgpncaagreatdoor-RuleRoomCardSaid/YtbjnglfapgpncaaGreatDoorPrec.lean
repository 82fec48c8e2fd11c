/- Precisions: of sums, products, quotients and common types. -/
import Derived.Test.YtbjnglfapgpncaaGreatDoorConv
import Derived.Deep.RegionWith
namespace Go.Proofs.YtbjnglfapgpncaaGreatDoor
open Go.RowKit
def sumQ (qa qb : Int) : Int := max qa qb
def sumP (M c pa qa pb qb : Int) : Int := min M (max 1 (max (pa - qa) (pb - qb) + max qa qb + c))
def prodP (M pa pb : Int) : Int := min M (pa + pb + 1)
def prodQ (qa qb : Int) : Int := min 31 (qa + qb)
def quoQ (M pa qa qb : Int) : Int := max 0 (min 31 (M - pa + qa - qb))

set_option maxHeartbeats 2000000 in
theorem both_any (k pa qa pb qb M c : Int) (w : World) (hpa : 1 ≤ pa) (hpa' : pa ≤ 31) (hpb : 1 ≤ pb) (hpb' : pb ≤ 31) (hqa : 0 ≤ qa) (hqa' : qa ≤ 31) (hqb : 0 ≤ qb) (hqb' : qb ≤ 31) (_hM : 15 ≤ M) (_hM' : M ≤ 31) (hc : 0 ≤ c) (hc' : c ≤ 1) :
    Calls Tryz.prog 50 #[numV k pa qa, numV k pb qb, .int .i64 M, .int .i64 c] w fun e w' => e = .returned (.tuple #[.int .i64 (sumP M c pa qa pb qb), .int .i64 (sumQ qa qb)]) ∧ Below w.heap.size w w' := by
  go_enter Tryz.func50, Tryz.ntmps50
  go_wp2
  all_goals
    refine bodyPost_ret (v := .tuple #[.int .i64 (sumP M c pa qa pb qb), .int .i64 (sumQ qa qb)]) ?_ rfl ⟨rfl, by go_grown⟩
    simp [results, Tryz.results50, go_sem, sumP, sumQ]
    try omega

set_option maxHeartbeats 2000000 in
theorem psum_any (k pa qa pb qb M : Int) (w : World) (hpa : 1 ≤ pa) (hpa' : pa ≤ 31) (hpb : 1 ≤ pb) (hpb' : pb ≤ 31) (hqa : 0 ≤ qa) (hqa' : qa ≤ 31) (hqb : 0 ≤ qb) (hqb' : qb ≤ 31) (hM : 15 ≤ M) (hM' : M ≤ 31) :
    Calls Tryz.prog 42 #[numV k pa qa, numV k pb qb, .int .i64 M] w fun e w' => e = .returned (.tuple #[.int .i64 (sumP M 1 pa qa pb qb), .int .i64 (sumQ qa qb)]) ∧ Below w.heap.size w w' := by
  go_enter Tryz.func42, Tryz.ntmps42
  go_wp2_with fail
  go_at_call 50
  refine (both_any _ _ _ _ _ _ _ _ hpa hpa' hpb hpb' hqa hqa' hqb hqb' hM hM' (by omega) (by omega)).mono ?_
  rintro e w1 ⟨rfl, hb1⟩
  go_wp2
  go_ret2
  exact ⟨rfl, below_then (by go_grown) hb1 (by simp <;> omega)⟩

set_option maxHeartbeats 2000000 in
theorem pprod_any (k pa qa pb qb M : Int) (w : World) (hpa : 1 ≤ pa) (hpa' : pa ≤ 31) (hpb : 1 ≤ pb) (hpb' : pb ≤ 31) (hqa : 0 ≤ qa) (hqa' : qa ≤ 31) (hqb : 0 ≤ qb) (hqb' : qb ≤ 31) (_hM : 15 ≤ M) (_hM' : M ≤ 31) :
    Calls Tryz.prog 43 #[numV k pa qa, numV k pb qb, .int .i64 M] w fun e w' => e = .returned (.tuple #[.int .i64 (prodP M pa pb), .int .i64 (prodQ qa qb)]) ∧ Below w.heap.size w w' := by
  go_enter Tryz.func43, Tryz.ntmps43
  go_wp2_with fail
  go_region
  all_goals (try go_wp2)
  all_goals
    refine bodyPost_ret (v := .tuple #[.int .i64 (prodP M pa pb), .int .i64 (prodQ qa qb)]) ?_ rfl ⟨rfl, by go_grown⟩
    simp [results, Tryz.results43, go_sem, prodP, prodQ]
    try omega

set_option maxHeartbeats 2000000 in
theorem pquo_any (k pa qa pb qb M : Int) (w : World) (hpa : 1 ≤ pa) (hpa' : pa ≤ 31) (_hpb : 1 ≤ pb) (_hpb' : pb ≤ 31) (hqa : 0 ≤ qa) (hqa' : qa ≤ 31) (hqb : 0 ≤ qb) (hqb' : qb ≤ 31) (hM : 15 ≤ M) (hM' : M ≤ 31) :
    Calls Tryz.prog 44 #[numV k pa qa, numV k pb qb, .int .i64 M] w fun e w' => e = .returned (.tuple #[.int .i64 M, .int .i64 (quoQ M pa qa qb)]) ∧ Below w.heap.size w w' := by
  go_enter Tryz.func44, Tryz.ntmps44
  go_wp2_with fail
  go_region
  all_goals (try go_wp2)
  all_goals
    refine bodyPost_ret (v := .tuple #[.int .i64 M, .int .i64 (quoQ M pa qa qb)]) ?_ rfl ⟨rfl, by go_grown⟩
    simp [results, Tryz.results44, go_sem, quoQ]
    try omega

end Go.Proofs.YtbjnglfapgpncaaGreatDoor
