/- Precisions: of sums, products, quotients and common types. -/
import Derived.Test.YtcekphfmpjdbmaaGreatDoorConv
import Derived.Deep.RegionWith
namespace Go.Proofs.YtcekphfmpjdbmaaGreatDoor
open Go.RowKit
def sumQ (qa qb : Int) : Int := max qa qb
def sumP (M c pa qa pb qb : Int) : Int := min M (max 1 (max (pa - qa) (pb - qb) + max qa qb + c))
def prodP (M pa pb : Int) : Int := min M (pa + pb + 1)
def prodQ (qa qb : Int) : Int := min 31 (qa + qb)
def quoQ (M pa qa qb : Int) : Int := max 0 (min 31 (M - pa + qa - qb))

set_option maxHeartbeats 2000000 in
theorem both_any (k pa qa pb qb M c : Int) (w : World) (hpa : 1 ≤ pa) (hpa' : pa ≤ 31) (hpb : 1 ≤ pb) (hpb' : pb ≤ 31) (hqa : 0 ≤ qa) (hqa' : qa ≤ 31) (hqb : 0 ≤ qb) (hqb' : qb ≤ 31) (hM : 15 ≤ M) (hM' : M ≤ 31) (hc : 0 ≤ c) (hc' : c ≤ 1) :
    Calls Tryz.prog 150 #[numV k pa qa, numV k pb qb, .int .i64 M, .int .i64 c] w fun e w' => e = .returned (.tuple #[.int .i64 (sumP M c pa qa pb qb), .int .i64 (sumQ qa qb)]) ∧ Below w.heap.size w w' := by
  go_enter Tryz.func150, Tryz.ntmps150
  go_wp2
  all_goals
    refine bodyPost_ret (v := .tuple #[.int .i64 (sumP M c pa qa pb qb), .int .i64 (sumQ qa qb)]) ?_ rfl ⟨rfl, by go_grown⟩
    simp [results, Tryz.results150, go_sem, sumP, sumQ]
    try omega

set_option maxHeartbeats 2000000 in
theorem psum_any (k pa qa pb qb M : Int) (w : World) (hpa : 1 ≤ pa) (hpa' : pa ≤ 31) (hpb : 1 ≤ pb) (hpb' : pb ≤ 31) (hqa : 0 ≤ qa) (hqa' : qa ≤ 31) (hqb : 0 ≤ qb) (hqb' : qb ≤ 31) (hM : 15 ≤ M) (hM' : M ≤ 31) :
    Calls Tryz.prog 193 #[numV k pa qa, numV k pb qb, .int .i64 M] w fun e w' => e = .returned (.tuple #[.int .i64 (sumP M 1 pa qa pb qb), .int .i64 (sumQ qa qb)]) ∧ Below w.heap.size w w' := by
  go_enter Tryz.func193, Tryz.ntmps193
  go_wp2_with fail
  go_at_call 150
  refine (both_any _ _ _ _ _ _ _ _ hpa hpa' hpb hpb' hqa hqa' hqb hqb' hM hM' (by omega) (by omega)).mono ?_
  rintro e w1 ⟨rfl, hb1⟩
  go_wp2
  go_ret2
  exact ⟨rfl, below_then (by go_grown) hb1 (by simp <;> omega)⟩

set_option maxHeartbeats 2000000 in
theorem pcommon_any (k pa qa pb qb M : Int) (w : World) (hpa : 1 ≤ pa) (hpa' : pa ≤ 31) (hpb : 1 ≤ pb) (hpb' : pb ≤ 31) (hqa : 0 ≤ qa) (hqa' : qa ≤ 31) (hqb : 0 ≤ qb) (hqb' : qb ≤ 31) (hM : 15 ≤ M) (hM' : M ≤ 31) :
    Calls Tryz.prog 85 #[numV k pa qa, numV k pb qb, .int .i64 M] w fun e w' => e = .returned (.tuple #[.int .i64 (sumP M 0 pa qa pb qb), .int .i64 (sumQ qa qb)]) ∧ Below w.heap.size w w' := by
  go_enter Tryz.func85, Tryz.ntmps85
  go_wp2_with fail
  go_at_call 150
  refine (both_any _ _ _ _ _ _ _ _ hpa hpa' hpb hpb' hqa hqa' hqb hqb' hM hM' (by omega) (by omega)).mono ?_
  rintro e w1 ⟨rfl, hb1⟩
  go_wp2
  go_ret2
  exact ⟨rfl, below_then (by go_grown) hb1 (by simp <;> omega)⟩

set_option maxHeartbeats 2000000 in
theorem pprod_any (k pa qa pb qb M : Int) (w : World) (hpa : 1 ≤ pa) (hpa' : pa ≤ 31) (hpb : 1 ≤ pb) (hpb' : pb ≤ 31) (hqa : 0 ≤ qa) (hqa' : qa ≤ 31) (hqb : 0 ≤ qb) (hqb' : qb ≤ 31) (hM : 15 ≤ M) (hM' : M ≤ 31) :
    Calls Tryz.prog 194 #[numV k pa qa, numV k pb qb, .int .i64 M] w fun e w' => e = .returned (.tuple #[.int .i64 (prodP M pa pb), .int .i64 (prodQ qa qb)]) ∧ Below w.heap.size w w' := by
  go_enter Tryz.func194, Tryz.ntmps194
  go_wp2_with fail
  go_region
  all_goals (try go_wp2)
  all_goals
    refine bodyPost_ret (v := .tuple #[.int .i64 (prodP M pa pb), .int .i64 (prodQ qa qb)]) ?_ rfl ⟨rfl, by go_grown⟩
    simp [results, Tryz.results194, go_sem, prodP, prodQ]
    try omega

set_option maxHeartbeats 2000000 in
theorem pquo_any (k pa qa pb qb M : Int) (w : World) (hpa : 1 ≤ pa) (hpa' : pa ≤ 31) (hpb : 1 ≤ pb) (hpb' : pb ≤ 31) (hqa : 0 ≤ qa) (hqa' : qa ≤ 31) (hqb : 0 ≤ qb) (hqb' : qb ≤ 31) (hM : 15 ≤ M) (hM' : M ≤ 31) :
    Calls Tryz.prog 195 #[numV k pa qa, numV k pb qb, .int .i64 M] w fun e w' => e = .returned (.tuple #[.int .i64 M, .int .i64 (quoQ M pa qa qb)]) ∧ Below w.heap.size w w' := by
  go_enter Tryz.func195, Tryz.ntmps195
  go_wp2_with fail
  go_region
  all_goals (try go_wp2)
  all_goals
    refine bodyPost_ret (v := .tuple #[.int .i64 M, .int .i64 (quoQ M pa qa qb)]) ?_ rfl ⟨rfl, by go_grown⟩
    simp [results, Tryz.results195, go_sem, quoQ]
    try omega

end Go.Proofs.YtcekphfmpjdbmaaGreatDoor
