/- ironbarkref02.sum. -/
import Derived.Test.YtcekphfmpjdbmaaGreatDoorBrought
import Derived.Test.YtcekphfmpjdbmaaGreatDoorBased
namespace Go.Proofs.YtcekphfmpjdbmaaGreatDoor
open Go.RowKit
theorem brought_b (B ka pa qa kb pb qb : Int) (hB : base ka kb = B) (w : World) (h1 : 1 ≤ ka) (h3 : ka ≤ 3) (h1b : 1 ≤ kb) (h3b : kb ≤ 3) (hpa : 1 ≤ pa) (hpa' : pa ≤ 31) (hpb : 1 ≤ pb) (hpb' : pb ≤ 31) (hqa : 0 ≤ qa) (hqa' : qa ≤ 31) (hqb : 0 ≤ qb) (hqb' : qb ≤ 31) :
    Calls Tryz.prog 75 #[numV ka pa qa, numV kb pb qb] w fun e w' => e = .returned (.tuple #[numV B (cP B ka pa) (cQ B ka qa), numV B (cP B kb pb) (cQ B kb qb)]) ∧ Below w.heap.size w w' := by
  subst hB; exact brought_any ka pa qa kb pb qb w h1 h3 h1b h3b hpa hpa' hpb hpb' hqa hqa' hqb hqb'

set_option maxRecDepth 100000 in
set_option maxHeartbeats 8000000 in
theorem rsum_1 (c ka pa qa kb pb qb : Int) (hB : base ka kb = 1) (w : World) (hc : 0 ≤ c) (hc' : c ≤ 1) (h1 : 1 ≤ ka) (h3 : ka ≤ 3) (h1b : 1 ≤ kb) (h3b : kb ≤ 3) (hpa : 1 ≤ pa) (hpa' : pa ≤ 31) (hpb : 1 ≤ pb) (hpb' : pb ≤ 31) (hqa : 0 ≤ qa) (hqa' : qa ≤ 31) (hqb : 0 ≤ qb) (hqb' : qb ≤ 31) :
    Calls Tryz.prog 76 #[numV ka pa qa, numV kb pb qb, .int .i64 c] w fun e w' => e = .returned (numV 1 (sumP 31 c (cP 1 ka pa) (cQ 1 ka qa) (cP 1 kb pb) (cQ 1 kb qb)) (sumQ (cQ 1 ka qa) (cQ 1 kb qb))) ∧ Below w.heap.size w w' := by
  have HB := Lib.hid hB
  clear hB
  have n2 : ∀ n : Nat, n < n + 1 + 1 := fun n => by omega
  have n3 : ∀ n : Nat, n < n + 1 + 1 + 1 := fun n => by omega
  go_enter Tryz.func76, Tryz.ntmps76
  go_wp2_with fail
  go_at_call 75
  refine (brought_b 1 _ _ _ _ _ _ HB.out _ h1 h3 h1b h3b hpa hpa' hpb hpb' hqa hqa' hqb hqb').mono ?_
  rintro e w1 ⟨rfl, hb1⟩
  have hz := hb1.size
  obtain ⟨a0, a1, a2, a3, a4, a5, af⟩ := bcells (w2 := w1) (b := w.heap.size) (heap_alloc3_old _ _ _ _) (by simp <;> omega) hb1
  obtain ⟨b0, b1, b2, b3, b4, b5, bf'⟩ := bcells (w2 := w1) (b := w.heap.size + 1) (heap_alloc3_mid _ _ _ _) (by simp <;> omega) hb1
  obtain ⟨z0, z1, z2, z3, z4, z5, zf⟩ := zcells (w2 := w1) (b := w.heap.size + 1 + 1) (heap_alloc3_new _ _ _ _) (by simp) hb1
  have hz' : w.heap.size + 1 + 1 + 1 ≤ w1.heap.size := by simp at hz; omega
  have g0 : w.heap.size < w1.heap.size := by omega
  have g1 : w.heap.size + 1 < w1.heap.size := by omega
  have g2 : w.heap.size + 1 + 1 < w1.heap.size := by omega
  go_wp2_with fail
  generalize hwm : (World.setCell (World.setCell (World.setCell (World.setCell (World.setCell (World.setCell (World.setCell (World.setCell (World.setCell (World.setCell (World.setCell (World.setCell w1 ⟨w.heap.size, 0, none⟩ (.int .i64 1)) ⟨w.heap.size, 1, none⟩ (.int .i64 (cP 1 ka pa))) ⟨w.heap.size, 2, none⟩ (.int .i64 (cQ 1 ka qa))) ⟨w.heap.size, 3, none⟩ (.int .i64 0)) ⟨w.heap.size, 4, none⟩ (.bool false)) ⟨w.heap.size, 5, none⟩ (.string ⟨#[]⟩)) ⟨w.heap.size + 1, 0, none⟩ (.int .i64 1)) ⟨w.heap.size + 1, 1, none⟩ (.int .i64 (cP 1 kb pb))) ⟨w.heap.size + 1, 2, none⟩ (.int .i64 (cQ 1 kb qb))) ⟨w.heap.size + 1, 3, none⟩ (.int .i64 0)) ⟨w.heap.size + 1, 4, none⟩ (.bool false)) ⟨w.heap.size + 1, 5, none⟩ (.string ⟨#[]⟩)) = wm
  have hwm' : set6 (set6 w1 w.heap.size 1 (cP 1 ka pa) (cQ 1 ka qa)) (w.heap.size + 1) 1 (cP 1 kb pb) (cQ 1 kb qb) = wm := hwm
  clear hwm
  have hne : (⟨w.heap.size + 1, 0, none⟩ : Addr).block ≠ w.heap.size := by simp
  have sB := fun j => set6_other w1 w.heap.size 1 (cP 1 ka pa) (cQ 1 ka qa) ⟨w.heap.size + 1, j, none⟩ (by simp)
  obtain ⟨s0, s1, s2, s3, s4, s5⟩ := set6_cells a0 a1 a2 a3 a4 a5 1 (cP 1 ka pa) (cQ 1 ka qa)
  obtain ⟨t0, t1, t2, t3, t4, t5⟩ := set6_cells ((sB 0).trans b0) ((sB 1).trans b1) ((sB 2).trans b2) ((sB 3).trans b3) ((sB 4).trans b4) ((sB 5).trans b5) 1 (cP 1 kb pb) (cQ 1 kb qb)
  have sA := fun j => set6_other (set6 w1 w.heap.size 1 (cP 1 ka pa) (cQ 1 ka qa)) (w.heap.size + 1) 1 (cP 1 kb pb) (cQ 1 kb qb) ⟨w.heap.size, j, none⟩ (by simp)
  have sO := fun (a : Addr) (h : a.block ≠ w.heap.size) (h' : a.block ≠ w.heap.size + 1) => (set6_other (set6 w1 w.heap.size 1 (cP 1 ka pa) (cQ 1 ka qa)) (w.heap.size + 1) 1 (cP 1 kb pb) (cQ 1 kb qb) a h').trans (set6_other w1 w.heap.size 1 (cP 1 ka pa) (cQ 1 ka qa) a h)
  have u0 := (sA 0).trans s0
  have u1 := (sA 1).trans s1
  have u2 := (sA 2).trans s2
  have u3 := (sA 3).trans s3
  have u4 := (sA 4).trans s4
  have u5 := (sA 5).trans s5
  have y0 := (sO ⟨w.heap.size + 1 + 1, 0, none⟩ (by simp <;> omega) (by simp <;> omega)).trans z0
  have y1 := (sO ⟨w.heap.size + 1 + 1, 1, none⟩ (by simp <;> omega) (by simp <;> omega)).trans z1
  have y2 := (sO ⟨w.heap.size + 1 + 1, 2, none⟩ (by simp <;> omega) (by simp <;> omega)).trans z2
  have y3 := (sO ⟨w.heap.size + 1 + 1, 3, none⟩ (by simp <;> omega) (by simp <;> omega)).trans z3
  have y4 := (sO ⟨w.heap.size + 1 + 1, 4, none⟩ (by simp <;> omega) (by simp <;> omega)).trans z4
  have y5 := (sO ⟨w.heap.size + 1 + 1, 5, none⟩ (by simp <;> omega) (by simp <;> omega)).trans z5
  have yf : ∀ j, (set6 (set6 w1 w.heap.size 1 (cP 1 ka pa) (cQ 1 ka qa)) (w.heap.size + 1) 1 (cP 1 kb pb) (cQ 1 kb qb)).frozen? ⟨w.heap.size + 1 + 1, j, none⟩ = false := fun j => by rw [set6_frozen, set6_frozen]; exact zf j
  have hBm : Below w.heap.size w (set6 (set6 w1 w.heap.size 1 (cP 1 ka pa) (cQ 1 ka qa)) (w.heap.size + 1) 1 (cP 1 kb pb) (cQ 1 kb qb)) := set6_below (set6_below (below_then (by go_grown) hb1 (by simp <;> omega)) (Nat.le_refl _)) (by omega)
  have hzm : (set6 (set6 w1 w.heap.size 1 (cP 1 ka pa) (cQ 1 ka qa)) (w.heap.size + 1) 1 (cP 1 kb pb) (cQ 1 kb qb)).heap.size = w1.heap.size := by rw [set6_size, set6_size]
  rw [hwm'] at t0 t1 t2 t3 t4 t5 u0 u1 u2 u3 u4 u5 y0 y1 y2 y3 y4 y5 yf hBm hzm
  rw [← hzm] at g0 g1 g2
  clear sA sB sO s0 s1 s2 s3 s4 s5 a0 a1 a2 a3 a4 a5 b0 b1 b2 b3 b4 b5 z0 z1 z2 z3 z4 z5 af bf' zf hwm' hz hz' hb1 hzm hne
  clear w1
  obtain ⟨ap, ap'⟩ := cP_bd 1 ka pa hpa hpa'
  obtain ⟨bp, bp'⟩ := cP_bd 1 kb pb hpb hpb'
  obtain ⟨aq, aq'⟩ := cQ_bd 1 ka qa hqa hqa'
  obtain ⟨bq, bq'⟩ := cQ_bd 1 kb qb hqb hqb'
  have nA : ¬ w.heap.size + 1 + 1 = w.heap.size := by omega
  have nA' : ¬ w.heap.size = w.heap.size + 1 + 1 := by omega
  have e1 : IntKind.i64.wrap (cP 1 ka pa - cQ 1 ka qa) = cP 1 ka pa - cQ 1 ka qa := IntWalk.i64_in _ (by omega)
  have e2 : IntKind.i64.wrap (cP 1 kb pb - cQ 1 kb qb) = cP 1 kb pb - cQ 1 kb qb := IntWalk.i64_in _ (by omega)
  have e3 : IntKind.i64.wrap (max (cP 1 ka pa - cQ 1 ka qa) (cP 1 kb pb - cQ 1 kb qb) + max (cQ 1 ka qa) (cQ 1 kb qb)) = max (cP 1 ka pa - cQ 1 ka qa) (cP 1 kb pb - cQ 1 kb qb) + max (cQ 1 ka qa) (cQ 1 kb qb) := IntWalk.i64_in _ (by omega)
  have e4 : IntKind.i64.wrap (max (cP 1 ka pa - cQ 1 ka qa) (cP 1 kb pb - cQ 1 kb qb) + max (cQ 1 ka qa) (cQ 1 kb qb) + c) = max (cP 1 ka pa - cQ 1 ka qa) (cP 1 kb pb - cQ 1 kb qb) + max (cQ 1 ka qa) (cQ 1 kb qb) + c := IntWalk.i64_in _ (by omega)
  go_wp2_with fail
  go_region_held3 (fun w' => (w'.cell? ⟨w.heap.size, 0, none⟩ = some (.int .i64 1) ∧ w'.cell? ⟨w.heap.size, 1, none⟩ = some (.int .i64 (cP 1 ka pa)) ∧ w'.cell? ⟨w.heap.size, 2, none⟩ = some (.int .i64 (cQ 1 ka qa)) ∧ w'.cell? ⟨w.heap.size, 3, none⟩ = some (.int .i64 0) ∧ w'.cell? ⟨w.heap.size, 4, none⟩ = some (.bool false) ∧ w'.cell? ⟨w.heap.size, 5, none⟩ = some (.string ⟨#[]⟩)) ∧
      (w'.cell? ⟨w.heap.size + 1, 0, none⟩ = some (.int .i64 1) ∧ w'.cell? ⟨w.heap.size + 1, 1, none⟩ = some (.int .i64 (cP 1 kb pb)) ∧ w'.cell? ⟨w.heap.size + 1, 2, none⟩ = some (.int .i64 (cQ 1 kb qb)) ∧ w'.cell? ⟨w.heap.size + 1, 3, none⟩ = some (.int .i64 0) ∧ w'.cell? ⟨w.heap.size + 1, 4, none⟩ = some (.bool false) ∧ w'.cell? ⟨w.heap.size + 1, 5, none⟩ = some (.string ⟨#[]⟩)))
      (first | go_keep | (go_split_ands; refine ⟨⟨?_, ?_, ?_, ?_, ?_, ?_⟩, ⟨?_, ?_, ?_, ?_, ?_, ?_⟩⟩ <;> (rw [hb2.cell (by simp <;> omega)]; assumption)))
      (first | (go_at_call 77; refine (limit_1 _ _ _).mono ?_; rintro e w2 ⟨rfl, hb2⟩; have hb3 : Below wm.heap.size wm w2 := (below_then ((Below.refl _ _).drew) hb2 (by simp)); obtain ⟨hc2, hf2⟩ := bcell hb3; have hz2 := hb3.size; have gg : w.heap.size + 1 + 1 < w2.heap.size := (by omega)))
  all_goals
    clear e1 e2 e3 e4
    go_wp2
    refine bodyPost_ret (v := numV 1 (sumP 31 c (cP 1 ka pa) (cQ 1 ka qa) (cP 1 kb pb) (cQ 1 kb qb)) (sumQ (cQ 1 ka qa) (cQ 1 kb qb))) ?_ rfl ⟨rfl, ?_⟩
    · simp [results, Tryz.results76, go_sem, sumP, sumQ, *]
    · (repeat refine Below.setCell ?_ (by simp <;> omega) _)
      exact below_then hBm hb3 (by omega)

set_option maxRecDepth 100000 in
set_option maxHeartbeats 8000000 in
theorem rsum_2 (c ka pa qa kb pb qb : Int) (hB : base ka kb = 2) (w : World) (hc : 0 ≤ c) (hc' : c ≤ 1) (h1 : 1 ≤ ka) (h3 : ka ≤ 3) (h1b : 1 ≤ kb) (h3b : kb ≤ 3) (hpa : 1 ≤ pa) (hpa' : pa ≤ 31) (hpb : 1 ≤ pb) (hpb' : pb ≤ 31) (hqa : 0 ≤ qa) (hqa' : qa ≤ 31) (hqb : 0 ≤ qb) (hqb' : qb ≤ 31) :
    Calls Tryz.prog 76 #[numV ka pa qa, numV kb pb qb, .int .i64 c] w fun e w' => e = .returned (numV 2 (sumP 15 c (cP 2 ka pa) (cQ 2 ka qa) (cP 2 kb pb) (cQ 2 kb qb)) (sumQ (cQ 2 ka qa) (cQ 2 kb qb))) ∧ Below w.heap.size w w' := by
  have HB := Lib.hid hB
  clear hB
  have n2 : ∀ n : Nat, n < n + 1 + 1 := fun n => by omega
  have n3 : ∀ n : Nat, n < n + 1 + 1 + 1 := fun n => by omega
  go_enter Tryz.func76, Tryz.ntmps76
  go_wp2_with fail
  go_at_call 75
  refine (brought_b 2 _ _ _ _ _ _ HB.out _ h1 h3 h1b h3b hpa hpa' hpb hpb' hqa hqa' hqb hqb').mono ?_
  rintro e w1 ⟨rfl, hb1⟩
  have hz := hb1.size
  obtain ⟨a0, a1, a2, a3, a4, a5, af⟩ := bcells (w2 := w1) (b := w.heap.size) (heap_alloc3_old _ _ _ _) (by simp <;> omega) hb1
  obtain ⟨b0, b1, b2, b3, b4, b5, bf'⟩ := bcells (w2 := w1) (b := w.heap.size + 1) (heap_alloc3_mid _ _ _ _) (by simp <;> omega) hb1
  obtain ⟨z0, z1, z2, z3, z4, z5, zf⟩ := zcells (w2 := w1) (b := w.heap.size + 1 + 1) (heap_alloc3_new _ _ _ _) (by simp) hb1
  have hz' : w.heap.size + 1 + 1 + 1 ≤ w1.heap.size := by simp at hz; omega
  have g0 : w.heap.size < w1.heap.size := by omega
  have g1 : w.heap.size + 1 < w1.heap.size := by omega
  have g2 : w.heap.size + 1 + 1 < w1.heap.size := by omega
  go_wp2_with fail
  generalize hwm : (World.setCell (World.setCell (World.setCell (World.setCell (World.setCell (World.setCell (World.setCell (World.setCell (World.setCell (World.setCell (World.setCell (World.setCell w1 ⟨w.heap.size, 0, none⟩ (.int .i64 2)) ⟨w.heap.size, 1, none⟩ (.int .i64 (cP 2 ka pa))) ⟨w.heap.size, 2, none⟩ (.int .i64 (cQ 2 ka qa))) ⟨w.heap.size, 3, none⟩ (.int .i64 0)) ⟨w.heap.size, 4, none⟩ (.bool false)) ⟨w.heap.size, 5, none⟩ (.string ⟨#[]⟩)) ⟨w.heap.size + 1, 0, none⟩ (.int .i64 2)) ⟨w.heap.size + 1, 1, none⟩ (.int .i64 (cP 2 kb pb))) ⟨w.heap.size + 1, 2, none⟩ (.int .i64 (cQ 2 kb qb))) ⟨w.heap.size + 1, 3, none⟩ (.int .i64 0)) ⟨w.heap.size + 1, 4, none⟩ (.bool false)) ⟨w.heap.size + 1, 5, none⟩ (.string ⟨#[]⟩)) = wm
  have hwm' : set6 (set6 w1 w.heap.size 2 (cP 2 ka pa) (cQ 2 ka qa)) (w.heap.size + 1) 2 (cP 2 kb pb) (cQ 2 kb qb) = wm := hwm
  clear hwm
  have hne : (⟨w.heap.size + 1, 0, none⟩ : Addr).block ≠ w.heap.size := by simp
  have sB := fun j => set6_other w1 w.heap.size 2 (cP 2 ka pa) (cQ 2 ka qa) ⟨w.heap.size + 1, j, none⟩ (by simp)
  obtain ⟨s0, s1, s2, s3, s4, s5⟩ := set6_cells a0 a1 a2 a3 a4 a5 2 (cP 2 ka pa) (cQ 2 ka qa)
  obtain ⟨t0, t1, t2, t3, t4, t5⟩ := set6_cells ((sB 0).trans b0) ((sB 1).trans b1) ((sB 2).trans b2) ((sB 3).trans b3) ((sB 4).trans b4) ((sB 5).trans b5) 2 (cP 2 kb pb) (cQ 2 kb qb)
  have sA := fun j => set6_other (set6 w1 w.heap.size 2 (cP 2 ka pa) (cQ 2 ka qa)) (w.heap.size + 1) 2 (cP 2 kb pb) (cQ 2 kb qb) ⟨w.heap.size, j, none⟩ (by simp)
  have sO := fun (a : Addr) (h : a.block ≠ w.heap.size) (h' : a.block ≠ w.heap.size + 1) => (set6_other (set6 w1 w.heap.size 2 (cP 2 ka pa) (cQ 2 ka qa)) (w.heap.size + 1) 2 (cP 2 kb pb) (cQ 2 kb qb) a h').trans (set6_other w1 w.heap.size 2 (cP 2 ka pa) (cQ 2 ka qa) a h)
  have u0 := (sA 0).trans s0
  have u1 := (sA 1).trans s1
  have u2 := (sA 2).trans s2
  have u3 := (sA 3).trans s3
  have u4 := (sA 4).trans s4
  have u5 := (sA 5).trans s5
  have y0 := (sO ⟨w.heap.size + 1 + 1, 0, none⟩ (by simp <;> omega) (by simp <;> omega)).trans z0
  have y1 := (sO ⟨w.heap.size + 1 + 1, 1, none⟩ (by simp <;> omega) (by simp <;> omega)).trans z1
  have y2 := (sO ⟨w.heap.size + 1 + 1, 2, none⟩ (by simp <;> omega) (by simp <;> omega)).trans z2
  have y3 := (sO ⟨w.heap.size + 1 + 1, 3, none⟩ (by simp <;> omega) (by simp <;> omega)).trans z3
  have y4 := (sO ⟨w.heap.size + 1 + 1, 4, none⟩ (by simp <;> omega) (by simp <;> omega)).trans z4
  have y5 := (sO ⟨w.heap.size + 1 + 1, 5, none⟩ (by simp <;> omega) (by simp <;> omega)).trans z5
  have yf : ∀ j, (set6 (set6 w1 w.heap.size 2 (cP 2 ka pa) (cQ 2 ka qa)) (w.heap.size + 1) 2 (cP 2 kb pb) (cQ 2 kb qb)).frozen? ⟨w.heap.size + 1 + 1, j, none⟩ = false := fun j => by rw [set6_frozen, set6_frozen]; exact zf j
  have hBm : Below w.heap.size w (set6 (set6 w1 w.heap.size 2 (cP 2 ka pa) (cQ 2 ka qa)) (w.heap.size + 1) 2 (cP 2 kb pb) (cQ 2 kb qb)) := set6_below (set6_below (below_then (by go_grown) hb1 (by simp <;> omega)) (Nat.le_refl _)) (by omega)
  have hzm : (set6 (set6 w1 w.heap.size 2 (cP 2 ka pa) (cQ 2 ka qa)) (w.heap.size + 1) 2 (cP 2 kb pb) (cQ 2 kb qb)).heap.size = w1.heap.size := by rw [set6_size, set6_size]
  rw [hwm'] at t0 t1 t2 t3 t4 t5 u0 u1 u2 u3 u4 u5 y0 y1 y2 y3 y4 y5 yf hBm hzm
  rw [← hzm] at g0 g1 g2
  clear sA sB sO s0 s1 s2 s3 s4 s5 a0 a1 a2 a3 a4 a5 b0 b1 b2 b3 b4 b5 z0 z1 z2 z3 z4 z5 af bf' zf hwm' hz hz' hb1 hzm hne
  clear w1
  obtain ⟨ap, ap'⟩ := cP_bd 2 ka pa hpa hpa'
  obtain ⟨bp, bp'⟩ := cP_bd 2 kb pb hpb hpb'
  obtain ⟨aq, aq'⟩ := cQ_bd 2 ka qa hqa hqa'
  obtain ⟨bq, bq'⟩ := cQ_bd 2 kb qb hqb hqb'
  have nA : ¬ w.heap.size + 1 + 1 = w.heap.size := by omega
  have nA' : ¬ w.heap.size = w.heap.size + 1 + 1 := by omega
  have e1 : IntKind.i64.wrap (cP 2 ka pa - cQ 2 ka qa) = cP 2 ka pa - cQ 2 ka qa := IntWalk.i64_in _ (by omega)
  have e2 : IntKind.i64.wrap (cP 2 kb pb - cQ 2 kb qb) = cP 2 kb pb - cQ 2 kb qb := IntWalk.i64_in _ (by omega)
  have e3 : IntKind.i64.wrap (max (cP 2 ka pa - cQ 2 ka qa) (cP 2 kb pb - cQ 2 kb qb) + max (cQ 2 ka qa) (cQ 2 kb qb)) = max (cP 2 ka pa - cQ 2 ka qa) (cP 2 kb pb - cQ 2 kb qb) + max (cQ 2 ka qa) (cQ 2 kb qb) := IntWalk.i64_in _ (by omega)
  have e4 : IntKind.i64.wrap (max (cP 2 ka pa - cQ 2 ka qa) (cP 2 kb pb - cQ 2 kb qb) + max (cQ 2 ka qa) (cQ 2 kb qb) + c) = max (cP 2 ka pa - cQ 2 ka qa) (cP 2 kb pb - cQ 2 kb qb) + max (cQ 2 ka qa) (cQ 2 kb qb) + c := IntWalk.i64_in _ (by omega)
  go_wp2_with fail
  go_region_held3 (fun w' => (w'.cell? ⟨w.heap.size, 0, none⟩ = some (.int .i64 2) ∧ w'.cell? ⟨w.heap.size, 1, none⟩ = some (.int .i64 (cP 2 ka pa)) ∧ w'.cell? ⟨w.heap.size, 2, none⟩ = some (.int .i64 (cQ 2 ka qa)) ∧ w'.cell? ⟨w.heap.size, 3, none⟩ = some (.int .i64 0) ∧ w'.cell? ⟨w.heap.size, 4, none⟩ = some (.bool false) ∧ w'.cell? ⟨w.heap.size, 5, none⟩ = some (.string ⟨#[]⟩)) ∧
      (w'.cell? ⟨w.heap.size + 1, 0, none⟩ = some (.int .i64 2) ∧ w'.cell? ⟨w.heap.size + 1, 1, none⟩ = some (.int .i64 (cP 2 kb pb)) ∧ w'.cell? ⟨w.heap.size + 1, 2, none⟩ = some (.int .i64 (cQ 2 kb qb)) ∧ w'.cell? ⟨w.heap.size + 1, 3, none⟩ = some (.int .i64 0) ∧ w'.cell? ⟨w.heap.size + 1, 4, none⟩ = some (.bool false) ∧ w'.cell? ⟨w.heap.size + 1, 5, none⟩ = some (.string ⟨#[]⟩)))
      (first | go_keep | (go_split_ands; refine ⟨⟨?_, ?_, ?_, ?_, ?_, ?_⟩, ⟨?_, ?_, ?_, ?_, ?_, ?_⟩⟩ <;> (rw [hb2.cell (by simp <;> omega)]; assumption)))
      (first | (go_at_call 77; refine (limit_2 _ _ _).mono ?_; rintro e w2 ⟨rfl, hb2⟩; have hb3 : Below wm.heap.size wm w2 := (below_then ((Below.refl _ _).drew) hb2 (by simp)); obtain ⟨hc2, hf2⟩ := bcell hb3; have hz2 := hb3.size; have gg : w.heap.size + 1 + 1 < w2.heap.size := (by omega)))
  all_goals
    clear e1 e2 e3 e4
    go_wp2
    refine bodyPost_ret (v := numV 2 (sumP 15 c (cP 2 ka pa) (cQ 2 ka qa) (cP 2 kb pb) (cQ 2 kb qb)) (sumQ (cQ 2 ka qa) (cQ 2 kb qb))) ?_ rfl ⟨rfl, ?_⟩
    · simp [results, Tryz.results76, go_sem, sumP, sumQ, *]
    · (repeat refine Below.setCell ?_ (by simp <;> omega) _)
      exact below_then hBm hb3 (by omega)

end Go.Proofs.YtcekphfmpjdbmaaGreatDoor
