/- ironbarkref02.Result of the sign of powers. -/
import Derived.Test.YtcekphfmpjdbmaaGreatDoorRefResult
import Derived.Test.YtcekphfmpjdbmaaGreatDoorTurns0
namespace Go.Proofs.YtcekphfmpjdbmaaGreatDoor
open Go.RowKit

set_option maxRecDepth 100000 in
set_option maxHeartbeats 8000000 in
theorem refResult_power (ka pa qa kb pb qb : Int) (w : World) (hA : NumB ka pa qa) (hB : NumB kb pb qb) :
    Calls Tryz.prog 25 #[.string ⟨#[42, 42]⟩, tyV ka pa qa 0 false ⟨#[]⟩, tyV kb pb qb 0 false ⟨#[]⟩] w fun e w' => e = .returned (.tuple #[numV 3 (max (flP ka pa) (flP kb pb)) 0, .int .i64 0]) ∧ Below w.heap.size w w' := by
  have A := Lib.hid hA; have B := Lib.hid hB
  clear hA hB
  have n2 : ∀ n : Nat, n < n + 1 + 1 := fun n => by omega
  have n3 : ∀ n : Nat, n < n + 1 + 1 + 1 := fun n => by omega
  have n4 : ∀ n : Nat, n < n + 1 + 1 + 1 + 1 := fun n => by omega
  go_enter Tryz.func25, Tryz.ntmps25
  go_wp2_with fail
  go_at_call 59
  refine (asked_0 [⟨ka, pa, qa, 0, false, ⟨#[]⟩⟩, ⟨kb, pb, qb, 0, false, ⟨#[]⟩⟩] (w.heap.size + 1 + 1 + 1) 0 2 _ (TysAt_two heap4_new) (by simp) (by simp) (pic2 pic0 pic0) (all2 A.out.ok B.out.ok) (all2 (f := Ty.num) A.out.num B.out.num)).mono ?_
  rintro e w1 ⟨rfl, hb1⟩
  have hz := hb1.size
  have hz1 : w.heap.size + 1 + 1 + 1 + 1 ≤ w1.heap.size := by simp at hz; omega
  have hW : Below w.heap.size w w1 := below_then (by go_grown) hb1 (by simp <;> omega)
  obtain ⟨r0, r1, r2, r3, r4, r5, rf⟩ := zcells (w2 := w1) (b := w.heap.size + 1 + 1) heap4_3 (by simp <;> omega) hb1
  obtain ⟨a0, a1, a2, a3, a4, a5, af⟩ := bcells (w2 := w1) (b := w.heap.size) heap4_old (by simp <;> omega) hb1
  obtain ⟨b0, b1, b2, b3, b4, b5, bf⟩ := bcells (w2 := w1) (b := w.heap.size + 1) heap4_2 (by simp <;> omega) hb1
  go_wp2_with fail
  go_at_call 75
  refine (brought_any _ _ _ _ _ _ _ A.out.k1 A.out.k3 B.out.k1 B.out.k3 A.out.p1 A.out.p2 B.out.p1 B.out.p2 A.out.q0 A.out.q1 B.out.q0 B.out.q1).mono ?_
  rintro e w2 ⟨rfl, hb2⟩
  have hz2 := hb2.size
  obtain ⟨hc2, hf2⟩ := bcell hb2
  have g0 : w.heap.size < w1.heap.size := by omega
  have g1 : w.heap.size + 1 < w1.heap.size := by omega
  have g2 : w.heap.size + 1 + 1 < w1.heap.size := by omega
  have q0 := (hc2 _ 0 g2).trans r0
  have q1 := (hc2 _ 1 g2).trans r1
  have q2 := (hc2 _ 2 g2).trans r2
  have q3 := (hc2 _ 3 g2).trans r3
  have q4 := (hc2 _ 4 g2).trans r4
  have q5 := (hc2 _ 5 g2).trans r5
  have qf : ∀ j, w2.frozen? ⟨w.heap.size + 1 + 1, j, none⟩ = false := fun j => (hf2 _ j g2).trans (rf j)
  have s0 := (hc2 _ 0 g0).trans a0
  have s1 := (hc2 _ 1 g0).trans a1
  have s2 := (hc2 _ 2 g0).trans a2
  have s3 := (hc2 _ 3 g0).trans a3
  have s4 := (hc2 _ 4 g0).trans a4
  have s5 := (hc2 _ 5 g0).trans a5
  have t0 := (hc2 _ 0 g1).trans b0
  have t1 := (hc2 _ 1 g1).trans b1
  have t2 := (hc2 _ 2 g1).trans b2
  have t3 := (hc2 _ 3 g1).trans b3
  have t4 := (hc2 _ 4 g1).trans b4
  have t5 := (hc2 _ 5 g1).trans b5
  have hW2 : Below w.heap.size w w2 := below_then hW hb2 (by omega)
  have k0 : w.heap.size < w2.heap.size := by omega
  have k1 : w.heap.size + 1 < w2.heap.size := by omega
  have k2 : w.heap.size + 1 + 1 < w2.heap.size := by omega
  have k0' : w.heap.size < w2.heap.size + 1 := by omega
  have k1' : w.heap.size + 1 < w2.heap.size + 1 := by omega
  have k2' : w.heap.size + 1 + 1 < w2.heap.size + 1 := by omega
  have k0'' : w.heap.size < w2.heap.size + 1 + 1 := by omega
  have k1'' : w.heap.size + 1 < w2.heap.size + 1 + 1 := by omega
  have k2'' : w.heap.size + 1 + 1 < w2.heap.size + 1 + 1 := by omega
  clear hc2 hf2 r0 r1 r2 r3 r4 r5 rf a0 a1 a2 a3 a4 a5 af b0 b1 b2 b3 b4 b5 bf hb1 hb2 hz hz2 hz1 g0 g1 g2 hW
  clear w1
  go_wp2_with fail
  generalize hwm : ((w2.alloc (.cells #[.int .i64 (base ka kb), .int .i64 (cP (base ka kb) ka pa), .int .i64 (cQ (base ka kb) ka qa), .int .i64 0, .bool false, .string ⟨#[]⟩] 23 (0, 0))).alloc (.cells #[.int .i64 (base ka kb), .int .i64 (cP (base ka kb) kb pb), .int .i64 (cQ (base ka kb) kb qb), .int .i64 0, .bool false, .string ⟨#[]⟩] 23 (0, 0))) = wm
  have hX : wm.heap[w2.heap.size]? = some (.cells #[.int .i64 (base ka kb), .int .i64 (cP (base ka kb) ka pa), .int .i64 (cQ (base ka kb) ka qa), .int .i64 0, .bool false, .string ⟨#[]⟩] 23 (0, 0)) := by rw [← hwm]; exact heap_alloc2_old _ _ _
  have hY : wm.heap[w2.heap.size + 1]? = some (.cells #[.int .i64 (base ka kb), .int .i64 (cP (base ka kb) kb pb), .int .i64 (cQ (base ka kb) kb qb), .int .i64 0, .bool false, .string ⟨#[]⟩] 23 (0, 0)) := by rw [← hwm]; exact heap_alloc2_new _ _ _
  have hBm : Below w2.heap.size w2 wm := by rw [← hwm]; go_grown
  have hzm : w2.heap.size + 1 + 1 ≤ wm.heap.size := by rw [← hwm]; simp
  clear hwm
  obtain ⟨x0, x1, x2, x3, x4, x5⟩ := BoxAt.cells (k := (base ka kb)) (p := (cP (base ka kb) ka pa)) (q := (cQ (base ka kb) ka qa)) (n := 0) (vy := false) (pic := ⟨#[]⟩) hX
  obtain ⟨y0, y1, y2, y3, y4, y5⟩ := BoxAt.cells (k := (base ka kb)) (p := (cP (base ka kb) kb pb)) (q := (cQ (base ka kb) kb qb)) (n := 0) (vy := false) (pic := ⟨#[]⟩) hY
  obtain ⟨hcm, hfm⟩ := bcell hBm
  have m0 := (hcm _ 0 k2).trans q0
  have m1 := (hcm _ 1 k2).trans q1
  have m2 := (hcm _ 2 k2).trans q2
  have m3 := (hcm _ 3 k2).trans q3
  have m4 := (hcm _ 4 k2).trans q4
  have m5 := (hcm _ 5 k2).trans q5
  have mf : ∀ j, wm.frozen? ⟨w.heap.size + 1 + 1, j, none⟩ = false := fun j => (hfm _ j k2).trans (qf j)
  have hWm : Below w.heap.size w wm := below_then hW2 hBm (by omega)
  have l0 : w2.heap.size < wm.heap.size := by omega
  have l1 : w2.heap.size + 1 < wm.heap.size := by omega
  have l2 : w.heap.size + 1 + 1 < wm.heap.size := by omega
  have z1 : ¬ w.heap.size + 1 + 1 = w2.heap.size := by omega
  have z2 : ¬ w2.heap.size = w.heap.size + 1 + 1 := by omega
  have z3 : ¬ w.heap.size + 1 + 1 = w2.heap.size + 1 := by omega
  have z4 : ¬ w2.heap.size + 1 = w.heap.size + 1 + 1 := by omega
  have z5 : ¬ w.heap.size + 1 = w2.heap.size := by omega
  have z6 : ¬ w2.heap.size = w.heap.size + 1 := by omega
  have a0 := (hcm _ 0 k0).trans s0
  have a1 := (hcm _ 1 k0).trans s1
  have a2 := (hcm _ 2 k0).trans s2
  have a3 := (hcm _ 3 k0).trans s3
  have a4 := (hcm _ 4 k0).trans s4
  have a5 := (hcm _ 5 k0).trans s5
  have b0 := (hcm _ 0 k1).trans t0
  have b1 := (hcm _ 1 k1).trans t1
  have b2 := (hcm _ 2 k1).trans t2
  have b3 := (hcm _ 3 k1).trans t3
  have b4 := (hcm _ 4 k1).trans t4
  have b5 := (hcm _ 5 k1).trans t5
  have kk : w.heap.size ≤ w2.heap.size := by omega
  have ja : w.heap.size < wm.heap.size := by omega
  have jb : w.heap.size + 1 < wm.heap.size := by omega
  have z7 : ¬ w.heap.size = w2.heap.size := by omega
  have z8 : ¬ w2.heap.size = w.heap.size := by omega
  have z9 : ¬ w.heap.size = w2.heap.size + 1 := by omega
  have z10 : ¬ w2.heap.size + 1 = w.heap.size := by omega
  have z11 : ¬ w.heap.size + 1 = w2.heap.size + 1 := by omega
  have z12 : ¬ w2.heap.size + 1 = w.heap.size + 1 := by omega
  have xf : ∀ j, wm.frozen? ⟨w2.heap.size, j, none⟩ = false := BoxAt.free (t := nTy (base ka kb) (cP (base ka kb) ka pa) (cQ (base ka kb) ka qa)) hX
  have yf : ∀ j, wm.frozen? ⟨w2.heap.size + 1, j, none⟩ = false := BoxAt.free (t := nTy (base ka kb) (cP (base ka kb) kb pb) (cQ (base ka kb) kb qb)) hY
  clear hcm hfm q0 q1 q2 q3 q4 q5 qf s0 s1 s2 s3 s4 s5 t0 t1 t2 t3 t4 t5 hX hY hBm hW2 hzm k0 k1 k2 k0' k1' k2' k0'' k1'' k2''
  go_region_held3 (fun w' => (w'.cell? ⟨w.heap.size, 0, none⟩ = some (.int .i64 ka) ∧ w'.cell? ⟨w.heap.size, 1, none⟩ = some (.int .i64 pa) ∧ w'.cell? ⟨w.heap.size, 2, none⟩ = some (.int .i64 qa) ∧ w'.cell? ⟨w.heap.size, 3, none⟩ = some (.int .i64 0) ∧ w'.cell? ⟨w.heap.size, 4, none⟩ = some (.bool false) ∧ w'.cell? ⟨w.heap.size, 5, none⟩ = some (.string ⟨#[]⟩)) ∧
      (w'.cell? ⟨w.heap.size + 1, 0, none⟩ = some (.int .i64 kb) ∧ w'.cell? ⟨w.heap.size + 1, 1, none⟩ = some (.int .i64 pb) ∧ w'.cell? ⟨w.heap.size + 1, 2, none⟩ = some (.int .i64 qb) ∧ w'.cell? ⟨w.heap.size + 1, 3, none⟩ = some (.int .i64 0) ∧ w'.cell? ⟨w.heap.size + 1, 4, none⟩ = some (.bool false) ∧ w'.cell? ⟨w.heap.size + 1, 5, none⟩ = some (.string ⟨#[]⟩)))
    (first | go_keep | (go_split_ands; refine ⟨⟨?_, ?_, ?_, ?_, ?_, ?_⟩, ⟨?_, ?_, ?_, ?_, ?_, ?_⟩⟩ <;> (rw [hb3.cell (by simp <;> omega)]; assumption)))
    (first | (go_at_call 68; refine (rfloat_any _ _ _ _ (by have := A.out.k1; have := B.out.k1; omega) (by have := A.out.k3; have := B.out.k3; omega) (by have := A.out.p1; have := B.out.p1; omega) (by have := A.out.p2; have := B.out.p2; omega)).mono ?_; rintro e w3 ⟨rfl, hb3⟩; have hb4 : Below wm.heap.size wm w3 := (by first | exact below_then ((Below.refl _ _).drew) hb3 (by simp) | exact below_then (by assumption) hb3 (by omega)); have hz4 := hb4.size; obtain ⟨hc4, hf4⟩ := bcell hb4; have gg : w.heap.size + 1 + 1 < w3.heap.size := (by omega); have gx : w2.heap.size < w3.heap.size := (by omega); have gy : w2.heap.size + 1 < w3.heap.size := (by omega)))
  all_goals
    have px0 := (hc4 _ 0 l0).trans x0
    have py0 := (hc4 _ 0 l1).trans y0
    have pm0 := (hc4 _ 0 l2).trans m0
    have px1 := (hc4 _ 1 l0).trans x1
    have py1 := (hc4 _ 1 l1).trans y1
    have pm1 := (hc4 _ 1 l2).trans m1
    have px2 := (hc4 _ 2 l0).trans x2
    have py2 := (hc4 _ 2 l1).trans y2
    have pm2 := (hc4 _ 2 l2).trans m2
    have px3 := (hc4 _ 3 l0).trans x3
    have py3 := (hc4 _ 3 l1).trans y3
    have pm3 := (hc4 _ 3 l2).trans m3
    have px4 := (hc4 _ 4 l0).trans x4
    have py4 := (hc4 _ 4 l1).trans y4
    have pm4 := (hc4 _ 4 l2).trans m4
    have px5 := (hc4 _ 5 l0).trans x5
    have py5 := (hc4 _ 5 l1).trans y5
    have pm5 := (hc4 _ 5 l2).trans m5
    have pxf : ∀ j, w3.frozen? ⟨w2.heap.size, j, none⟩ = false := fun j => (hf4 _ j l0).trans (xf j)
    have pyf : ∀ j, w3.frozen? ⟨w2.heap.size + 1, j, none⟩ = false := fun j => (hf4 _ j l1).trans (yf j)
    have pmf : ∀ j, w3.frozen? ⟨w.heap.size + 1 + 1, j, none⟩ = false := fun j => (hf4 _ j l2).trans (mf j)
    have hWz : Below w.heap.size w w3 := below_then hWm hb4 (by omega)
    clear hc4 hf4 x0 x1 x2 x3 x4 x5 y0 y1 y2 y3 y4 y5 m0 m1 m2 m3 m4 m5 a0 a1 a2 a3 a4 a5 b0 b1 b2 b3 b4 b5 xf yf mf
    iterate 40 (first | go_values | go_skip | go_guarded | go_step | go_upon | go_simp | skip)
    refine bodyPost_ret (v := .tuple #[numV 3 (max (flP ka pa) (flP kb pb)) 0, .int .i64 0]) ?_ rfl ⟨rfl, ?_⟩
    · simp [results, Tryz.results25, go_sem, px0, px1, px2, px3, px4, px5, py0, py1, py2, py3, py4, py5, pm0, pm1, pm2, pm3, pm4, pm5, z1, z2, z3, z4]
    · have e1 : w.heap.size ≤ w2.heap.size := by omega
      have e2 : w.heap.size ≤ w2.heap.size + 1 := by omega
      have e3 : w.heap.size ≤ w.heap.size + 1 + 1 := by omega
      exact set6_below (b := w.heap.size + 1 + 1) (k := 3) (p := max (flP ka pa) (flP kb pb)) (q := 0) (set6_below (b := w2.heap.size + 1) (k := 3) (p := flP kb pb) (q := 0) (set6_below (b := w2.heap.size) (k := 3) (p := flP ka pa) (q := 0) hWz e1) e2) e3

end Go.Proofs.YtcekphfmpjdbmaaGreatDoor
