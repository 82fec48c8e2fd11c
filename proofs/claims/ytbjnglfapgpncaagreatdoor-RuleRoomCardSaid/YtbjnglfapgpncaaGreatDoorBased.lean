/- rule.based's closure: the type of what two types give, in their common base. -/
import Derived.Test.YtbjnglfapgpncaaGreatDoorAlike
import Derived.Test.YtbjnglfapgpncaaGreatDoorWider
import Derived.Test.YtbjnglfapgpncaaGreatDoorPrec
import Derived.Deep.RegionHeld3
namespace Go.Proofs.YtbjnglfapgpncaaGreatDoor
open Go.RowKit

theorem alike_b (B ka pa qa kb pb qb : Int) (hB : base ka kb = B) (w : World) (h1 : 1 ≤ ka) (h3 : ka ≤ 3) (h1b : 1 ≤ kb) (h3b : kb ≤ 3) (hpa : 1 ≤ pa) (hpa' : pa ≤ 31) (hpb : 1 ≤ pb) (hpb' : pb ≤ 31) (hqa : 0 ≤ qa) (hqa' : qa ≤ 31) (hqb : 0 ≤ qb) (hqb' : qb ≤ 31) :
    Calls Tryz.prog 48 #[numV ka pa qa, numV kb pb qb] w fun e w' => e = .returned (.tuple #[numV B (cP B ka pa) (cQ B ka qa), numV B (cP B kb pb) (cQ B kb qb)]) ∧ Below w.heap.size w w' := by
  subst hB; exact alike_any ka pa qa kb pb qb w h1 h3 h1b h3b hpa hpa' hpb hpb' hqa hqa' hqb hqb'

/-- A type of numbers stored into a block. -/
def set6 (w : World) (b : Nat) (k p q : Int) : World :=
  (((((w.setCell ⟨b, 0, none⟩ (.int .i64 k)).setCell ⟨b, 1, none⟩ (.int .i64 p)).setCell ⟨b, 2, none⟩ (.int .i64 q)).setCell ⟨b, 3, none⟩ (.int .i64 0)).setCell ⟨b, 4, none⟩ (.bool false)).setCell ⟨b, 5, none⟩ (.string ⟨#[]⟩)

theorem set6_other (w : World) (b : Nat) (k p q : Int) (a : Addr) (h : a.block ≠ b) : (set6 w b k p q).cell? a = w.cell? a := by
  unfold set6
  rw [World.cell?_setCell_far _ _ _ _ (Ne.symm h), World.cell?_setCell_far _ _ _ _ (Ne.symm h), World.cell?_setCell_far _ _ _ _ (Ne.symm h), World.cell?_setCell_far _ _ _ _ (Ne.symm h), World.cell?_setCell_far _ _ _ _ (Ne.symm h), World.cell?_setCell_far _ _ _ _ (Ne.symm h)]

theorem set6_frozen (w : World) (b : Nat) (k p q : Int) (a : Addr) : (set6 w b k p q).frozen? a = w.frozen? a := by
  unfold set6; simp [go_sem]

theorem set6_size (w : World) (b : Nat) (k p q : Int) : (set6 w b k p q).heap.size = w.heap.size := by
  unfold set6; simp [go_sem]

theorem set6_cells {w : World} {b : Nat} {v0 v1 v2 v3 v4 v5 : Value} (h0 : w.cell? ⟨b, 0, none⟩ = some v0) (h1 : w.cell? ⟨b, 1, none⟩ = some v1) (h2 : w.cell? ⟨b, 2, none⟩ = some v2)
    (h3 : w.cell? ⟨b, 3, none⟩ = some v3) (h4 : w.cell? ⟨b, 4, none⟩ = some v4) (h5 : w.cell? ⟨b, 5, none⟩ = some v5) (k p q : Int) :
    (set6 w b k p q).cell? ⟨b, 0, none⟩ = some (.int .i64 k) ∧ (set6 w b k p q).cell? ⟨b, 1, none⟩ = some (.int .i64 p) ∧ (set6 w b k p q).cell? ⟨b, 2, none⟩ = some (.int .i64 q) ∧
      (set6 w b k p q).cell? ⟨b, 3, none⟩ = some (.int .i64 0) ∧ (set6 w b k p q).cell? ⟨b, 4, none⟩ = some (.bool false) ∧ (set6 w b k p q).cell? ⟨b, 5, none⟩ = some (.string ⟨#[]⟩) := by
  unfold set6
  simp [go_sem, h0, h1, h2, h3, h4, h5]

theorem set6_below {B : Nat} {w0 w : World} {b : Nat} {k p q : Int} (h : Below B w0 w) (hb : B ≤ b) : Below B w0 (set6 w b k p q) := by
  unfold set6
  exact (((((h.setCell hb _).setCell hb _).setCell hb _).setCell hb _).setCell hb _).setCell hb _

/-- A block that holds a type, behind whatever leaves it alone: its cells, and that they may be written. -/
theorem bcells {X w2 : World} {b : Nat} {k p q n : Int} {vy : Bool} {pic : ByteArray} (hX : X.heap[b]? = some (.cells #[.int .i64 k, .int .i64 p, .int .i64 q, .int .i64 n, .bool vy, .string pic] 25 (0, 0))) (hb : b < X.heap.size) (h : Below X.heap.size X w2) :
    w2.cell? ⟨b, 0, none⟩ = some (.int .i64 k) ∧ w2.cell? ⟨b, 1, none⟩ = some (.int .i64 p) ∧ w2.cell? ⟨b, 2, none⟩ = some (.int .i64 q) ∧
      w2.cell? ⟨b, 3, none⟩ = some (.int .i64 n) ∧ w2.cell? ⟨b, 4, none⟩ = some (.bool vy) ∧ w2.cell? ⟨b, 5, none⟩ = some (.string pic) ∧ ∀ j, w2.frozen? ⟨b, j, none⟩ = false := by
  have h2 : w2.heap[b]? = some (.cells #[.int .i64 k, .int .i64 p, .int .i64 q, .int .i64 n, .bool vy, .string pic] 25 (0, 0)) := (h.block b hb).trans hX
  exact ⟨cell_of_row w2 b 0 _ _ _ h2, cell_of_row w2 b 1 _ _ _ h2, cell_of_row w2 b 2 _ _ _ h2, cell_of_row w2 b 3 _ _ _ h2, cell_of_row w2 b 4 _ _ _ h2, cell_of_row w2 b 5 _ _ _ h2, fun j => by simp [World.frozen?, h2]⟩

theorem heap_alloc3_new (w : World) (A B C : Obj) : (((w.alloc A).alloc B).alloc C).heap[w.heap.size + 1 + 1]? = some C := by
  have h := heap_alloc_last ((w.alloc A).alloc B) C
  rwa [World.size_alloc, World.size_alloc] at h
theorem heap_alloc3_mid (w : World) (A B C : Obj) : (((w.alloc A).alloc B).alloc C).heap[w.heap.size + 1]? = some B := by
  rw [Go.heap_alloc_old _ _ (by simp)]
  exact heap_alloc2_new _ _ _
theorem heap_alloc3_old (w : World) (A B C : Obj) : (((w.alloc A).alloc B).alloc C).heap[w.heap.size]? = some A := by
  rw [Go.heap_alloc_old _ _ (by simp <;> omega)]
  exact heap_alloc2_old _ _ _

set_option maxHeartbeats 4000000 in
theorem based_3 (ka pa qa kb pb qb : Int) (hB : base ka kb = 3) (bf : Nat) (w : World) (h1 : 1 ≤ ka) (h3 : ka ≤ 3) (h1b : 1 ≤ kb) (h3b : kb ≤ 3) (hpa : 1 ≤ pa) (hpa' : pa ≤ 31) (hpb : 1 ≤ pb) (hpb' : pb ≤ 31) (hqa : 0 ≤ qa) (hqa' : qa ≤ 31) (hqb : 0 ≤ qb) (hqb' : qb ≤ 31) :
    Calls Tryz.prog 47 #[numV ka pa qa, numV kb pb qb, .pointer (some ⟨bf, 0, none⟩)] w fun e w' => e = .returned (numV 3 (max (flP ka pa) (flP kb pb)) 0) ∧ Below w.heap.size w w' := by
  have HB := Lib.hid hB
  clear hB
  have bA := Lib.hid (cP_bd 3 ka pa hpa hpa')
  have bB := Lib.hid (cP_bd 3 kb pb hpb hpb')
  have n2 : ∀ n : Nat, n < n + 1 + 1 := fun n => by omega
  have n3 : ∀ n : Nat, n < n + 1 + 1 + 1 := fun n => by omega
  go_enter Tryz.func47, Tryz.ntmps47
  go_wp2_with fail
  go_at_call 48
  refine (alike_b 3 _ _ _ _ _ _ HB.out _ h1 h3 h1b h3b hpa hpa' hpb hpb' hqa hqa' hqb hqb').mono ?_
  rintro e w1 ⟨rfl, hb1⟩
  have hz := hb1.size
  obtain ⟨a0, a1, a2, a3, a4, a5, af⟩ := bcells (w2 := w1) (b := w.heap.size) (heap_alloc3_old _ _ _ _) (by simp <;> omega) hb1
  obtain ⟨b0, b1, b2, b3, b4, b5, bf'⟩ := bcells (w2 := w1) (b := w.heap.size + 1) (heap_alloc3_mid _ _ _ _) (by simp <;> omega) hb1
  obtain ⟨z0, z1, z2, z3, z4, z5, zf⟩ := zcells (w2 := w1) (b := w.heap.size + 1 + 1) (heap_alloc3_new _ _ _ _) (by simp) hb1
  have hz' : w.heap.size + 1 + 1 + 1 ≤ w1.heap.size := by simp at hz; omega
  have g0 : w.heap.size < w1.heap.size := by omega
  have g1 : w.heap.size + 1 < w1.heap.size := by omega
  have g2 : w.heap.size + 1 + 1 < w1.heap.size := by omega
  go_wp2_with fail
  go_at_call 45
  refine (widerFloat_any 3 _ _ 3 _ _ _ (by omega) (by omega) (by omega) (by omega) bA.out.1 bA.out.2 bB.out.1 bB.out.2).mono ?_
  rintro e w2 ⟨rfl, hb2⟩
  have hz2 := hb2.size
  obtain ⟨hc, hf⟩ := bcell hb2
  go_wp2
  refine bodyPost_ret (v := numV 3 (max (flP ka pa) (flP kb pb)) 0) ?_ rfl ⟨rfl, ?_⟩
  · simp [results, Tryz.results47, go_sem, hc, g2, z0, z1, z2, z3, z4, z5, cP, flP]
  · (repeat refine Below.setCell ?_ (by simp <;> omega) _)
    refine below_then ?_ hb2 ?_
    · (repeat refine Below.setCell ?_ (by simp <;> omega) _)
      exact below_then (by go_grown) hb1 (by simp <;> omega)
    · simp; omega

set_option maxRecDepth 100000 in
set_option maxHeartbeats 4000000 in
theorem based_1 (fx : Nat) (PP QQ : Int) (ka pa qa kb pb qb : Int) (hB : base ka kb = 1) (bf : Nat) (w : World) (h1 : 1 ≤ ka) (h3 : ka ≤ 3) (h1b : 1 ≤ kb) (h3b : kb ≤ 3) (hpa : 1 ≤ pa) (hpa' : pa ≤ 31) (hpb : 1 ≤ pb) (hpb' : pb ≤ 31) (hqa : 0 ≤ qa) (hqa' : qa ≤ 31) (hqb : 0 ≤ qb) (hqb' : qb ≤ 31)
    (hcf : ∀ (args : Array Value) (W : World), (callFunc fx args).run Tryz.prog W = .ok (.enter fx args) W) (hbf : w.cell? ⟨bf, 0, none⟩ = some (.func (.func fx) #[] #[])) (hlt : bf < w.heap.size)
    (hfx : ∀ W, Calls Tryz.prog fx #[numV 1 (cP 1 ka pa) (cQ 1 ka qa), numV 1 (cP 1 kb pb) (cQ 1 kb qb), .int .i64 31] W fun e w' => e = .returned (.tuple #[.int .i64 PP, .int .i64 QQ]) ∧ Below W.heap.size W w') :
    Calls Tryz.prog 47 #[numV ka pa qa, numV kb pb qb, .pointer (some ⟨bf, 0, none⟩)] w fun e w' => e = .returned (numV 1 PP QQ) ∧ Below w.heap.size w w' := by
  have HB := Lib.hid hB
  have HX := Lib.hid hfx
  clear hB hfx
  have n2 : ∀ n : Nat, n < n + 1 + 1 := fun n => by omega
  have n3 : ∀ n : Nat, n < n + 1 + 1 + 1 := fun n => by omega
  have l3 : bf < w.heap.size + 1 + 1 + 1 := by omega
  go_enter Tryz.func47, Tryz.ntmps47
  go_wp2_with fail
  go_at_call 48
  refine (alike_b 1 _ _ _ _ _ _ HB.out _ h1 h3 h1b h3b hpa hpa' hpb hpb' hqa hqa' hqb hqb').mono ?_
  rintro e w1 ⟨rfl, hb1⟩
  have hz := hb1.size
  obtain ⟨a0, a1, a2, a3, a4, a5, af⟩ := bcells (w2 := w1) (b := w.heap.size) (heap_alloc3_old _ _ _ _) (by simp <;> omega) hb1
  obtain ⟨b0, b1, b2, b3, b4, b5, bf'⟩ := bcells (w2 := w1) (b := w.heap.size + 1) (heap_alloc3_mid _ _ _ _) (by simp <;> omega) hb1
  obtain ⟨z0, z1, z2, z3, z4, z5, zf⟩ := zcells (w2 := w1) (b := w.heap.size + 1 + 1) (heap_alloc3_new _ _ _ _) (by simp) hb1
  have f0 : w1.cell? ⟨bf, 0, none⟩ = some (.func (.func fx) #[] #[]) := by
    rw [hb1.cell (p := ⟨bf, 0, none⟩) (by simp; omega), World.cell?_alloc_lt _ _ _ (by simp; omega), World.cell?_alloc_lt _ _ _ (by simp; omega), World.cell?_alloc_lt _ _ _ hlt]
    exact hbf
  have hz' : w.heap.size + 1 + 1 + 1 ≤ w1.heap.size := by simp at hz; omega
  have g0 : w.heap.size < w1.heap.size := by omega
  have g1 : w.heap.size + 1 < w1.heap.size := by omega
  have g2 : w.heap.size + 1 + 1 < w1.heap.size := by omega
  have g3 : bf < w1.heap.size := by omega
  go_wp2_with fail
  generalize hwm : (World.setCell (World.setCell (World.setCell (World.setCell (World.setCell (World.setCell (World.setCell (World.setCell (World.setCell (World.setCell (World.setCell (World.setCell w1 ⟨w.heap.size, 0, none⟩ (.int .i64 1)) ⟨w.heap.size, 1, none⟩ (.int .i64 (cP 1 ka pa))) ⟨w.heap.size, 2, none⟩ (.int .i64 (cQ 1 ka qa))) ⟨w.heap.size, 3, none⟩ (.int .i64 0)) ⟨w.heap.size, 4, none⟩ (.bool false)) ⟨w.heap.size, 5, none⟩ (.string ⟨#[]⟩)) ⟨w.heap.size + 1, 0, none⟩ (.int .i64 1)) ⟨w.heap.size + 1, 1, none⟩ (.int .i64 (cP 1 kb pb))) ⟨w.heap.size + 1, 2, none⟩ (.int .i64 (cQ 1 kb qb))) ⟨w.heap.size + 1, 3, none⟩ (.int .i64 0)) ⟨w.heap.size + 1, 4, none⟩ (.bool false)) ⟨w.heap.size + 1, 5, none⟩ (.string ⟨#[]⟩)) = wm
  have hwm' : set6 (set6 w1 w.heap.size 1 (cP 1 ka pa) (cQ 1 ka qa)) (w.heap.size + 1) 1 (cP 1 kb pb) (cQ 1 kb qb) = wm := hwm
  clear hwm
  have hne : (⟨w.heap.size + 1, 0, none⟩ : Addr).block ≠ w.heap.size := by simp
  have sB := fun j => set6_other w1 w.heap.size 1 (cP 1 ka pa) (cQ 1 ka qa) ⟨w.heap.size + 1, j, none⟩ (by simp)
  obtain ⟨s0, s1, s2, s3, s4, s5⟩ := set6_cells a0 a1 a2 a3 a4 a5 1 (cP 1 ka pa) (cQ 1 ka qa)
  obtain ⟨t0, t1, t2, t3, t4, t5⟩ := set6_cells ((sB 0).trans b0) ((sB 1).trans b1) ((sB 2).trans b2) ((sB 3).trans b3) ((sB 4).trans b4) ((sB 5).trans b5) 1 (cP 1 kb pb) (cQ 1 kb qb)
  have sA := fun j => set6_other (set6 w1 w.heap.size 1 (cP 1 ka pa) (cQ 1 ka qa)) (w.heap.size + 1) 1 (cP 1 kb pb) (cQ 1 kb qb) ⟨w.heap.size, j, none⟩ (by simp)
  have sO := fun (a : Addr) (h : a.block ≠ w.heap.size) (h' : a.block ≠ w.heap.size + 1) => (set6_other (set6 w1 w.heap.size 1 (cP 1 ka pa) (cQ 1 ka qa)) (w.heap.size + 1) 1 (cP 1 kb pb) (cQ 1 kb qb) a h').trans (set6_other w1 w.heap.size 1 (cP 1 ka pa) (cQ 1 ka qa) a h)
  have u0 := (sA 0).trans s0
  have u1 := (sA 1).trans s1
  have u2 := (sA 2).trans s2
  have u3 := (sA 3).trans s3
  have u4 := (sA 4).trans s4
  have u5 := (sA 5).trans s5
  have y0 := (sO ⟨w.heap.size + 1 + 1, 0, none⟩ (by simp <;> omega) (by simp <;> omega)).trans z0
  have y1 := (sO ⟨w.heap.size + 1 + 1, 1, none⟩ (by simp <;> omega) (by simp <;> omega)).trans z1
  have y2 := (sO ⟨w.heap.size + 1 + 1, 2, none⟩ (by simp <;> omega) (by simp <;> omega)).trans z2
  have y3 := (sO ⟨w.heap.size + 1 + 1, 3, none⟩ (by simp <;> omega) (by simp <;> omega)).trans z3
  have y4 := (sO ⟨w.heap.size + 1 + 1, 4, none⟩ (by simp <;> omega) (by simp <;> omega)).trans z4
  have y5 := (sO ⟨w.heap.size + 1 + 1, 5, none⟩ (by simp <;> omega) (by simp <;> omega)).trans z5
  have yf : ∀ j, (set6 (set6 w1 w.heap.size 1 (cP 1 ka pa) (cQ 1 ka qa)) (w.heap.size + 1) 1 (cP 1 kb pb) (cQ 1 kb qb)).frozen? ⟨w.heap.size + 1 + 1, j, none⟩ = false := fun j => by rw [set6_frozen, set6_frozen]; exact zf j
  have v0 := (sO ⟨bf, 0, none⟩ (by simp; omega) (by simp; omega)).trans f0
  have hBm : Below w.heap.size w (set6 (set6 w1 w.heap.size 1 (cP 1 ka pa) (cQ 1 ka qa)) (w.heap.size + 1) 1 (cP 1 kb pb) (cQ 1 kb qb)) := set6_below (set6_below (below_then (by go_grown) hb1 (by simp <;> omega)) (Nat.le_refl _)) (by omega)
  have hzm : (set6 (set6 w1 w.heap.size 1 (cP 1 ka pa) (cQ 1 ka qa)) (w.heap.size + 1) 1 (cP 1 kb pb) (cQ 1 kb qb)).heap.size = w1.heap.size := by rw [set6_size, set6_size]
  rw [hwm'] at t0 t1 t2 t3 t4 t5 u0 u1 u2 u3 u4 u5 y0 y1 y2 y3 y4 y5 yf v0 hBm hzm
  rw [← hzm] at g0 g1 g2 g3
  clear sA sB sO s0 s1 s2 s3 s4 s5 a0 a1 a2 a3 a4 a5 b0 b1 b2 b3 b4 b5 z0 z1 z2 z3 z4 z5 af bf' zf f0 hwm' hz hz' hb1 hzm hne hbf
  clear w1
  go_region_held3 (fun w' => w'.cell? ⟨bf, 0, none⟩ = some (.func (.func fx) #[] #[]) ∧
      (w'.cell? ⟨w.heap.size, 0, none⟩ = some (.int .i64 1) ∧ w'.cell? ⟨w.heap.size, 1, none⟩ = some (.int .i64 (cP 1 ka pa)) ∧ w'.cell? ⟨w.heap.size, 2, none⟩ = some (.int .i64 (cQ 1 ka qa)) ∧ w'.cell? ⟨w.heap.size, 3, none⟩ = some (.int .i64 0) ∧ w'.cell? ⟨w.heap.size, 4, none⟩ = some (.bool false) ∧ w'.cell? ⟨w.heap.size, 5, none⟩ = some (.string ⟨#[]⟩)) ∧
      (w'.cell? ⟨w.heap.size + 1, 0, none⟩ = some (.int .i64 1) ∧ w'.cell? ⟨w.heap.size + 1, 1, none⟩ = some (.int .i64 (cP 1 kb pb)) ∧ w'.cell? ⟨w.heap.size + 1, 2, none⟩ = some (.int .i64 (cQ 1 kb qb)) ∧ w'.cell? ⟨w.heap.size + 1, 3, none⟩ = some (.int .i64 0) ∧ w'.cell? ⟨w.heap.size + 1, 4, none⟩ = some (.bool false) ∧ w'.cell? ⟨w.heap.size + 1, 5, none⟩ = some (.string ⟨#[]⟩)))
    (first | go_keep | (go_split_ands; refine ⟨?_, ⟨?_, ?_, ?_, ?_, ?_, ?_⟩, ⟨?_, ?_, ?_, ?_, ?_, ?_⟩⟩ <;> (rw [hb2.cell (by simp <;> omega)]; assumption)))
    (first
      | (go_at_call 49; refine (mostOf_1 _).mono ?_; rintro e w2 ⟨rfl, rfl⟩)
      | (refine (HX.out _).mono ?_; rintro e w2 ⟨rfl, hb2⟩))
  have hb3 : Below wm.heap.size wm w2 := below_then ((Below.refl _ _).drew) hb2 (by simp)
  have hz2 := hb3.size
  obtain ⟨hc, hf⟩ := bcell hb3
  have hBw : Below w.heap.size w w2 := below_then hBm hb3 (by omega)
  clear hb2
  go_wp2
  refine bodyPost_ret (v := numV 1 PP QQ) (by simp [results, Tryz.results47, go_sem, *]) rfl ⟨rfl, ?_⟩
  (repeat refine Below.setCell ?_ (by simp <;> omega) _)
  assumption

set_option maxRecDepth 100000 in
set_option maxHeartbeats 4000000 in
theorem based_2 (fx : Nat) (PP QQ : Int) (ka pa qa kb pb qb : Int) (hB : base ka kb = 2) (bf : Nat) (w : World) (h1 : 1 ≤ ka) (h3 : ka ≤ 3) (h1b : 1 ≤ kb) (h3b : kb ≤ 3) (hpa : 1 ≤ pa) (hpa' : pa ≤ 31) (hpb : 1 ≤ pb) (hpb' : pb ≤ 31) (hqa : 0 ≤ qa) (hqa' : qa ≤ 31) (hqb : 0 ≤ qb) (hqb' : qb ≤ 31)
    (hcf : ∀ (args : Array Value) (W : World), (callFunc fx args).run Tryz.prog W = .ok (.enter fx args) W) (hbf : w.cell? ⟨bf, 0, none⟩ = some (.func (.func fx) #[] #[])) (hlt : bf < w.heap.size)
    (hfx : ∀ W, Calls Tryz.prog fx #[numV 2 (cP 2 ka pa) (cQ 2 ka qa), numV 2 (cP 2 kb pb) (cQ 2 kb qb), .int .i64 15] W fun e w' => e = .returned (.tuple #[.int .i64 PP, .int .i64 QQ]) ∧ Below W.heap.size W w') :
    Calls Tryz.prog 47 #[numV ka pa qa, numV kb pb qb, .pointer (some ⟨bf, 0, none⟩)] w fun e w' => e = .returned (numV 2 PP QQ) ∧ Below w.heap.size w w' := by
  have HB := Lib.hid hB
  have HX := Lib.hid hfx
  clear hB hfx
  have n2 : ∀ n : Nat, n < n + 1 + 1 := fun n => by omega
  have n3 : ∀ n : Nat, n < n + 1 + 1 + 1 := fun n => by omega
  have l3 : bf < w.heap.size + 1 + 1 + 1 := by omega
  go_enter Tryz.func47, Tryz.ntmps47
  go_wp2_with fail
  go_at_call 48
  refine (alike_b 2 _ _ _ _ _ _ HB.out _ h1 h3 h1b h3b hpa hpa' hpb hpb' hqa hqa' hqb hqb').mono ?_
  rintro e w1 ⟨rfl, hb1⟩
  have hz := hb1.size
  obtain ⟨a0, a1, a2, a3, a4, a5, af⟩ := bcells (w2 := w1) (b := w.heap.size) (heap_alloc3_old _ _ _ _) (by simp <;> omega) hb1
  obtain ⟨b0, b1, b2, b3, b4, b5, bf'⟩ := bcells (w2 := w1) (b := w.heap.size + 1) (heap_alloc3_mid _ _ _ _) (by simp <;> omega) hb1
  obtain ⟨z0, z1, z2, z3, z4, z5, zf⟩ := zcells (w2 := w1) (b := w.heap.size + 1 + 1) (heap_alloc3_new _ _ _ _) (by simp) hb1
  have f0 : w1.cell? ⟨bf, 0, none⟩ = some (.func (.func fx) #[] #[]) := by
    rw [hb1.cell (p := ⟨bf, 0, none⟩) (by simp; omega), World.cell?_alloc_lt _ _ _ (by simp; omega), World.cell?_alloc_lt _ _ _ (by simp; omega), World.cell?_alloc_lt _ _ _ hlt]
    exact hbf
  have hz' : w.heap.size + 1 + 1 + 1 ≤ w1.heap.size := by simp at hz; omega
  have g0 : w.heap.size < w1.heap.size := by omega
  have g1 : w.heap.size + 1 < w1.heap.size := by omega
  have g2 : w.heap.size + 1 + 1 < w1.heap.size := by omega
  have g3 : bf < w1.heap.size := by omega
  go_wp2_with fail
  generalize hwm : (World.setCell (World.setCell (World.setCell (World.setCell (World.setCell (World.setCell (World.setCell (World.setCell (World.setCell (World.setCell (World.setCell (World.setCell w1 ⟨w.heap.size, 0, none⟩ (.int .i64 2)) ⟨w.heap.size, 1, none⟩ (.int .i64 (cP 2 ka pa))) ⟨w.heap.size, 2, none⟩ (.int .i64 (cQ 2 ka qa))) ⟨w.heap.size, 3, none⟩ (.int .i64 0)) ⟨w.heap.size, 4, none⟩ (.bool false)) ⟨w.heap.size, 5, none⟩ (.string ⟨#[]⟩)) ⟨w.heap.size + 1, 0, none⟩ (.int .i64 2)) ⟨w.heap.size + 1, 1, none⟩ (.int .i64 (cP 2 kb pb))) ⟨w.heap.size + 1, 2, none⟩ (.int .i64 (cQ 2 kb qb))) ⟨w.heap.size + 1, 3, none⟩ (.int .i64 0)) ⟨w.heap.size + 1, 4, none⟩ (.bool false)) ⟨w.heap.size + 1, 5, none⟩ (.string ⟨#[]⟩)) = wm
  have hwm' : set6 (set6 w1 w.heap.size 2 (cP 2 ka pa) (cQ 2 ka qa)) (w.heap.size + 1) 2 (cP 2 kb pb) (cQ 2 kb qb) = wm := hwm
  clear hwm
  have hne : (⟨w.heap.size + 1, 0, none⟩ : Addr).block ≠ w.heap.size := by simp
  have sB := fun j => set6_other w1 w.heap.size 2 (cP 2 ka pa) (cQ 2 ka qa) ⟨w.heap.size + 1, j, none⟩ (by simp)
  obtain ⟨s0, s1, s2, s3, s4, s5⟩ := set6_cells a0 a1 a2 a3 a4 a5 2 (cP 2 ka pa) (cQ 2 ka qa)
  obtain ⟨t0, t1, t2, t3, t4, t5⟩ := set6_cells ((sB 0).trans b0) ((sB 1).trans b1) ((sB 2).trans b2) ((sB 3).trans b3) ((sB 4).trans b4) ((sB 5).trans b5) 2 (cP 2 kb pb) (cQ 2 kb qb)
  have sA := fun j => set6_other (set6 w1 w.heap.size 2 (cP 2 ka pa) (cQ 2 ka qa)) (w.heap.size + 1) 2 (cP 2 kb pb) (cQ 2 kb qb) ⟨w.heap.size, j, none⟩ (by simp)
  have sO := fun (a : Addr) (h : a.block ≠ w.heap.size) (h' : a.block ≠ w.heap.size + 1) => (set6_other (set6 w1 w.heap.size 2 (cP 2 ka pa) (cQ 2 ka qa)) (w.heap.size + 1) 2 (cP 2 kb pb) (cQ 2 kb qb) a h').trans (set6_other w1 w.heap.size 2 (cP 2 ka pa) (cQ 2 ka qa) a h)
  have u0 := (sA 0).trans s0
  have u1 := (sA 1).trans s1
  have u2 := (sA 2).trans s2
  have u3 := (sA 3).trans s3
  have u4 := (sA 4).trans s4
  have u5 := (sA 5).trans s5
  have y0 := (sO ⟨w.heap.size + 1 + 1, 0, none⟩ (by simp <;> omega) (by simp <;> omega)).trans z0
  have y1 := (sO ⟨w.heap.size + 1 + 1, 1, none⟩ (by simp <;> omega) (by simp <;> omega)).trans z1
  have y2 := (sO ⟨w.heap.size + 1 + 1, 2, none⟩ (by simp <;> omega) (by simp <;> omega)).trans z2
  have y3 := (sO ⟨w.heap.size + 1 + 1, 3, none⟩ (by simp <;> omega) (by simp <;> omega)).trans z3
  have y4 := (sO ⟨w.heap.size + 1 + 1, 4, none⟩ (by simp <;> omega) (by simp <;> omega)).trans z4
  have y5 := (sO ⟨w.heap.size + 1 + 1, 5, none⟩ (by simp <;> omega) (by simp <;> omega)).trans z5
  have yf : ∀ j, (set6 (set6 w1 w.heap.size 2 (cP 2 ka pa) (cQ 2 ka qa)) (w.heap.size + 1) 2 (cP 2 kb pb) (cQ 2 kb qb)).frozen? ⟨w.heap.size + 1 + 1, j, none⟩ = false := fun j => by rw [set6_frozen, set6_frozen]; exact zf j
  have v0 := (sO ⟨bf, 0, none⟩ (by simp; omega) (by simp; omega)).trans f0
  have hBm : Below w.heap.size w (set6 (set6 w1 w.heap.size 2 (cP 2 ka pa) (cQ 2 ka qa)) (w.heap.size + 1) 2 (cP 2 kb pb) (cQ 2 kb qb)) := set6_below (set6_below (below_then (by go_grown) hb1 (by simp <;> omega)) (Nat.le_refl _)) (by omega)
  have hzm : (set6 (set6 w1 w.heap.size 2 (cP 2 ka pa) (cQ 2 ka qa)) (w.heap.size + 1) 2 (cP 2 kb pb) (cQ 2 kb qb)).heap.size = w1.heap.size := by rw [set6_size, set6_size]
  rw [hwm'] at t0 t1 t2 t3 t4 t5 u0 u1 u2 u3 u4 u5 y0 y1 y2 y3 y4 y5 yf v0 hBm hzm
  rw [← hzm] at g0 g1 g2 g3
  clear sA sB sO s0 s1 s2 s3 s4 s5 a0 a1 a2 a3 a4 a5 b0 b1 b2 b3 b4 b5 z0 z1 z2 z3 z4 z5 af bf' zf f0 hwm' hz hz' hb1 hzm hne hbf
  clear w1
  go_region_held3 (fun w' => w'.cell? ⟨bf, 0, none⟩ = some (.func (.func fx) #[] #[]) ∧
      (w'.cell? ⟨w.heap.size, 0, none⟩ = some (.int .i64 2) ∧ w'.cell? ⟨w.heap.size, 1, none⟩ = some (.int .i64 (cP 2 ka pa)) ∧ w'.cell? ⟨w.heap.size, 2, none⟩ = some (.int .i64 (cQ 2 ka qa)) ∧ w'.cell? ⟨w.heap.size, 3, none⟩ = some (.int .i64 0) ∧ w'.cell? ⟨w.heap.size, 4, none⟩ = some (.bool false) ∧ w'.cell? ⟨w.heap.size, 5, none⟩ = some (.string ⟨#[]⟩)) ∧
      (w'.cell? ⟨w.heap.size + 1, 0, none⟩ = some (.int .i64 2) ∧ w'.cell? ⟨w.heap.size + 1, 1, none⟩ = some (.int .i64 (cP 2 kb pb)) ∧ w'.cell? ⟨w.heap.size + 1, 2, none⟩ = some (.int .i64 (cQ 2 kb qb)) ∧ w'.cell? ⟨w.heap.size + 1, 3, none⟩ = some (.int .i64 0) ∧ w'.cell? ⟨w.heap.size + 1, 4, none⟩ = some (.bool false) ∧ w'.cell? ⟨w.heap.size + 1, 5, none⟩ = some (.string ⟨#[]⟩)))
    (first | go_keep | (go_split_ands; refine ⟨?_, ⟨?_, ?_, ?_, ?_, ?_, ?_⟩, ⟨?_, ?_, ?_, ?_, ?_, ?_⟩⟩ <;> (rw [hb2.cell (by simp <;> omega)]; assumption)))
    (first
      | (go_at_call 49; refine (mostOf_2 _).mono ?_; rintro e w2 ⟨rfl, rfl⟩)
      | (refine (HX.out _).mono ?_; rintro e w2 ⟨rfl, hb2⟩))
  have hb3 : Below wm.heap.size wm w2 := below_then ((Below.refl _ _).drew) hb2 (by simp)
  have hz2 := hb3.size
  obtain ⟨hc, hf⟩ := bcell hb3
  have hBw : Below w.heap.size w w2 := below_then hBm hb3 (by omega)
  clear hb2
  go_wp2
  refine bodyPost_ret (v := numV 2 PP QQ) (by simp [results, Tryz.results47, go_sem, *]) rfl ⟨rfl, ?_⟩
  (repeat refine Below.setCell ?_ (by simp <;> omega) _)
  assumption

end Go.Proofs.YtbjnglfapgpncaaGreatDoor
