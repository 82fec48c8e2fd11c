/- rule.Result's closure: the type of a result, by its sign. -/
import Derived.Test.YtbjnglfapgpncaaGreatDoorOps
namespace Go.Proofs.YtbjnglfapgpncaaGreatDoor
open Go.RowKit

set_option maxRecDepth 100000 in
set_option maxHeartbeats 2000000 in
theorem opOf_none (s : ByteArray) (w : World) (e1 : ([43] == s.toList) = false) (e2 : ([45] == s.toList) = false) (e3 : ([42] == s.toList) = false) (e4 : ([47] == s.toList) = false) (e5 : ([42, 42] == s.toList) = false) :
    Calls Tryz.prog 23 #[.string s] w fun e w' => e = refusal 5 ∧ Below w.heap.size w w' := by
  have i0 := fun b w => (ix b w).1
  have i1 := fun b w => (ix b w).2.1
  have i2 := fun b w => (ix b w).2.2.1
  have i3 := fun b w => (ix b w).2.2.2.1
  have i4 := fun b w => (ix b w).2.2.2.2
  go_enter Tryz.func23, Tryz.ntmps23
  go_wp2_with fail
  go_at_call 37
  refine (operators_b _).mono ?_
  rintro e w1 ⟨rfl, hz, c1, c2, c3, c4, hb1⟩
  obtain ⟨hc, hf⟩ := bcell hb1
  have HB := Lib.hid hb1
  have hz1 : w.heap.size < w1.heap.size := by simp at hz; omega
  clear hb1 c1 c2 c3 c4 hz
  go_wp2
  refine wp_loop_rounds 6 ?_
  rw [rounds_succ]
  go_wp2
  rw [rounds_succ]
  go_wp2
  rw [rounds_succ]
  go_wp2
  rw [rounds_succ]
  go_wp2
  rw [rounds_succ]
  go_wp2
  rw [rounds_succ]
  go_wp2_with fail
  go_at_call 36
  refine (refuse_any _ _).mono ?_
  rintro e w3 ⟨rfl, rfl⟩
  refine ⟨rfl, rfl, ?_⟩
  (repeat first | refine Below.setCell ?_ (by first | omega | (simp; omega)) _ | refine Below.alloc ?_ (by first | omega | (simp; omega)) _)
  exact below_then (by go_grown) HB.out (by simp <;> omega)

def mOf (B : Int) : Int := if B = 1 then 31 else 15
def oP (o M pa qa pb qb : Int) : Int := if o ≤ 1 then sumP M 1 pa qa pb qb else if o = 2 then prodP M pa pb else M
def oQ (o M pa qa qb : Int) : Int := if o ≤ 1 then sumQ qa qb else if o = 2 then prodQ qa qb else quoQ M pa qa qb
def rP (o B ka pa qa kb pb qb : Int) : Int := if B = 3 then max (flP ka pa) (flP kb pb) else oP o (mOf B) (cP B ka pa) (cQ B ka qa) (cP B kb pb) (cQ B kb qb)
def rQ (o B ka pa qa kb qb : Int) : Int := if B = 3 then 0 else oQ o (mOf B) (cP B ka pa) (cQ B ka qa) (cQ B kb qb)

/-- What a precision's function tells. -/
def Tells (fx : Nat) (o : Int) : Prop := ∀ (k pa qa pb qb M : Int) (w : World), 1 ≤ pa → pa ≤ 31 → 1 ≤ pb → pb ≤ 31 → 0 ≤ qa → qa ≤ 31 → 0 ≤ qb → qb ≤ 31 → 15 ≤ M → M ≤ 31 →
  Calls Tryz.prog fx #[numV k pa qa, numV k pb qb, .int .i64 M] w fun e w' => e = .returned (.tuple #[.int .i64 (oP o M pa qa pb qb), .int .i64 (oQ o M pa qa qb)]) ∧ Below w.heap.size w w'

theorem tells_0 : Tells 42 0 := fun k pa qa pb qb M w h1 h2 h3 h4 h5 h6 h7 h8 h9 h10 => psum_any k pa qa pb qb M w h1 h2 h3 h4 h5 h6 h7 h8 h9 h10
theorem tells_1 : Tells 42 1 := fun k pa qa pb qb M w h1 h2 h3 h4 h5 h6 h7 h8 h9 h10 => psum_any k pa qa pb qb M w h1 h2 h3 h4 h5 h6 h7 h8 h9 h10
theorem tells_2 : Tells 43 2 := fun k pa qa pb qb M w h1 h2 h3 h4 h5 h6 h7 h8 h9 h10 => pprod_any k pa qa pb qb M w h1 h2 h3 h4 h5 h6 h7 h8 h9 h10
theorem tells_3 : Tells 44 3 := fun k pa qa pb qb M w h1 h2 h3 h4 h5 h6 h7 h8 h9 h10 => pquo_any k pa qa pb qb M w h1 h2 h3 h4 h5 h6 h7 h8 h9 h10

theorem base_123 (ka kb : Int) : base ka kb = 1 ∨ base ka kb = 2 ∨ base ka kb = 3 := by
  unfold base; split <;> (try split) <;> simp

theorem based_o (fx : Nat) (o ka pa qa kb pb qb : Int) (bf : Nat) (w : World) (hT : Tells fx o) (hcf : ∀ (args : Array Value) (W : World), (callFunc fx args).run Tryz.prog W = .ok (.enter fx args) W)
    (h1 : 1 ≤ ka) (h3 : ka ≤ 3) (h1b : 1 ≤ kb) (h3b : kb ≤ 3) (hpa : 1 ≤ pa) (hpa' : pa ≤ 31) (hpb : 1 ≤ pb) (hpb' : pb ≤ 31) (hqa : 0 ≤ qa) (hqa' : qa ≤ 31) (hqb : 0 ≤ qb) (hqb' : qb ≤ 31)
    (hbf : w.cell? ⟨bf, 0, none⟩ = some (.func (.func fx) #[] #[])) (hlt : bf < w.heap.size) :
    Calls Tryz.prog 47 #[numV ka pa qa, numV kb pb qb, .pointer (some ⟨bf, 0, none⟩)] w fun e w' =>
      e = .returned (numV (base ka kb) (rP o (base ka kb) ka pa qa kb pb qb) (rQ o (base ka kb) ka pa qa kb qb)) ∧ Below w.heap.size w w' := by
  have a1 := cP_bd (base ka kb) ka pa hpa hpa'
  have a2 := cP_bd (base ka kb) kb pb hpb hpb'
  have a3 := cQ_bd (base ka kb) ka qa hqa hqa'
  have a4 := cQ_bd (base ka kb) kb qb hqb hqb'
  rcases base_123 ka kb with hB | hB | hB
  · rw [hB] at a1 a2 a3 a4 ⊢
    exact based_1 fx _ _ ka pa qa kb pb qb hB bf w h1 h3 h1b h3b hpa hpa' hpb hpb' hqa hqa' hqb hqb' hcf hbf hlt (fun W => hT 1 _ _ _ _ 31 W a1.1 a1.2 a2.1 a2.2 a3.1 a3.2 a4.1 a4.2 (by omega) (by omega))
  · rw [hB] at a1 a2 a3 a4 ⊢
    exact based_2 fx _ _ ka pa qa kb pb qb hB bf w h1 h3 h1b h3b hpa hpa' hpb hpb' hqa hqa' hqb hqb' hcf hbf hlt (fun W => hT 2 _ _ _ _ 15 W a1.1 a1.2 a2.1 a2.2 a3.1 a3.2 a4.1 a4.2 (by omega) (by omega))
  · rw [hB]
    exact based_3 ka pa qa kb pb qb hB bf w h1 h3 h1b h3b hpa hpa' hpb hpb' hqa hqa' hqb hqb'

/-- Bounds of a type of numbers. -/
structure NumB (k p q : Int) : Prop where
  k1 : 1 ≤ k
  k3 : k ≤ 3
  p1 : 1 ≤ p
  p2 : p ≤ 31
  q0 : 0 ≤ q
  q1 : q ≤ 31
  ok : (Ty.mk k p q 0 false ⟨#[]⟩).ok = true

theorem all2 {f : Ty → Bool} {t u : Ty} (h : f t = true) (h' : f u = true) : ∀ x ∈ [t, u], f x = true := by simp [h, h']
theorem nall2 {f : Ty → Bool} {t u : Ty} (h : f t = false ∨ f u = false) : ¬ ∀ x ∈ [t, u], f x = true := by rcases h with h | h <;> simp [h]
theorem pic2 {t u : Ty} (h : t.pic.size ≤ maxLen) (h' : u.pic.size ≤ maxLen) : ∀ x ∈ [t, u], x.pic.size ≤ maxLen := by simp [h, h']
theorem NumB.num {k p q : Int} (h : NumB k p q) : (Ty.mk k p q 0 false ⟨#[]⟩).num = true := by
  have := h.k1; have := h.k3; simp [Ty.num, isNumS]; omega

set_option maxRecDepth 100000 in
set_option maxHeartbeats 4000000 in
theorem cResult_plus (ka pa qa kb pb qb : Int) (w : World) (ba bb bo : Nat) (ha : BoxAt w ba ⟨ka, pa, qa, 0, false, ⟨#[]⟩⟩) (hb : BoxAt w bb ⟨kb, pb, qb, 0, false, ⟨#[]⟩⟩) (ho : w.cell? ⟨bo, 0, none⟩ = some (.string ⟨#[43]⟩)) (hlo : bo < w.heap.size)
    (hA : NumB ka pa qa) (hB : NumB kb pb qb) :
    Calls Tryz.prog 21 #[.pointer (some ⟨ba, 0, none⟩), .pointer (some ⟨bb, 0, none⟩), .pointer (some ⟨bo, 0, none⟩)] w fun e w' => e = .returned (numV (base ka kb) (rP 0 (base ka kb) ka pa qa kb pb qb) (rQ 0 (base ka kb) ka pa qa kb qb)) ∧ Below w.heap.size w w' := by
  have A := Lib.hid hA
  have B := Lib.hid hB
  have hla := ha.lt
  have hlb := hb.lt
  have la2 : ba < w.heap.size + 1 + 1 := by omega
  have lb2 : bb < w.heap.size + 1 + 1 := by omega
  have lo2 : bo < w.heap.size + 1 + 1 := by omega
  obtain ⟨x0, x1, x2, x3, x4, x5⟩ := ha.cells
  obtain ⟨y0, y1, y2, y3, y4, y5⟩ := hb.cells
  have hfd : ∀ (s v : Value) (W : World), (Instr.field 53 (.agg #[s, v]) 1).run Tryz.prog W = .ok v W := fun _ _ _ => by kernel_rfl
  clear ha hb hA hB
  go_enter Tryz.func21, Tryz.ntmps21
  go_wp2_with fail
  go_at_call 22
  refine (demandNumbers_ok [⟨ka, pa, qa, 0, false, ⟨#[]⟩⟩, ⟨kb, pb, qb, 0, false, ⟨#[]⟩⟩] (w.heap.size + 1) 0 2 _ (TysAt_two (heap_alloc2_new _ _ _)) (by simp) (by simp) (pic2 pic0 pic0) (all2 A.out.ok B.out.ok) (all2 (f := Ty.num) A.out.num B.out.num)).mono ?_
  rintro e w1 ⟨rfl, hb1⟩
  obtain ⟨hc, hf⟩ := bcell hb1
  have hz := hb1.size
  have hz1 : w.heap.size + 1 + 1 ≤ w1.heap.size := by simp at hz; omega
  obtain ⟨r0, r1, r2, r3, r4, r5, rf⟩ := zcells (w2 := w1) (b := w.heap.size) (heap_alloc2_old _ _ _) (by simp <;> omega) hb1
  have old : ∀ (b o : Nat), b < w.heap.size → w1.cell? ⟨b, o, none⟩ = w.cell? ⟨b, o, none⟩ := fun b o h => by
    rw [hc b o (by simp; omega), World.cell?_alloc_lt _ _ _ (by simp; omega), World.cell?_alloc_lt _ _ _ h]
  have x0' := (old ba 0 hla).trans x0
  have x1' := (old ba 1 hla).trans x1
  have x2' := (old ba 2 hla).trans x2
  have x3' := (old ba 3 hla).trans x3
  have x4' := (old ba 4 hla).trans x4
  have x5' := (old ba 5 hla).trans x5
  have y0' := (old bb 0 hlb).trans y0
  have y1' := (old bb 1 hlb).trans y1
  have y2' := (old bb 2 hlb).trans y2
  have y3' := (old bb 3 hlb).trans y3
  have y4' := (old bb 4 hlb).trans y4
  have y5' := (old bb 5 hlb).trans y5
  have o0' := (old bo 0 hlo).trans ho
  have g0 : w.heap.size < w1.heap.size := by omega
  have ga : ba < w1.heap.size := by omega
  have gb : bb < w1.heap.size := by omega
  have go' : bo < w1.heap.size := by omega
  have hW : Below w.heap.size w w1 := below_then (by go_grown) hb1 (by simp <;> omega)
  have na : ¬ w.heap.size = ba := by omega
  have nb : ¬ w.heap.size = bb := by omega
  have no : ¬ w.heap.size = bo := by omega
  have na' : ¬ ba = w.heap.size := by omega
  have nb' : ¬ bb = w.heap.size := by omega
  have no' : ¬ bo = w.heap.size := by omega
  clear hc hf hz old x0 x1 x2 x3 x4 x5 y0 y1 y2 y3 y4 y5 ho hb1
  go_wp2_with fail
  go_region_held3 (fun w' => w'.cell? ⟨bo, 0, none⟩ = some (.string ⟨#[43]⟩) ∧
      (w'.cell? ⟨ba, 0, none⟩ = some (.int .i64 ka) ∧ w'.cell? ⟨ba, 1, none⟩ = some (.int .i64 pa) ∧ w'.cell? ⟨ba, 2, none⟩ = some (.int .i64 qa) ∧ w'.cell? ⟨ba, 3, none⟩ = some (.int .i64 0) ∧ w'.cell? ⟨ba, 4, none⟩ = some (.bool false) ∧ w'.cell? ⟨ba, 5, none⟩ = some (.string ⟨#[]⟩)) ∧
      (w'.cell? ⟨bb, 0, none⟩ = some (.int .i64 kb) ∧ w'.cell? ⟨bb, 1, none⟩ = some (.int .i64 pb) ∧ w'.cell? ⟨bb, 2, none⟩ = some (.int .i64 qb) ∧ w'.cell? ⟨bb, 3, none⟩ = some (.int .i64 0) ∧ w'.cell? ⟨bb, 4, none⟩ = some (.bool false) ∧ w'.cell? ⟨bb, 5, none⟩ = some (.string ⟨#[]⟩)))
    (first | go_keep | (go_split_ands; refine ⟨?_, ⟨?_, ?_, ?_, ?_, ?_, ?_⟩, ⟨?_, ?_, ?_, ?_, ?_, ?_⟩⟩ <;> first | (rw [hb3.cell (by simp <;> omega)]; assumption) | (rw [hb2.cell (by simp <;> omega)]; assumption)))
    (first
      | (go_at_call 23; refine (opOf_plus _).mono ?_; rintro e w2 ⟨rfl, hcc, hzz, hb2⟩; (try simp at hcc hzz); have hb2' : Below w1.heap.size w1 w2 := below_then ((Below.refl _ _).drew) hb2 (by simp); have hz2 := hb2'.size; obtain ⟨hc2, hf2⟩ := bcell hb2'; have hW2 : Below w.heap.size w w2 := below_then hW hb2' (by omega); have g2 : w.heap.size < w2.heap.size := (by omega))
      | (go_at_call 47; refine (based_o _ 0 _ _ _ _ _ _ _ _ tells_0 (fun _ _ => by kernel_rfl) A.out.k1 A.out.k3 B.out.k1 B.out.k3 A.out.p1 A.out.p2 B.out.p1 B.out.p2 A.out.q0 A.out.q1 B.out.q0 B.out.q1 (by assumption) (by assumption)).mono ?_; rintro e w3 ⟨rfl, hb3⟩; obtain ⟨hc3, hf3⟩ := bcell hb3; have hW3 : Below w.heap.size w w3 := below_then hW2 hb3 (by omega)))
  go_wp2
  refine bodyPost_ret (v := numV (base ka kb) (rP 0 (base ka kb) ka pa qa kb pb qb) (rQ 0 (base ka kb) ka pa qa kb qb)) (by simp [results, Tryz.results21, go_sem, *]) rfl ⟨rfl, ?_⟩
  (repeat refine Below.setCell ?_ (by simp <;> omega) _)
  assumption

set_option maxRecDepth 100000 in
set_option maxHeartbeats 4000000 in
theorem cResult_minus (ka pa qa kb pb qb : Int) (w : World) (ba bb bo : Nat) (ha : BoxAt w ba ⟨ka, pa, qa, 0, false, ⟨#[]⟩⟩) (hb : BoxAt w bb ⟨kb, pb, qb, 0, false, ⟨#[]⟩⟩) (ho : w.cell? ⟨bo, 0, none⟩ = some (.string ⟨#[45]⟩)) (hlo : bo < w.heap.size)
    (hA : NumB ka pa qa) (hB : NumB kb pb qb) :
    Calls Tryz.prog 21 #[.pointer (some ⟨ba, 0, none⟩), .pointer (some ⟨bb, 0, none⟩), .pointer (some ⟨bo, 0, none⟩)] w fun e w' => e = .returned (numV (base ka kb) (rP 1 (base ka kb) ka pa qa kb pb qb) (rQ 1 (base ka kb) ka pa qa kb qb)) ∧ Below w.heap.size w w' := by
  have A := Lib.hid hA
  have B := Lib.hid hB
  have hla := ha.lt
  have hlb := hb.lt
  have la2 : ba < w.heap.size + 1 + 1 := by omega
  have lb2 : bb < w.heap.size + 1 + 1 := by omega
  have lo2 : bo < w.heap.size + 1 + 1 := by omega
  obtain ⟨x0, x1, x2, x3, x4, x5⟩ := ha.cells
  obtain ⟨y0, y1, y2, y3, y4, y5⟩ := hb.cells
  have hfd : ∀ (s v : Value) (W : World), (Instr.field 53 (.agg #[s, v]) 1).run Tryz.prog W = .ok v W := fun _ _ _ => by kernel_rfl
  clear ha hb hA hB
  go_enter Tryz.func21, Tryz.ntmps21
  go_wp2_with fail
  go_at_call 22
  refine (demandNumbers_ok [⟨ka, pa, qa, 0, false, ⟨#[]⟩⟩, ⟨kb, pb, qb, 0, false, ⟨#[]⟩⟩] (w.heap.size + 1) 0 2 _ (TysAt_two (heap_alloc2_new _ _ _)) (by simp) (by simp) (pic2 pic0 pic0) (all2 A.out.ok B.out.ok) (all2 (f := Ty.num) A.out.num B.out.num)).mono ?_
  rintro e w1 ⟨rfl, hb1⟩
  obtain ⟨hc, hf⟩ := bcell hb1
  have hz := hb1.size
  have hz1 : w.heap.size + 1 + 1 ≤ w1.heap.size := by simp at hz; omega
  obtain ⟨r0, r1, r2, r3, r4, r5, rf⟩ := zcells (w2 := w1) (b := w.heap.size) (heap_alloc2_old _ _ _) (by simp <;> omega) hb1
  have old : ∀ (b o : Nat), b < w.heap.size → w1.cell? ⟨b, o, none⟩ = w.cell? ⟨b, o, none⟩ := fun b o h => by
    rw [hc b o (by simp; omega), World.cell?_alloc_lt _ _ _ (by simp; omega), World.cell?_alloc_lt _ _ _ h]
  have x0' := (old ba 0 hla).trans x0
  have x1' := (old ba 1 hla).trans x1
  have x2' := (old ba 2 hla).trans x2
  have x3' := (old ba 3 hla).trans x3
  have x4' := (old ba 4 hla).trans x4
  have x5' := (old ba 5 hla).trans x5
  have y0' := (old bb 0 hlb).trans y0
  have y1' := (old bb 1 hlb).trans y1
  have y2' := (old bb 2 hlb).trans y2
  have y3' := (old bb 3 hlb).trans y3
  have y4' := (old bb 4 hlb).trans y4
  have y5' := (old bb 5 hlb).trans y5
  have o0' := (old bo 0 hlo).trans ho
  have g0 : w.heap.size < w1.heap.size := by omega
  have ga : ba < w1.heap.size := by omega
  have gb : bb < w1.heap.size := by omega
  have go' : bo < w1.heap.size := by omega
  have hW : Below w.heap.size w w1 := below_then (by go_grown) hb1 (by simp <;> omega)
  have na : ¬ w.heap.size = ba := by omega
  have nb : ¬ w.heap.size = bb := by omega
  have no : ¬ w.heap.size = bo := by omega
  have na' : ¬ ba = w.heap.size := by omega
  have nb' : ¬ bb = w.heap.size := by omega
  have no' : ¬ bo = w.heap.size := by omega
  clear hc hf hz old x0 x1 x2 x3 x4 x5 y0 y1 y2 y3 y4 y5 ho hb1
  go_wp2_with fail
  go_region_held3 (fun w' => w'.cell? ⟨bo, 0, none⟩ = some (.string ⟨#[45]⟩) ∧
      (w'.cell? ⟨ba, 0, none⟩ = some (.int .i64 ka) ∧ w'.cell? ⟨ba, 1, none⟩ = some (.int .i64 pa) ∧ w'.cell? ⟨ba, 2, none⟩ = some (.int .i64 qa) ∧ w'.cell? ⟨ba, 3, none⟩ = some (.int .i64 0) ∧ w'.cell? ⟨ba, 4, none⟩ = some (.bool false) ∧ w'.cell? ⟨ba, 5, none⟩ = some (.string ⟨#[]⟩)) ∧
      (w'.cell? ⟨bb, 0, none⟩ = some (.int .i64 kb) ∧ w'.cell? ⟨bb, 1, none⟩ = some (.int .i64 pb) ∧ w'.cell? ⟨bb, 2, none⟩ = some (.int .i64 qb) ∧ w'.cell? ⟨bb, 3, none⟩ = some (.int .i64 0) ∧ w'.cell? ⟨bb, 4, none⟩ = some (.bool false) ∧ w'.cell? ⟨bb, 5, none⟩ = some (.string ⟨#[]⟩)))
    (first | go_keep | (go_split_ands; refine ⟨?_, ⟨?_, ?_, ?_, ?_, ?_, ?_⟩, ⟨?_, ?_, ?_, ?_, ?_, ?_⟩⟩ <;> first | (rw [hb3.cell (by simp <;> omega)]; assumption) | (rw [hb2.cell (by simp <;> omega)]; assumption)))
    (first
      | (go_at_call 23; refine (opOf_minus _).mono ?_; rintro e w2 ⟨rfl, hcc, hzz, hb2⟩; (try simp at hcc hzz); have hb2' : Below w1.heap.size w1 w2 := below_then ((Below.refl _ _).drew) hb2 (by simp); have hz2 := hb2'.size; obtain ⟨hc2, hf2⟩ := bcell hb2'; have hW2 : Below w.heap.size w w2 := below_then hW hb2' (by omega); have g2 : w.heap.size < w2.heap.size := (by omega))
      | (go_at_call 47; refine (based_o _ 1 _ _ _ _ _ _ _ _ tells_1 (fun _ _ => by kernel_rfl) A.out.k1 A.out.k3 B.out.k1 B.out.k3 A.out.p1 A.out.p2 B.out.p1 B.out.p2 A.out.q0 A.out.q1 B.out.q0 B.out.q1 (by assumption) (by assumption)).mono ?_; rintro e w3 ⟨rfl, hb3⟩; obtain ⟨hc3, hf3⟩ := bcell hb3; have hW3 : Below w.heap.size w w3 := below_then hW2 hb3 (by omega)))
  go_wp2
  refine bodyPost_ret (v := numV (base ka kb) (rP 1 (base ka kb) ka pa qa kb pb qb) (rQ 1 (base ka kb) ka pa qa kb qb)) (by simp [results, Tryz.results21, go_sem, *]) rfl ⟨rfl, ?_⟩
  (repeat refine Below.setCell ?_ (by simp <;> omega) _)
  assumption

set_option maxRecDepth 100000 in
set_option maxHeartbeats 4000000 in
theorem cResult_times (ka pa qa kb pb qb : Int) (w : World) (ba bb bo : Nat) (ha : BoxAt w ba ⟨ka, pa, qa, 0, false, ⟨#[]⟩⟩) (hb : BoxAt w bb ⟨kb, pb, qb, 0, false, ⟨#[]⟩⟩) (ho : w.cell? ⟨bo, 0, none⟩ = some (.string ⟨#[42]⟩)) (hlo : bo < w.heap.size)
    (hA : NumB ka pa qa) (hB : NumB kb pb qb) :
    Calls Tryz.prog 21 #[.pointer (some ⟨ba, 0, none⟩), .pointer (some ⟨bb, 0, none⟩), .pointer (some ⟨bo, 0, none⟩)] w fun e w' => e = .returned (numV (base ka kb) (rP 2 (base ka kb) ka pa qa kb pb qb) (rQ 2 (base ka kb) ka pa qa kb qb)) ∧ Below w.heap.size w w' := by
  have A := Lib.hid hA
  have B := Lib.hid hB
  have hla := ha.lt
  have hlb := hb.lt
  have la2 : ba < w.heap.size + 1 + 1 := by omega
  have lb2 : bb < w.heap.size + 1 + 1 := by omega
  have lo2 : bo < w.heap.size + 1 + 1 := by omega
  obtain ⟨x0, x1, x2, x3, x4, x5⟩ := ha.cells
  obtain ⟨y0, y1, y2, y3, y4, y5⟩ := hb.cells
  have hfd : ∀ (s v : Value) (W : World), (Instr.field 53 (.agg #[s, v]) 1).run Tryz.prog W = .ok v W := fun _ _ _ => by kernel_rfl
  clear ha hb hA hB
  go_enter Tryz.func21, Tryz.ntmps21
  go_wp2_with fail
  go_at_call 22
  refine (demandNumbers_ok [⟨ka, pa, qa, 0, false, ⟨#[]⟩⟩, ⟨kb, pb, qb, 0, false, ⟨#[]⟩⟩] (w.heap.size + 1) 0 2 _ (TysAt_two (heap_alloc2_new _ _ _)) (by simp) (by simp) (pic2 pic0 pic0) (all2 A.out.ok B.out.ok) (all2 (f := Ty.num) A.out.num B.out.num)).mono ?_
  rintro e w1 ⟨rfl, hb1⟩
  obtain ⟨hc, hf⟩ := bcell hb1
  have hz := hb1.size
  have hz1 : w.heap.size + 1 + 1 ≤ w1.heap.size := by simp at hz; omega
  obtain ⟨r0, r1, r2, r3, r4, r5, rf⟩ := zcells (w2 := w1) (b := w.heap.size) (heap_alloc2_old _ _ _) (by simp <;> omega) hb1
  have old : ∀ (b o : Nat), b < w.heap.size → w1.cell? ⟨b, o, none⟩ = w.cell? ⟨b, o, none⟩ := fun b o h => by
    rw [hc b o (by simp; omega), World.cell?_alloc_lt _ _ _ (by simp; omega), World.cell?_alloc_lt _ _ _ h]
  have x0' := (old ba 0 hla).trans x0
  have x1' := (old ba 1 hla).trans x1
  have x2' := (old ba 2 hla).trans x2
  have x3' := (old ba 3 hla).trans x3
  have x4' := (old ba 4 hla).trans x4
  have x5' := (old ba 5 hla).trans x5
  have y0' := (old bb 0 hlb).trans y0
  have y1' := (old bb 1 hlb).trans y1
  have y2' := (old bb 2 hlb).trans y2
  have y3' := (old bb 3 hlb).trans y3
  have y4' := (old bb 4 hlb).trans y4
  have y5' := (old bb 5 hlb).trans y5
  have o0' := (old bo 0 hlo).trans ho
  have g0 : w.heap.size < w1.heap.size := by omega
  have ga : ba < w1.heap.size := by omega
  have gb : bb < w1.heap.size := by omega
  have go' : bo < w1.heap.size := by omega
  have hW : Below w.heap.size w w1 := below_then (by go_grown) hb1 (by simp <;> omega)
  have na : ¬ w.heap.size = ba := by omega
  have nb : ¬ w.heap.size = bb := by omega
  have no : ¬ w.heap.size = bo := by omega
  have na' : ¬ ba = w.heap.size := by omega
  have nb' : ¬ bb = w.heap.size := by omega
  have no' : ¬ bo = w.heap.size := by omega
  clear hc hf hz old x0 x1 x2 x3 x4 x5 y0 y1 y2 y3 y4 y5 ho hb1
  go_wp2_with fail
  go_region_held3 (fun w' => w'.cell? ⟨bo, 0, none⟩ = some (.string ⟨#[42]⟩) ∧
      (w'.cell? ⟨ba, 0, none⟩ = some (.int .i64 ka) ∧ w'.cell? ⟨ba, 1, none⟩ = some (.int .i64 pa) ∧ w'.cell? ⟨ba, 2, none⟩ = some (.int .i64 qa) ∧ w'.cell? ⟨ba, 3, none⟩ = some (.int .i64 0) ∧ w'.cell? ⟨ba, 4, none⟩ = some (.bool false) ∧ w'.cell? ⟨ba, 5, none⟩ = some (.string ⟨#[]⟩)) ∧
      (w'.cell? ⟨bb, 0, none⟩ = some (.int .i64 kb) ∧ w'.cell? ⟨bb, 1, none⟩ = some (.int .i64 pb) ∧ w'.cell? ⟨bb, 2, none⟩ = some (.int .i64 qb) ∧ w'.cell? ⟨bb, 3, none⟩ = some (.int .i64 0) ∧ w'.cell? ⟨bb, 4, none⟩ = some (.bool false) ∧ w'.cell? ⟨bb, 5, none⟩ = some (.string ⟨#[]⟩)))
    (first | go_keep | (go_split_ands; refine ⟨?_, ⟨?_, ?_, ?_, ?_, ?_, ?_⟩, ⟨?_, ?_, ?_, ?_, ?_, ?_⟩⟩ <;> first | (rw [hb3.cell (by simp <;> omega)]; assumption) | (rw [hb2.cell (by simp <;> omega)]; assumption)))
    (first
      | (go_at_call 23; refine (opOf_times _).mono ?_; rintro e w2 ⟨rfl, hcc, hzz, hb2⟩; (try simp at hcc hzz); have hb2' : Below w1.heap.size w1 w2 := below_then ((Below.refl _ _).drew) hb2 (by simp); have hz2 := hb2'.size; obtain ⟨hc2, hf2⟩ := bcell hb2'; have hW2 : Below w.heap.size w w2 := below_then hW hb2' (by omega); have g2 : w.heap.size < w2.heap.size := (by omega))
      | (go_at_call 47; refine (based_o _ 2 _ _ _ _ _ _ _ _ tells_2 (fun _ _ => by kernel_rfl) A.out.k1 A.out.k3 B.out.k1 B.out.k3 A.out.p1 A.out.p2 B.out.p1 B.out.p2 A.out.q0 A.out.q1 B.out.q0 B.out.q1 (by assumption) (by assumption)).mono ?_; rintro e w3 ⟨rfl, hb3⟩; obtain ⟨hc3, hf3⟩ := bcell hb3; have hW3 : Below w.heap.size w w3 := below_then hW2 hb3 (by omega)))
  go_wp2
  refine bodyPost_ret (v := numV (base ka kb) (rP 2 (base ka kb) ka pa qa kb pb qb) (rQ 2 (base ka kb) ka pa qa kb qb)) (by simp [results, Tryz.results21, go_sem, *]) rfl ⟨rfl, ?_⟩
  (repeat refine Below.setCell ?_ (by simp <;> omega) _)
  assumption

set_option maxRecDepth 100000 in
set_option maxHeartbeats 4000000 in
theorem cResult_over (ka pa qa kb pb qb : Int) (w : World) (ba bb bo : Nat) (ha : BoxAt w ba ⟨ka, pa, qa, 0, false, ⟨#[]⟩⟩) (hb : BoxAt w bb ⟨kb, pb, qb, 0, false, ⟨#[]⟩⟩) (ho : w.cell? ⟨bo, 0, none⟩ = some (.string ⟨#[47]⟩)) (hlo : bo < w.heap.size)
    (hA : NumB ka pa qa) (hB : NumB kb pb qb) :
    Calls Tryz.prog 21 #[.pointer (some ⟨ba, 0, none⟩), .pointer (some ⟨bb, 0, none⟩), .pointer (some ⟨bo, 0, none⟩)] w fun e w' => e = .returned (numV (base ka kb) (rP 3 (base ka kb) ka pa qa kb pb qb) (rQ 3 (base ka kb) ka pa qa kb qb)) ∧ Below w.heap.size w w' := by
  have A := Lib.hid hA
  have B := Lib.hid hB
  have hla := ha.lt
  have hlb := hb.lt
  have la2 : ba < w.heap.size + 1 + 1 := by omega
  have lb2 : bb < w.heap.size + 1 + 1 := by omega
  have lo2 : bo < w.heap.size + 1 + 1 := by omega
  obtain ⟨x0, x1, x2, x3, x4, x5⟩ := ha.cells
  obtain ⟨y0, y1, y2, y3, y4, y5⟩ := hb.cells
  have hfd : ∀ (s v : Value) (W : World), (Instr.field 53 (.agg #[s, v]) 1).run Tryz.prog W = .ok v W := fun _ _ _ => by kernel_rfl
  clear ha hb hA hB
  go_enter Tryz.func21, Tryz.ntmps21
  go_wp2_with fail
  go_at_call 22
  refine (demandNumbers_ok [⟨ka, pa, qa, 0, false, ⟨#[]⟩⟩, ⟨kb, pb, qb, 0, false, ⟨#[]⟩⟩] (w.heap.size + 1) 0 2 _ (TysAt_two (heap_alloc2_new _ _ _)) (by simp) (by simp) (pic2 pic0 pic0) (all2 A.out.ok B.out.ok) (all2 (f := Ty.num) A.out.num B.out.num)).mono ?_
  rintro e w1 ⟨rfl, hb1⟩
  obtain ⟨hc, hf⟩ := bcell hb1
  have hz := hb1.size
  have hz1 : w.heap.size + 1 + 1 ≤ w1.heap.size := by simp at hz; omega
  obtain ⟨r0, r1, r2, r3, r4, r5, rf⟩ := zcells (w2 := w1) (b := w.heap.size) (heap_alloc2_old _ _ _) (by simp <;> omega) hb1
  have old : ∀ (b o : Nat), b < w.heap.size → w1.cell? ⟨b, o, none⟩ = w.cell? ⟨b, o, none⟩ := fun b o h => by
    rw [hc b o (by simp; omega), World.cell?_alloc_lt _ _ _ (by simp; omega), World.cell?_alloc_lt _ _ _ h]
  have x0' := (old ba 0 hla).trans x0
  have x1' := (old ba 1 hla).trans x1
  have x2' := (old ba 2 hla).trans x2
  have x3' := (old ba 3 hla).trans x3
  have x4' := (old ba 4 hla).trans x4
  have x5' := (old ba 5 hla).trans x5
  have y0' := (old bb 0 hlb).trans y0
  have y1' := (old bb 1 hlb).trans y1
  have y2' := (old bb 2 hlb).trans y2
  have y3' := (old bb 3 hlb).trans y3
  have y4' := (old bb 4 hlb).trans y4
  have y5' := (old bb 5 hlb).trans y5
  have o0' := (old bo 0 hlo).trans ho
  have g0 : w.heap.size < w1.heap.size := by omega
  have ga : ba < w1.heap.size := by omega
  have gb : bb < w1.heap.size := by omega
  have go' : bo < w1.heap.size := by omega
  have hW : Below w.heap.size w w1 := below_then (by go_grown) hb1 (by simp <;> omega)
  have na : ¬ w.heap.size = ba := by omega
  have nb : ¬ w.heap.size = bb := by omega
  have no : ¬ w.heap.size = bo := by omega
  have na' : ¬ ba = w.heap.size := by omega
  have nb' : ¬ bb = w.heap.size := by omega
  have no' : ¬ bo = w.heap.size := by omega
  clear hc hf hz old x0 x1 x2 x3 x4 x5 y0 y1 y2 y3 y4 y5 ho hb1
  go_wp2_with fail
  go_region_held3 (fun w' => w'.cell? ⟨bo, 0, none⟩ = some (.string ⟨#[47]⟩) ∧
      (w'.cell? ⟨ba, 0, none⟩ = some (.int .i64 ka) ∧ w'.cell? ⟨ba, 1, none⟩ = some (.int .i64 pa) ∧ w'.cell? ⟨ba, 2, none⟩ = some (.int .i64 qa) ∧ w'.cell? ⟨ba, 3, none⟩ = some (.int .i64 0) ∧ w'.cell? ⟨ba, 4, none⟩ = some (.bool false) ∧ w'.cell? ⟨ba, 5, none⟩ = some (.string ⟨#[]⟩)) ∧
      (w'.cell? ⟨bb, 0, none⟩ = some (.int .i64 kb) ∧ w'.cell? ⟨bb, 1, none⟩ = some (.int .i64 pb) ∧ w'.cell? ⟨bb, 2, none⟩ = some (.int .i64 qb) ∧ w'.cell? ⟨bb, 3, none⟩ = some (.int .i64 0) ∧ w'.cell? ⟨bb, 4, none⟩ = some (.bool false) ∧ w'.cell? ⟨bb, 5, none⟩ = some (.string ⟨#[]⟩)))
    (first | go_keep | (go_split_ands; refine ⟨?_, ⟨?_, ?_, ?_, ?_, ?_, ?_⟩, ⟨?_, ?_, ?_, ?_, ?_, ?_⟩⟩ <;> first | (rw [hb3.cell (by simp <;> omega)]; assumption) | (rw [hb2.cell (by simp <;> omega)]; assumption)))
    (first
      | (go_at_call 23; refine (opOf_over _).mono ?_; rintro e w2 ⟨rfl, hcc, hzz, hb2⟩; (try simp at hcc hzz); have hb2' : Below w1.heap.size w1 w2 := below_then ((Below.refl _ _).drew) hb2 (by simp); have hz2 := hb2'.size; obtain ⟨hc2, hf2⟩ := bcell hb2'; have hW2 : Below w.heap.size w w2 := below_then hW hb2' (by omega); have g2 : w.heap.size < w2.heap.size := (by omega))
      | (go_at_call 47; refine (based_o _ 3 _ _ _ _ _ _ _ _ tells_3 (fun _ _ => by kernel_rfl) A.out.k1 A.out.k3 B.out.k1 B.out.k3 A.out.p1 A.out.p2 B.out.p1 B.out.p2 A.out.q0 A.out.q1 B.out.q0 B.out.q1 (by assumption) (by assumption)).mono ?_; rintro e w3 ⟨rfl, hb3⟩; obtain ⟨hc3, hf3⟩ := bcell hb3; have hW3 : Below w.heap.size w w3 := below_then hW2 hb3 (by omega)))
  go_wp2
  refine bodyPost_ret (v := numV (base ka kb) (rP 3 (base ka kb) ka pa qa kb pb qb) (rQ 3 (base ka kb) ka pa qa kb qb)) (by simp [results, Tryz.results21, go_sem, *]) rfl ⟨rfl, ?_⟩
  (repeat refine Below.setCell ?_ (by simp <;> omega) _)
  assumption

set_option maxRecDepth 100000 in
set_option maxHeartbeats 4000000 in
theorem cResult_power (ka pa qa kb pb qb : Int) (w : World) (ba bb bo : Nat) (ha : BoxAt w ba ⟨ka, pa, qa, 0, false, ⟨#[]⟩⟩) (hb : BoxAt w bb ⟨kb, pb, qb, 0, false, ⟨#[]⟩⟩) (ho : w.cell? ⟨bo, 0, none⟩ = some (.string ⟨#[42, 42]⟩)) (hlo : bo < w.heap.size)
    (hA : NumB ka pa qa) (hB : NumB kb pb qb) :
    Calls Tryz.prog 21 #[.pointer (some ⟨ba, 0, none⟩), .pointer (some ⟨bb, 0, none⟩), .pointer (some ⟨bo, 0, none⟩)] w fun e w' => e = .returned (numV 3 (max (flP ka pa) (flP kb pb)) 0) ∧ Below w.heap.size w w' := by
  have A := Lib.hid hA
  have B := Lib.hid hB
  have hla := ha.lt
  have hlb := hb.lt
  have la2 : ba < w.heap.size + 1 + 1 := by omega
  have lb2 : bb < w.heap.size + 1 + 1 := by omega
  have lo2 : bo < w.heap.size + 1 + 1 := by omega
  obtain ⟨x0, x1, x2, x3, x4, x5⟩ := ha.cells
  obtain ⟨y0, y1, y2, y3, y4, y5⟩ := hb.cells
  have hfd : ∀ (s v : Value) (W : World), (Instr.field 53 (.agg #[s, v]) 1).run Tryz.prog W = .ok v W := fun _ _ _ => by kernel_rfl
  clear ha hb hA hB
  go_enter Tryz.func21, Tryz.ntmps21
  go_wp2_with fail
  go_at_call 22
  refine (demandNumbers_ok [⟨ka, pa, qa, 0, false, ⟨#[]⟩⟩, ⟨kb, pb, qb, 0, false, ⟨#[]⟩⟩] (w.heap.size + 1) 0 2 _ (TysAt_two (heap_alloc2_new _ _ _)) (by simp) (by simp) (pic2 pic0 pic0) (all2 A.out.ok B.out.ok) (all2 (f := Ty.num) A.out.num B.out.num)).mono ?_
  rintro e w1 ⟨rfl, hb1⟩
  obtain ⟨hc, hf⟩ := bcell hb1
  have hz := hb1.size
  have hz1 : w.heap.size + 1 + 1 ≤ w1.heap.size := by simp at hz; omega
  obtain ⟨r0, r1, r2, r3, r4, r5, rf⟩ := zcells (w2 := w1) (b := w.heap.size) (heap_alloc2_old _ _ _) (by simp <;> omega) hb1
  have old : ∀ (b o : Nat), b < w.heap.size → w1.cell? ⟨b, o, none⟩ = w.cell? ⟨b, o, none⟩ := fun b o h => by
    rw [hc b o (by simp; omega), World.cell?_alloc_lt _ _ _ (by simp; omega), World.cell?_alloc_lt _ _ _ h]
  have x0' := (old ba 0 hla).trans x0
  have x1' := (old ba 1 hla).trans x1
  have x2' := (old ba 2 hla).trans x2
  have x3' := (old ba 3 hla).trans x3
  have x4' := (old ba 4 hla).trans x4
  have x5' := (old ba 5 hla).trans x5
  have y0' := (old bb 0 hlb).trans y0
  have y1' := (old bb 1 hlb).trans y1
  have y2' := (old bb 2 hlb).trans y2
  have y3' := (old bb 3 hlb).trans y3
  have y4' := (old bb 4 hlb).trans y4
  have y5' := (old bb 5 hlb).trans y5
  have o0' := (old bo 0 hlo).trans ho
  have g0 : w.heap.size < w1.heap.size := by omega
  have ga : ba < w1.heap.size := by omega
  have gb : bb < w1.heap.size := by omega
  have go' : bo < w1.heap.size := by omega
  have hW : Below w.heap.size w w1 := below_then (by go_grown) hb1 (by simp <;> omega)
  have na : ¬ w.heap.size = ba := by omega
  have nb : ¬ w.heap.size = bb := by omega
  have no : ¬ w.heap.size = bo := by omega
  have na' : ¬ ba = w.heap.size := by omega
  have nb' : ¬ bb = w.heap.size := by omega
  have no' : ¬ bo = w.heap.size := by omega
  clear hc hf hz old x0 x1 x2 x3 x4 x5 y0 y1 y2 y3 y4 y5 ho hb1
  go_wp2_with fail
  go_region_held3 (fun w' => w'.cell? ⟨bo, 0, none⟩ = some (.string ⟨#[42, 42]⟩) ∧
      (w'.cell? ⟨ba, 0, none⟩ = some (.int .i64 ka) ∧ w'.cell? ⟨ba, 1, none⟩ = some (.int .i64 pa) ∧ w'.cell? ⟨ba, 2, none⟩ = some (.int .i64 qa) ∧ w'.cell? ⟨ba, 3, none⟩ = some (.int .i64 0) ∧ w'.cell? ⟨ba, 4, none⟩ = some (.bool false) ∧ w'.cell? ⟨ba, 5, none⟩ = some (.string ⟨#[]⟩)) ∧
      (w'.cell? ⟨bb, 0, none⟩ = some (.int .i64 kb) ∧ w'.cell? ⟨bb, 1, none⟩ = some (.int .i64 pb) ∧ w'.cell? ⟨bb, 2, none⟩ = some (.int .i64 qb) ∧ w'.cell? ⟨bb, 3, none⟩ = some (.int .i64 0) ∧ w'.cell? ⟨bb, 4, none⟩ = some (.bool false) ∧ w'.cell? ⟨bb, 5, none⟩ = some (.string ⟨#[]⟩)))
    (first | go_keep | (go_split_ands; refine ⟨?_, ⟨?_, ?_, ?_, ?_, ?_, ?_⟩, ⟨?_, ?_, ?_, ?_, ?_, ?_⟩⟩ <;> first | (rw [hb3.cell (by simp <;> omega)]; assumption) | (rw [hb2.cell (by simp <;> omega)]; assumption)))
    (first
      | (go_at_call 23; refine (opOf_power _).mono ?_; rintro e w2 ⟨rfl, hb2⟩; have hb2' : Below w1.heap.size w1 w2 := below_then ((Below.refl _ _).drew) hb2 (by simp); have hz2 := hb2'.size; obtain ⟨hc2, hf2⟩ := bcell hb2'; have hW2 : Below w.heap.size w w2 := below_then hW hb2' (by omega); have g2 : w.heap.size < w2.heap.size := (by omega))
      | (go_at_call 45; refine (widerFloat_any _ _ _ _ _ _ _ A.out.k1 A.out.k3 B.out.k1 B.out.k3 A.out.p1 A.out.p2 B.out.p1 B.out.p2).mono ?_; rintro e w3 ⟨rfl, hb3⟩; obtain ⟨hc3, hf3⟩ := bcell hb3; have hW3 : Below w.heap.size w w3 := below_then hW2 hb3 (by omega)))
  go_wp2
  refine bodyPost_ret (v := numV 3 (max (flP ka pa) (flP kb pb)) 0) (by simp [results, Tryz.results21, go_sem, *]) rfl ⟨rfl, ?_⟩
  (repeat refine Below.setCell ?_ (by simp <;> omega) _)
  assumption

end Go.Proofs.YtbjnglfapgpncaaGreatDoor
