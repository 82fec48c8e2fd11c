/- digit.Compare: its closure, where the first value is no number. digit.Compare: its closure, where the second value is no number. digit.Compare: its closure, any two values. digit.Compare: any two values. -/
import Derived.Test.YtfoegnddlaemgaaGreatDoorWrdCom
namespace Go.Proofs.YtfoegnddlaemgaaGreatDoor
open Go.RowKit

set_option maxRecDepth 100000 in
set_option maxHeartbeats 4000000 in
theorem cmp1_noA (a b : Va) (pa pb po : Nat) (x : Int) (w : World) (ha : Row w pa a.row 23) (hb : Row w pb b.row 23) (ho : Row w po #[.int .i64 x] 3) (hR : ∀ t ∈ [a, b], ∀ W : World, Calls Tryz.prog 4 #[t.v] W (SomeD t.right W)) (na : ¬ a.number) (hpa : ¬ po = pa) (hpb : ¬ po = pb) :
    Calls Tryz.prog 11 #[.pointer (some ⟨pa, 0, none⟩), .pointer (some ⟨pb, 0, none⟩), .pointer (some ⟨po, 0, none⟩)] w (CmpD a b po w) := by
  obtain ⟨ka, xa, qa, sa⟩ := a
  obtain ⟨kb, xb, qb, sb⟩ := b
  have HR := Lib.hid hR
  have hpa' : ¬ pa = po := fun h => hpa h.symm
  have hpb' : ¬ pb = po := fun h => hpb h.symm
  have NA := Lib.hid na
  clear hR na
  have RA := ha
  have RB := hb
  have RO := ho
  obtain ⟨a0, a1, a2, a3⟩ := ha.four
  obtain ⟨b0, b1, b2, b3⟩ := hb.four
  have la := ha.lt
  have lb := hb.lt
  have lo := ho.lt
  clear ha hb ho
  have RN := Row.new w #[.int .i64 ka, .int .i64 xa, .int .i64 qa, .string sa, .int .i64 kb, .int .i64 xb, .int .i64 qb, .string sb] 23
  go_enter Tryz.func11, Tryz.ntmps11
  go_wp2_with (go_at_call 12; refine (demRight [⟨ka, xa, qa, sa⟩, ⟨kb, xb, qb, sb⟩] Va.right _ 0 _ _ (VasAt.two RN) (by simp) RN.lt HR.out).mono ?_; rintro e w1 ⟨⟨rfl, hr⟩ | rfl, hb1⟩; have HB1 := Lib.hid (bl_box (Below.refl _ w) hb1))
  · have A1 : Row w1 pa (vaC ka xa qa sa) 23 := RA.keep HB1.out
    have B1 : Row w1 pb (vaC kb xb qb sb) 23 := RB.keep HB1.out
    clear hr RN RA RB RO hb1 a0 a1 a2 a3 b0 b1 b2 b3 la lb lo HR
    have HXA : Hid (∀ W : World, Calls Tryz.prog 13 #[vaV ka xa qa sa] W fun e w' => e = dRef 10 ∧ Below W.heap.size W w') := Lib.hid fun W => exactly_none ⟨ka, xa, qa, sa⟩ W NA.out
    obtain ⟨a0, a1, a2, a3⟩ := A1.four
    obtain ⟨b0, b1, b2, b3⟩ := B1.four
    go_region_with (go_at_call 13; (with_reducible refine (HXA.out _).mono ?_); rintro e w2 ⟨rfl, hb2⟩; have HB2 := bl_then HB1.out (bl_drew hb2); suffices _hT : wpAny Tryz.prog Region.Mode.any #[] (fun _ _ _ => True) 0 #[] ⟨#[], []⟩ w2 from ⟨rfl, w2, HB2, Or.inl ⟨10, by decide, rfl, rfl⟩⟩)
    all_goals trivial
  · exact ⟨rfl, w1, bl_box (Below.refl _ w) hb1, Or.inl ⟨1, by decide, rfl, rfl⟩⟩
end Go.Proofs.YtfoegnddlaemgaaGreatDoor
namespace Go.Proofs.YtfoegnddlaemgaaGreatDoor
open Go.RowKit

set_option maxRecDepth 100000 in
set_option maxHeartbeats 4000000 in
theorem cmp1_noB (a b : Va) (pa pb po : Nat) (x : Int) (w : World) (ha : Row w pa a.row 23) (hb : Row w pb b.row 23) (ho : Row w po #[.int .i64 x] 3) (hR : ∀ t ∈ [a, b], ∀ W : World, Calls Tryz.prog 4 #[t.v] W (SomeD t.right W)) (na : a.number) (nb : ¬ b.number) (hpa : ¬ po = pa) (hpb : ¬ po = pb) :
    Calls Tryz.prog 11 #[.pointer (some ⟨pa, 0, none⟩), .pointer (some ⟨pb, 0, none⟩), .pointer (some ⟨po, 0, none⟩)] w (CmpD a b po w) := by
  obtain ⟨ka, xa, qa, sa⟩ := a
  obtain ⟨kb, xb, qb, sb⟩ := b
  have HR := Lib.hid hR
  have hpa' : ¬ pa = po := fun h => hpa h.symm
  have hpb' : ¬ pb = po := fun h => hpb h.symm
  have NA := Lib.hid na
  have NB := Lib.hid nb
  clear hR na nb
  have RA := ha
  have RB := hb
  have RO := ho
  obtain ⟨a0, a1, a2, a3⟩ := ha.four
  obtain ⟨b0, b1, b2, b3⟩ := hb.four
  have la := ha.lt
  have lb := hb.lt
  have lo := ho.lt
  clear ha hb ho
  have RN := Row.new w #[.int .i64 ka, .int .i64 xa, .int .i64 qa, .string sa, .int .i64 kb, .int .i64 xb, .int .i64 qb, .string sb] 23
  go_enter Tryz.func11, Tryz.ntmps11
  go_wp2_with (go_at_call 12; refine (demRight [⟨ka, xa, qa, sa⟩, ⟨kb, xb, qb, sb⟩] Va.right _ 0 _ _ (VasAt.two RN) (by simp) RN.lt HR.out).mono ?_; rintro e w1 ⟨⟨rfl, hr⟩ | rfl, hb1⟩; have HB1 := Lib.hid (bl_box (Below.refl _ w) hb1))
  · have A1 : Row w1 pa (vaC ka xa qa sa) 23 := RA.keep HB1.out
    have B1 : Row w1 pb (vaC kb xb qb sb) 23 := RB.keep HB1.out
    have ra := Lib.hid (hr ⟨ka, xa, qa, sa⟩ (by simp))
    clear hr RN RA RB RO hb1 a0 a1 a2 a3 b0 b1 b2 b3 la lb lo HR
    have HXA : Hid (∀ W : World, Calls Tryz.prog 13 #[vaV ka xa qa sa] W fun e w' => ∃ y, e = .returned y ∧ Below W.heap.size W w') := Lib.hid fun W => (exactly_num (P := TT) ⟨ka, xa, qa, sa⟩ W (fun _ _ => trivial) ra.out NA.out).mono fun e w' ⟨y, he, _, hb⟩ => ⟨y, he, hb⟩
    have HXB : Hid (∀ W : World, Calls Tryz.prog 13 #[vaV kb xb qb sb] W fun e w' => e = dRef 10 ∧ Below W.heap.size W w') := Lib.hid fun W => exactly_none ⟨kb, xb, qb, sb⟩ W NB.out
    obtain ⟨a0, a1, a2, a3⟩ := A1.four
    obtain ⟨b0, b1, b2, b3⟩ := B1.four
    go_region_with (first
      | (go_at_call 13; (with_reducible refine (HXA.out _).mono ?_); rintro e w2 ⟨y2, rfl, hb2⟩; have A2 := A1.keep (bl_drew hb2); have B2 := B1.keep (bl_drew hb2); have HB2 := bl_then HB1.out (bl_drew hb2); obtain ⟨u0, u1, u2, u3⟩ := A2.four; obtain ⟨v0, v1, v2, v3⟩ := B2.four)
      | (go_at_call 13; (with_reducible refine (HXB.out _).mono ?_); rintro e w3 ⟨rfl, hb3⟩; have HB3 := bl_then HB2 hb3; suffices _hT : wpAny Tryz.prog Region.Mode.any #[] (fun _ _ _ => True) 0 #[] ⟨#[], []⟩ w3 from ⟨rfl, w3, HB3, Or.inl ⟨10, by decide, rfl, rfl⟩⟩))
    all_goals trivial
  · exact ⟨rfl, w1, bl_box (Below.refl _ w) hb1, Or.inl ⟨1, by decide, rfl, rfl⟩⟩
end Go.Proofs.YtfoegnddlaemgaaGreatDoor
namespace Go.Proofs.YtfoegnddlaemgaaGreatDoor
open Go.RowKit

theorem cmp1_any (a b : Va) (pa pb po : Nat) (x : Int) (w : World) (ha : Row w pa a.row 23) (hb : Row w pb b.row 23) (ho : Row w po #[.int .i64 x] 3) (hR : ∀ t ∈ [a, b], ∀ W : World, Calls Tryz.prog 4 #[t.v] W (SomeD t.right W)) (hpa : ¬ po = pa) (hpb : ¬ po = pb) :
    Calls Tryz.prog 11 #[.pointer (some ⟨pa, 0, none⟩), .pointer (some ⟨pb, 0, none⟩), .pointer (some ⟨po, 0, none⟩)] w (CmpD a b po w) := by
  by_cases na : a.number
  · by_cases nb : b.number
    · exact cmp1_yes a b pa pb po x w ha hb ho hR na nb hpa hpb
    · exact cmp1_noB a b pa pb po x w ha hb ho hR na nb hpa hpb
  · exact cmp1_noA a b pa pb po x w ha hb ho hR na hpa hpb
end Go.Proofs.YtfoegnddlaemgaaGreatDoor
namespace Go.Proofs.YtfoegnddlaemgaaGreatDoor
open Go.RowKit

set_option maxRecDepth 100000 in
set_option maxHeartbeats 400000 in
/-- guarded, over a work that ends either way: what it tells of the error and the world behind it. -/
theorem guard_any (fn : Nat) (cap : Array Value) (w : World) {R : Int → World → Prop} (hcf : ∀ W : World, (callFunc fn cap).run Tryz.prog W = .ok (.enter fn cap) W)
    (h : Calls Tryz.prog fn cap (w.alloc (.cells #[.int .i64 0] 26)) fun e w' => (∃ n : Int, (e = dRef n ∨ e = .returned (.tuple #[]) ∧ n = 0) ∧ R n w') ∧ w'.cell? ⟨w.heap.size, 0, none⟩ = some (.int .i64 0) ∧ w'.frozen? ⟨w.heap.size, 0, none⟩ = false) :
    Calls Tryz.prog 10 #[.func (.func fn) #[] cap] w fun e w' => ∃ n : Int, e = .returned (.int .i64 n) ∧ ∃ w1, R n w1 ∧ w' = w1.setCell ⟨w.heap.size, 0, none⟩ (.int .i64 n) := by
  have hmf : ∀ (fn : Fn) (first cap : Array Value) (w : World), (Instr.makeFunc fn first cap).run Tryz.prog w = .ok (.func fn first cap) w := fun _ _ _ _ => rfl
  have H := Lib.hid h
  clear h
  go_enter_defers Tryz.func10, Tryz.ntmps10
  go_wp2_with (refine H.out.mono ?_; rintro e w1 ⟨⟨n, (rfl | ⟨rfl, rfl⟩), hr⟩, hc, hz⟩ <;> have HR := Lib.hid hr <;> clear hr)
  · refine leaves_cons (f := 51) (args := #[.pointer (some ⟨w.heap.size, 0, none⟩)]) (by simp) (by simp [go_sem]) ?_
    refine (dgd_caught ⟨w.heap.size, 0, none⟩ n 0 _ hc hz).mono ?_
    rintro e u' w2 ⟨rfl, rfl, rfl⟩
    simp [Leaves, settle, results, Tryz.results10, go_sem, hc]
    exact ⟨w1, HR.out, rfl⟩
  · refine leaves_cons (f := 51) (args := #[.pointer (some ⟨w.heap.size, 0, none⟩)]) (by simp) (by simp [go_sem]) ?_
    refine (dgd_idle ⟨w.heap.size, 0, none⟩ _).mono ?_
    rintro e u' w2 ⟨rfl, rfl, rfl⟩
    simp [Leaves, settle, results, Tryz.results10, go_sem, hc]
    exact ⟨w1, HR.out, rfl⟩

theorem Row.putw {w : World} {b : Nat} {cs : Array Value} {t : TypeId} (h : Row w b cs t) (k : Nat) (v : Value) : Row (w.setCell ⟨b, k, none⟩ v) b (cs.setIfInBounds k v) t := heap_setCell_same w b k cs t v h
/-- What Compare tells of two values: where there is no error, both are right numbers, and their order. -/
def OrdP (a b : Va) (n o : Int) : Prop := n = 0 → a.right ∧ b.right ∧ a.number ∧ b.number ∧ o = sgnZ (plN a.num a.den (-b.num) b.den)
theorem compare_guard (a b : Va) (w : World) (hR : ∀ t ∈ [a, b], ∀ W : World, Calls Tryz.prog 4 #[t.v] W (SomeD t.right W)) :
    Calls Tryz.prog 10 #[.func (.func 11) #[] #[.pointer (some ⟨w.heap.size, 0, none⟩), .pointer (some ⟨w.heap.size + 1, 0, none⟩), .pointer (some ⟨w.heap.size + 1 + 1, 0, none⟩)]]
      (((w.alloc (.cells a.row 23)).alloc (.cells b.row 23)).alloc (.cells #[.int .i64 0] 3))
      fun e w' => ∃ n o : Int, e = .returned (.int .i64 n) ∧ OrdP a b n o ∧ Row w' (w.heap.size + 1 + 1) #[.int .i64 o] 3 ∧ Below w.heap.size w w' := by
  have hcf : ∀ (cap : Array Value) (W : World), (callFunc 11 cap).run Tryz.prog W = .ok (.enter 11 cap) W := fun cap W => enters_of Tryz.func11 (by kernel_rfl) rfl cap W
  have RA := (((Row.new w a.row 23).alloc (.cells b.row 23)).alloc (.cells #[.int .i64 0] 3)).alloc (.cells #[.int .i64 0] 26)
  have RB := ((Row.new2 w (.cells a.row 23) b.row 23).alloc (.cells #[.int .i64 0] 3)).alloc (.cells #[.int .i64 0] 26)
  have RO := (Row.new3 w (.cells a.row 23) (.cells b.row 23) #[.int .i64 0] 3).alloc (.cells #[.int .i64 0] 26)
  have RG := Row.new (((w.alloc (.cells a.row 23)).alloc (.cells b.row 23)).alloc (.cells #[.int .i64 0] 3)) #[.int .i64 0] 26
  have hs : (((w.alloc (.cells a.row 23)).alloc (.cells b.row 23)).alloc (.cells #[.int .i64 0] 3)).heap.size = w.heap.size + 1 + 1 + 1 := by simp
  have hB : Below w.heap.size w ((((w.alloc (.cells a.row 23)).alloc (.cells b.row 23)).alloc (.cells #[.int .i64 0] 3)).alloc (.cells #[.int .i64 0] 26)) := by go_grown
  refine (guard_any (R := fun n w' => ∃ o : Int, OrdP a b n o ∧ Row w' (w.heap.size + 1 + 1) #[.int .i64 o] 3 ∧ Below w.heap.size w w') _ _ _ (hcf _) ?_).mono ?_
  · refine (cmp1_any a b _ _ _ 0 _ RA RB RO hR (by omega) (by omega)).mono ?_
    rintro e w' ⟨w1, hb, (⟨n, hn, rfl, rfl⟩ | ⟨rfl, ra, rb, na, nb, rfl⟩)⟩
    · exact ⟨⟨n, .inl rfl, 0, fun h => absurd h hn, RO.keep hb, bl_then hB hb⟩, (RG.keep hb).one, (RG.keep hb).free 0⟩
    · refine ⟨⟨0, .inr ⟨rfl, rfl⟩, _, fun _ => ⟨ra, rb, na, nb, rfl⟩, (RO.keep hb).putw 0 _, (bl_then hB hb).setCell (by simp <;> omega) _⟩, ?_, ?_⟩
      · exact ((RG.keep hb).set (by rw [hs]; simp <;> omega)).one
      · exact ((RG.keep hb).set (by rw [hs]; simp <;> omega)).free 0
  · rintro e w' ⟨n, rfl, w1, ⟨o, ho, hrow, hb⟩, rfl⟩
    exact ⟨n, o, rfl, ho, hrow.set (by rw [hs]; simp <;> omega), hb.setCell (by rw [hs]; simp <;> omega) _⟩

set_option maxRecDepth 100000 in
set_option maxHeartbeats 400000 in
theorem compare_va (a b : Va) (w : World) (hR : ∀ t ∈ [a, b], ∀ W : World, Calls Tryz.prog 4 #[t.v] W (SomeD t.right W)) :
    Calls Tryz.prog 6 #[a.v, b.v] w fun e w' => ∃ n o : Int, e = .returned (.tuple #[.int .i64 o, .int .i64 n]) ∧ OrdP a b n o ∧ Below w.heap.size w w' := by
  have hmf : ∀ (fn : Fn) (first cap : Array Value) (w : World), (Instr.makeFunc fn first cap).run Tryz.prog w = .ok (.func fn first cap) w := fun _ _ _ _ => rfl
  have HG := Lib.hid (compare_guard a b w hR)
  clear hR
  obtain ⟨ka, xa, qa, sa⟩ := a
  obtain ⟨kb, xb, qb, sb⟩ := b
  go_enter Tryz.func6, Tryz.ntmps6
  go_wp2_with (go_at_call 10; refine HG.out.mono ?_; rintro e w' ⟨n, o, rfl, ho, hrow, hb⟩; have HO := Lib.hid ho; have HB := Lib.hid hb; clear ho hb; have c0 := hrow.one; have f0 := hrow.free 0)
  refine bodyPost_ret (v := .tuple #[.int .i64 o, .int .i64 n]) (by simp [results, Tryz.results6, go_sem, c0]) rfl ⟨_, _, rfl, HO.out, HB.out.setCell (by simp <;> omega) _⟩
end Go.Proofs.YtfoegnddlaemgaaGreatDoor
