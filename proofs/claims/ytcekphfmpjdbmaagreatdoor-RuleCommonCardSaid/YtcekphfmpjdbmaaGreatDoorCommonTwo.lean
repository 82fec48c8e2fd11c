/- The law RuleCommon, walked: two types. -/
import Derived.Test.YtcekphfmpjdbmaaGreatDoorCommonLaw
namespace Go.Proofs.YtcekphfmpjdbmaaGreatDoor
open Go.RowKit

set_option maxRecDepth 100000 in
set_option maxHeartbeats 8000000 in
theorem common_two (k p q ka pa qa kb pb qb : Int) (b o cap : Nat) (w : World) (hn : NumB k p q) (hb : b < w.heap.size)
    (hA : TysAt w b o [nTy ka pa qa, nTy kb pb qb])
    (hl : Calls Tryz.prog 11 #[.slice (some ⟨b, o, none⟩) 2 cap] w fun e w' => e = .returned (.bool true) ∧ w = w')
    (hp : ∀ W, Below w.heap.size w W → Calls Tryz.prog 28 #[.slice (some ⟨b, o, none⟩) 2 cap] W fun e w' => e = .returned (.tuple #[numV k p q, .int .i64 0]) ∧ Below W.heap.size W w')
    (hr : ∀ W, Below w.heap.size w W → Calls Tryz.prog 29 #[.slice (some ⟨b, o, none⟩) 2 cap] W fun e w' => e = .returned (.tuple #[numV k p q, .int .i64 0]) ∧ Below W.heap.size W w')
    (hq : ∀ (W : World) (b' : Nat), TysAt W b' 0 [nTy kb pb qb, nTy ka pa qa] → b' < W.heap.size → Calls Tryz.prog 28 #[.slice (some ⟨b', 0, none⟩) 2 2] W fun e w' => e = .returned (.tuple #[numV k p q, .int .i64 0]) ∧ Below W.heap.size W w') :
    Calls Tryz.prog 5 #[.slice (some ⟨b, o, none⟩) 2 cap] w fun e w' => e = .returned (.bool true) ∧ Below w.heap.size w w' := by
  have HL := Lib.hid hl; have HP := Lib.hid hp; have HR := Lib.hid hr; have HN := Lib.hid hn; have HQ := Lib.hid hq; have HA := Lib.hid hA
  clear hl hp hr hn hq hA
  have hNE := neqSame
  have hEQ := eqSame
  go_enter Tryz.func5, Tryz.ntmps5
  go_wp2_with fail
  go_at_call 11
  refine HL.out.mono ?_
  rintro e w1 ⟨rfl, rfl⟩
  go_wp2_with fail
  go_at_call 28
  refine (HP.out _ (Below.refl _ _)).mono ?_
  rintro e w1 ⟨rfl, hb1⟩
  have HW := Lib.hid hb1
  go_wp2_with fail
  go_at_call 29
  refine (HR.out _ (below_then HW.out (by go_grown) HW.out.size)).mono ?_
  rintro e w2 ⟨rfl, hb2⟩
  have xB := Lib.hid (BoxAt.fresh (t := nTy k p q) hb2)
  have HW2 := Lib.hid (below_then HW.out (below_then ((Below.refl _ _).alloc (Nat.le_refl _) _) hb2 (by simp)) HW.out.size)
  have L0 : w.heap.size ≤ w1.heap.size := hb1.size
  clear hb1 hb2
  have L1 : w1.heap.size < w2.heap.size := xB.out.lt
  obtain ⟨x0, x1, x2, x3, x4, x5⟩ := xB.out.cells
  go_wp2_with fail
  go_at_call 17
  refine (refValid_b true _ _ _ _ _ _ _ pic0 HN.out.ok).mono ?_
  rintro e w3 ⟨rfl, hb⟩
  clear x0 x1 x2 x3 x4 x5
  have yB := Lib.hid (BoxAt.fresh (t := nTy k p q) hb)
  have xC := Lib.hid (xB.out.past hb)
  have HW3 := Lib.hid (below_then HW2.out (below_then ((Below.refl _ _).alloc (Nat.le_refl _) _) hb (by simp)) HW2.out.size)
  clear hb xB HW HW2
  have L2 : w2.heap.size < w3.heap.size := yB.out.lt
  obtain ⟨a0, a1, a2, a3, a4, a5⟩ := (HA.out.below hb HW3.out).atN 0 (by simp) (kd := ka) (p := pa) (q := qa) rfl
  obtain ⟨c0, c1, c2, c3, c4, c5⟩ := (HA.out.below hb HW3.out).atN 1 (by simp) (kd := kb) (p := pb) (q := qb) rfl
  simp only [Nat.zero_mul, Nat.add_zero, Nat.one_mul, Nat.add_assoc, Nat.reduceAdd] at a0 a1 a2 a3 a4 a5 c0 c1 c2 c3 c4 c5
  have g0 : b < w3.heap.size := by omega
  have g1 : w1.heap.size < w3.heap.size := by omega
  have g2 : ¬ w1.heap.size = b := by omega
  have g3 : ¬ b = w1.heap.size := by omega
  have g4 : ¬ w1.heap.size = w2.heap.size := by omega
  have g5 : ¬ w2.heap.size = w1.heap.size := by omega
  have hT2 : TysAt ((w3.alloc (.cells #[.int .i64 kb, .int .i64 pb, .int .i64 qb, .int .i64 0, .bool false, .string ⟨#[]⟩, .int .i64 ka, .int .i64 pa, .int .i64 qa, .int .i64 0, .bool false, .string ⟨#[]⟩] 23)).drew) w3.heap.size 0 [nTy kb pb qb, nTy ka pa qa] := TysAt_two (heap_alloc_last w3 _)
  have HT2 := Lib.hid hT2
  clear hT2
  go_wp2_with fail
  go_region_held3 (fun w' => (w'.cell? ⟨b, o, none⟩ = some (.int .i64 ka) ∧ w'.cell? ⟨b, o + 1, none⟩ = some (.int .i64 pa) ∧ w'.cell? ⟨b, o + 2, none⟩ = some (.int .i64 qa) ∧ w'.cell? ⟨b, o + 3, none⟩ = some (.int .i64 0) ∧ w'.cell? ⟨b, o + 4, none⟩ = some (.bool false) ∧ w'.cell? ⟨b, o + 5, none⟩ = some (.string ⟨#[]⟩)) ∧
      (w'.cell? ⟨b, o + 6, none⟩ = some (.int .i64 kb) ∧ w'.cell? ⟨b, o + 7, none⟩ = some (.int .i64 pb) ∧ w'.cell? ⟨b, o + 8, none⟩ = some (.int .i64 qb) ∧ w'.cell? ⟨b, o + 9, none⟩ = some (.int .i64 0) ∧ w'.cell? ⟨b, o + 10, none⟩ = some (.bool false) ∧ w'.cell? ⟨b, o + 11, none⟩ = some (.string ⟨#[]⟩)))
    (first | go_keep | (go_split_ands; refine ⟨⟨?_, ?_, ?_, ?_, ?_, ?_⟩, ⟨?_, ?_, ?_, ?_, ?_, ?_⟩⟩ <;> (rw [hb4.cell (by simp <;> omega)]; assumption)))
    ((go_at_call 28; refine (HQ.out _ w3.heap.size HT2.out (by simp)).mono ?_; rintro e w4 ⟨rfl, hb4⟩; have hb5 : Below w3.heap.size w3 w4 := below_then ((by go_grown : Below w3.heap.size w3 _).drew) hb4 (by simp); have xf := (xC.out.below g1 hb5).free; have L4 := (xC.out.below g1 hb5).lt; obtain ⟨x0, x1, x2, x3, x4, x5⟩ := (xC.out.below g1 hb5).cells))
  have yC := Lib.hid (yB.out.below yB.out.lt hb5)
  have HW4 := Lib.hid (below_then HW3.out hb5 HW3.out.size)
  obtain ⟨y0, y1, y2, y3, y4, y5⟩ := yC.out.cells
  have L5 := yC.out.lt
  clear hb4 hb5
  go_wp2_with fail
  go_at_call 12
  refine (awake_2 _).mono ?_
  rintro e w6 ⟨rfl, hb⟩
  clear x0 x1 x2 x3 x4 x5 y0 y1 y2 y3 y4 y5 xf
  have hW2 := Lib.hid (below_then (by (repeat refine Below.setCell ?_ (by omega) _); exact HW4.out : Below w.heap.size w _) hb (by simp <;> omega))
  clear hb
  go_wp2
  go_ret
  exact ⟨rfl, hW2.out⟩
end Go.Proofs.YtcekphfmpjdbmaaGreatDoor
