/- The law RuleTexts, walked. -/
import Derived.Test.YtcekphfmpjdbmaaGreatDoorRRead7
namespace Go.Proofs.YtcekphfmpjdbmaaGreatDoor
open Go.RowKit

theorem eqSameT (k p q n : Int) (vy : Bool) (pic : ByteArray) (w : World) :
    (binOp .eql 23 (tyV k p q n vy pic) (tyV k p q n vy pic)).run Tryz.prog w = .ok (.bool true) w := by
  have hE : (Op.equalIn Op.maxDepth 23 (tyV k p q n vy pic) (tyV k p q n vy pic)).run Tryz.prog w = _ := tyEq k p q n k p q n vy vy pic pic w
  have hG : Tryz.prog.eqGuardType Tryz.prog.depth 23 = false := by kernel_rfl
  simp only [binOp, Op.equal]
  simp [Sem.run_bind, hE]

/-- Both ways of reading tell the same; of a valid type's text the type. -/
theorem reads_both (s : ByteArray) (hs : s.size ≤ 100000) : ∃ (T : Ty) (n : Int),
    (∀ w, EnvT w → Calls Tryz.prog 39 #[.string s] w fun e w' => e = .returned (.tuple #[T.v, .int .i64 n]) ∧ Below w.heap.size w w') ∧
    (∀ w, Calls Tryz.prog 40 #[.string s] w fun e w' => e = .returned (.tuple #[T.v, .int .i64 n]) ∧ Below w.heap.size w w') ∧
    ∀ t : Ty, t.ok = true → t.txt = s.data.toList → T = t ∧ n = 0 := by
  obtain ⟨T0, _, hu⟩ := likely_is s hs
  rcases Read_rule s hs with ⟨T, h1, h2, h3⟩ | ⟨h1, h2⟩
  · rcases Read_ref s hs with ⟨T', h1', h2', h3'⟩ | ⟨h1', _⟩
    · have e : T' = T := (hu T' h1' h2').symm.trans (hu T h1 h2)
      subst e
      exact ⟨_, 0, h3, h3', fun t ht e => ⟨(hu _ h1 h2).symm.trans (hu t ht e), rfl⟩⟩
    · exact absurd h2 (h1' T h1)
  · rcases Read_ref s hs with ⟨T', h1', h2', _⟩ | ⟨_, h2'⟩
    · exact absurd h2' (h1 T' h1')
    · exact ⟨zTy', 2, h2, h2', fun t ht e => absurd e (h1 t ht)⟩

set_option maxHeartbeats 2000000 in
theorem texts_heavy (k p q n : Int) (vy : Bool) (pic s : ByteArray) (w : World) (hs : pic.size ≤ maxLen) (hl : ¬ (pic.size : Int) ≤ 300) :
    Calls Tryz.prog 7 #[tyV k p q n vy pic, .string s] w fun e w' => e = .returned (.bool true) ∧ Below w.heap.size w w' := by
  have HS := Lib.hid hs; have HL := Lib.hid hl
  clear hs hl
  go_enter Tryz.func7, Tryz.ntmps7
  go_wp2_with fail
  go_at_call 11
  refine (light_no [⟨k, p, q, n, vy, pic⟩] (w.heap.size + 1) 0 1 _ (TysAt_one (heap_alloc2_new _ _ _)) (by simp) (by simp) (pic1 HS.out) (nall1 (f := Ty.light) (by simpa [Ty.light] using HL.out))).mono ?_
  rintro e w1 ⟨rfl, rfl⟩
  go_wp2_with fail
  go_at_call 12
  refine (awake_2 _).mono ?_
  rintro e w1 ⟨rfl, hb⟩
  go_wp2
  go_ret
  exact ⟨rfl, below_then (by go_grown) hb (by simp <;> omega)⟩

set_option maxHeartbeats 2000000 in
theorem texts_long (k p q n : Int) (vy : Bool) (pic s : ByteArray) (w : World) (hs : pic.size ≤ maxLen) (hl : (pic.size : Int) ≤ 300) (hss : 400 < (s.size : Int)) :
    Calls Tryz.prog 7 #[tyV k p q n vy pic, .string s] w fun e w' => e = .returned (.bool true) ∧ Below w.heap.size w w' := by
  have HS := Lib.hid hs; have HL := Lib.hid hl
  clear hs hl
  go_enter Tryz.func7, Tryz.ntmps7
  go_wp2_with fail
  go_at_call 11
  refine (light_yes [⟨k, p, q, n, vy, pic⟩] (w.heap.size + 1) 0 1 _ (TysAt_one (heap_alloc2_new _ _ _)) (by simp) (by simp) (pic1 HS.out) (all1 (f := Ty.light) (by simpa [Ty.light] using HL.out))).mono ?_
  rintro e w1 ⟨rfl, rfl⟩
  go_wp2_with fail
  go_at_call 12
  refine (awake_2 _).mono ?_
  rintro e w1 ⟨rfl, hb⟩
  go_wp2
  go_ret
  exact ⟨rfl, below_then (by go_grown) hb (by simp <;> omega)⟩

theorem wd_len (k : Nat) : (wd k).length ≤ 9 := by
  unfold wd; split <;> decide
theorem txt_len (t : Ty) (h : t.ok = true) : (bs t.txt).size ≤ 100000 := by
  obtain ⟨k, r, _, _, e, _, hr, _⟩ := txt_parts t h
  have := wd_len k
  rw [size_bs, e, List.length_append]; omega

set_option maxRecDepth 100000 in
set_option maxHeartbeats 8000000 in
theorem texts_bad (k p q n : Int) (vy : Bool) (pic s : ByteArray) (w : World) (hs : pic.size ≤ maxLen) (hl : (pic.size : Int) ≤ 300) (hss : (s.size : Int) ≤ 400) (hE : EnvT w) (hv : (Ty.mk k p q n vy pic).ok = false) :
    Calls Tryz.prog 7 #[tyV k p q n vy pic, .string s] w fun e w' => e = .returned (.bool true) ∧ Below w.heap.size w w' := by
  have HS := Lib.hid hs; have HL := Lib.hid hl; have HV := Lib.hid hv; have HE := Lib.hid hE
  obtain ⟨T, m, hr1, hr2, _⟩ := reads_both s (by omega)
  have HR1 := Lib.hid hr1; have HR2 := Lib.hid hr2
  clear hs hl hv hE hr1 hr2
  have hNE := neqSame
  go_enter Tryz.func7, Tryz.ntmps7
  go_wp2_with fail
  go_at_call 11
  refine (light_yes [⟨k, p, q, n, vy, pic⟩] (w.heap.size + 1) 0 1 _ (TysAt_one (heap_alloc2_new _ _ _)) (by simp) (by simp) (pic1 HS.out) (all1 (f := Ty.light) (by simpa [Ty.light] using HL.out))).mono ?_
  rintro e w1 ⟨rfl, rfl⟩
  go_wp2_with fail
  go_at_call 37
  refine (Text_13 _ _ _ _ _ _ _ HS.out HV.out).mono ?_
  rintro e w1 ⟨rfl, hb⟩
  have tB := Lib.hid (BoxAt.past2 (t := ⟨k, p, q, n, vy, pic⟩) hb)
  have hW := Lib.hid (below_then (by go_grown) hb (by simp <;> omega) : Below w.heap.size w w1)
  clear hb
  obtain ⟨x0, x1, x2, x3, x4, x5⟩ := tB.out.cells
  have xl := tB.out.lt
  go_wp2_with fail
  go_at_call 38
  refine (refText_13 _ _ _ _ _ _ _ HS.out HV.out).mono ?_
  rintro e w2 ⟨rfl, hb⟩
  have tB2 := Lib.hid (tB.out.below tB.out.lt hb)
  have hW2 := Lib.hid (below_then hW.out hb hW.out.size)
  clear hb x0 x1 x2 x3 x4 x5 xl
  go_wp2_with fail
  go_at_call 39
  refine (HR1.out _ (HE.out.below hW2.out)).mono ?_
  rintro e w3 ⟨rfl, hb⟩
  have hW3 := Lib.hid (below_then hW2.out hb hW2.out.size)
  clear hb
  go_wp2_with fail
  go_at_call 40
  refine (HR2.out _).mono ?_
  rintro e w4 ⟨rfl, hb⟩
  have yB := Lib.hid (BoxAt.fresh (t := T) hb)
  have hW4 := Lib.hid (below_then (hW3.out.alloc hW3.out.size _) hb (by have := hW3.out.size; simp; omega) : Below w.heap.size w w4)
  have l3 : w3.heap.size < w4.heap.size := yB.out.lt
  clear hb
  obtain ⟨y0, y1, y2, y3, y4, y5⟩ := yB.out.cells
  go_wp2_with fail
  go_at_call 12
  refine (awake_2 _).mono ?_
  rintro e w5 ⟨rfl, hb⟩
  clear y0 y1 y2 y3 y4 y5
  have hW5 := Lib.hid (below_then (hW4.out.alloc hW4.out.size _) hb (by have := hW4.out.size; simp; omega) : Below w.heap.size w w5)
  clear hb
  go_wp2
  go_ret
  exact ⟨rfl, hW5.out⟩
set_option maxRecDepth 100000 in
set_option maxHeartbeats 8000000 in
theorem texts_good (k p q n : Int) (vy : Bool) (pic s : ByteArray) (w : World) (hs : pic.size ≤ maxLen) (hl : (pic.size : Int) ≤ 300) (hss : (s.size : Int) ≤ 400) (hE : EnvT w) (hv : (Ty.mk k p q n vy pic).ok = true) :
    Calls Tryz.prog 7 #[tyV k p q n vy pic, .string s] w fun e w' => e = .returned (.bool true) ∧ Below w.heap.size w w' := by
  have HS := Lib.hid hs; have HL := Lib.hid hl; have HV := Lib.hid hv; have HE := Lib.hid hE
  obtain ⟨T, m, hr1, hr2, _⟩ := reads_both s (by omega)
  obtain ⟨T9, m9, hr9, _, hu9⟩ := reads_both (bs (Ty.mk k p q n vy pic).txt) (txt_len _ hv)
  obtain ⟨rfl, rfl⟩ := hu9 _ hv rfl
  have HR9 := Lib.hid hr9
  clear hr9 hu9
  have HR1 := Lib.hid hr1; have HR2 := Lib.hid hr2
  clear hs hl hv hE hr1 hr2
  have hNE := neqSame
  have hEQ := eqSameT
  go_enter Tryz.func7, Tryz.ntmps7
  go_wp2_with fail
  go_at_call 11
  refine (light_yes [⟨k, p, q, n, vy, pic⟩] (w.heap.size + 1) 0 1 _ (TysAt_one (heap_alloc2_new _ _ _)) (by simp) (by simp) (pic1 HS.out) (all1 (f := Ty.light) (by simpa [Ty.light] using HL.out))).mono ?_
  rintro e w1 ⟨rfl, rfl⟩
  go_wp2_with fail
  go_at_call 37
  refine (Text_ok _ _ _ _ _ _ _ HS.out HV.out (HE.out.below (by go_grown))).mono ?_
  rintro e w1 ⟨rfl, hb⟩
  have tB := Lib.hid (BoxAt.past2 (t := ⟨k, p, q, n, vy, pic⟩) hb)
  have hW := Lib.hid (below_then (by go_grown) hb (by simp <;> omega) : Below w.heap.size w w1)
  clear hb
  obtain ⟨x0, x1, x2, x3, x4, x5⟩ := tB.out.cells
  have xl := tB.out.lt
  go_wp2_with fail
  go_at_call 38
  refine (refText_any ⟨k, p, q, n, vy, pic⟩ _ HV.out).mono ?_
  rintro e w2 ⟨rfl, hb⟩
  have tB2 := Lib.hid (tB.out.below tB.out.lt hb)
  have hW2 := Lib.hid (below_then hW.out hb hW.out.size)
  clear hb x0 x1 x2 x3 x4 x5 xl
  go_wp2_with fail
  go_at_call 39
  refine (HR1.out _ (HE.out.below hW2.out)).mono ?_
  rintro e w3 ⟨rfl, hb⟩
  have tB3 := Lib.hid (tB2.out.below tB2.out.lt hb)
  have hW3 := Lib.hid (below_then hW2.out hb hW2.out.size)
  clear hb
  go_wp2_with fail
  go_at_call 40
  refine (HR2.out _).mono ?_
  rintro e w4 ⟨rfl, hb⟩
  have yB := Lib.hid (BoxAt.fresh (t := T) hb)
  have tB4 := Lib.hid (tB3.out.past hb)
  have hW4 := Lib.hid (below_then (hW3.out.alloc hW3.out.size _) hb (by have := hW3.out.size; simp; omega) : Below w.heap.size w w4)
  have l3 : w3.heap.size < w4.heap.size := yB.out.lt
  have l0 : w.heap.size < w3.heap.size := tB3.out.lt
  clear hb
  obtain ⟨y0, y1, y2, y3, y4, y5⟩ := yB.out.cells
  go_wp2_with fail
  go_at_call 39
  refine (HR9.out _ (HE.out.below (hW4.out.alloc hW4.out.size _))).mono ?_
  rintro e w5 ⟨rfl, hb⟩
  clear y0 y1 y2 y3 y4 y5
  have yB5 := Lib.hid (yB.out.past hb)
  have tB5 := Lib.hid (tB4.out.past hb)
  have hW5 := Lib.hid (below_then (hW4.out.alloc hW4.out.size _) hb (by have := hW4.out.size; simp; omega) : Below w.heap.size w w5)
  clear hb
  obtain ⟨y0, y1, y2, y3, y4, y5⟩ := yB5.out.cells
  have yf := yB5.out.free
  have yl := yB5.out.lt
  obtain ⟨x0, x1, x2, x3, x4, x5⟩ := tB5.out.cells
  have xl := tB5.out.lt
  have n1 : ¬ w3.heap.size = w.heap.size := by omega
  have n2 : ¬ w.heap.size = w3.heap.size := by omega
  go_wp2_with fail
  go_at_call 12
  refine (awake_2 _).mono ?_
  rintro e w6 ⟨rfl, hb⟩
  clear y0 y1 y2 y3 y4 y5 x0 x1 x2 x3 x4 x5
  have hW6 := Lib.hid (below_then ((((((hW5.out.setCell (by simp; omega) _).setCell (by simp; omega) _).setCell (by simp; omega) _).setCell (by simp; omega) _).setCell (by simp; omega) _).setCell (by simp; omega) _) hb (by simp <;> omega))
  clear hb
  go_wp2
  go_ret
  exact ⟨rfl, hW6.out⟩

/-- The law RuleTexts, for any type and text. -/
theorem texts_any (k p q n : Int) (vy : Bool) (pic s : ByteArray) (w : World) (hs : pic.size ≤ maxLen) (hE : EnvT w) :
    Calls Tryz.prog 7 #[tyV k p q n vy pic, .string s] w fun e w' => e = .returned (.bool true) ∧ Below w.heap.size w w' := by
  by_cases hl : (pic.size : Int) ≤ 300
  · by_cases hss : (s.size : Int) ≤ 400
    · cases hv : (Ty.mk k p q n vy pic).ok
      · exact texts_bad k p q n vy pic s w hs hl hss hE hv
      · exact texts_good k p q n vy pic s w hs hl hss hE hv
    · exact texts_long k p q n vy pic s w hs hl (by omega)
  · exact texts_heavy k p q n vy pic s w hs hl
end Go.Proofs.YtcekphfmpjdbmaaGreatDoor
