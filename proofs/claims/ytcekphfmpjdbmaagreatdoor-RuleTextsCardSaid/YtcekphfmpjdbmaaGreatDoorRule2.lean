/- One type or two in a box; demandFixed; the closures of Binary, Decimal, Float, Number, Negated. -/
import Derived.Test.YtcekphfmpjdbmaaGreatDoorAnswered
namespace Go.Proofs.YtcekphfmpjdbmaaGreatDoor
open Go.RowKit

/-- A struct of type api.Type lies in block b, whole. -/
def BoxAt (w : World) (b : Nat) (t : Ty) : Prop := w.heap[b]? = some (.cells #[.int .i64 t.k, .int .i64 t.p, .int .i64 t.q, .int .i64 t.n, .bool t.vy, .string t.pic] 23 (0, 0))

theorem BoxAt.below {w w' : World} {b : Nat} {t : Ty} (h : BoxAt w b t) (hb : b < w.heap.size) (hB : Below w.heap.size w w') : BoxAt w' b t := (hB.block b hb).trans h
theorem BoxAt.lt {w : World} {b : Nat} {t : Ty} (h : BoxAt w b t) : b < w.heap.size := by
  apply Decidable.byContradiction
  intro hn
  have := Array.getElem?_eq_none (xs := w.heap) (i := b) (by omega)
  rw [BoxAt, this] at h
  cases h
theorem BoxAt.cells {w : World} {b : Nat} {k p q n : Int} {vy : Bool} {pic : ByteArray} (h : BoxAt w b ⟨k, p, q, n, vy, pic⟩) :
    w.cell? ⟨b, 0, none⟩ = some (.int .i64 k) ∧ w.cell? ⟨b, 1, none⟩ = some (.int .i64 p) ∧ w.cell? ⟨b, 2, none⟩ = some (.int .i64 q) ∧
      w.cell? ⟨b, 3, none⟩ = some (.int .i64 n) ∧ w.cell? ⟨b, 4, none⟩ = some (.bool vy) ∧ w.cell? ⟨b, 5, none⟩ = some (.string pic) :=
  ⟨cell_of_row w b 0 _ _ _ h, cell_of_row w b 1 _ _ _ h, cell_of_row w b 2 _ _ _ h, cell_of_row w b 3 _ _ _ h, cell_of_row w b 4 _ _ _ h, cell_of_row w b 5 _ _ _ h⟩

theorem TysAt_one {w : World} {b : Nat} {t : Ty} (h : w.heap[b]? = some (.cells #[.int .i64 t.k, .int .i64 t.p, .int .i64 t.q, .int .i64 t.n, .bool t.vy, .string t.pic] 23 (0, 0))) : TysAt w b 0 [t] := by
  intro i hi j v hv
  obtain rfl : i = 0 := by simp at hi; omega
  rw [cell_of_row w b _ _ _ _ h]
  simpa using hv

theorem TysAt_two {w : World} {b : Nat} {t u : Ty} (h : w.heap[b]? = some (.cells #[.int .i64 t.k, .int .i64 t.p, .int .i64 t.q, .int .i64 t.n, .bool t.vy, .string t.pic, .int .i64 u.k, .int .i64 u.p, .int .i64 u.q, .int .i64 u.n, .bool u.vy, .string u.pic] 23 (0, 0))) : TysAt w b 0 [t, u] := by
  intro i hi j v hv
  have hi' : i = 0 ∨ i = 1 := by simp at hi; omega
  rcases hi' with rfl | rfl
  · rw [cell_of_row w b _ _ _ _ h]
    have hj : j < 6 := by have := (List.getElem?_eq_some_iff.1 hv).1; simpa using this
    obtain rfl | rfl | rfl | rfl | rfl | rfl : j = 0 ∨ j = 1 ∨ j = 2 ∨ j = 3 ∨ j = 4 ∨ j = 5 := by omega
    all_goals simpa using hv
  · rw [cell_of_row w b _ _ _ _ h]
    have hj : j < 6 := by have := (List.getElem?_eq_some_iff.1 hv).1; simpa using this
    obtain rfl | rfl | rfl | rfl | rfl | rfl : j = 0 ∨ j = 1 ∨ j = 2 ∨ j = 3 ∨ j = 4 ∨ j = 5 := by omega
    all_goals simpa using hv

theorem all1 {f : Ty → Bool} {t : Ty} (h : f t = true) : ∀ x ∈ [t], f x = true := by simpa using h
theorem nall1 {f : Ty → Bool} {t : Ty} (h : f t = false) : ¬ ∀ x ∈ [t], f x = true := by simp [h]
theorem pic1 {t : Ty} (h : t.pic.size ≤ maxLen) : ∀ x ∈ [t], x.pic.size ≤ maxLen := by simpa using h

/- demandFixed -/
set_option maxHeartbeats 400000 in
theorem demandFixed_13 (k p q n : Int) (vy : Bool) (pic : ByteArray) (w : World) (hs : pic.size ≤ maxLen) (hv : (Ty.mk k p q n vy pic).ok = false) :
    Calls Tryz.prog 57 #[tyV k p q n vy pic] w fun e w' => e = refusal 13 ∧ Below w.heap.size w w' := by
  have HV := Lib.hid hv; have HS := Lib.hid hs
  clear hv hs
  go_enter Tryz.func57, Tryz.ntmps57
  go_wp2_with (go_at_call 66; refine (demandNumbers_13 [⟨k, p, q, n, vy, pic⟩] (w.heap.size + 1) 0 1 _ (TysAt_one (heap_alloc2_new _ _ _)) (by simp) (by simp) (pic1 HS.out) (nall1 HV.out)).mono ?_; rintro e w1 ⟨rfl, hb1⟩; obtain ⟨hc, hf⟩ := bcell hb1; have hz := hb1.size)
  exact ⟨rfl, rfl, below_then (by go_grown) hb1 (by simp <;> omega)⟩

set_option maxHeartbeats 400000 in
theorem demandFixed_10 (k p q n : Int) (vy : Bool) (pic : ByteArray) (w : World) (hs : pic.size ≤ maxLen) (hv : (Ty.mk k p q n vy pic).ok = true) (hn : (Ty.mk k p q n vy pic).num = false) :
    Calls Tryz.prog 57 #[tyV k p q n vy pic] w fun e w' => e = refusal 10 ∧ Below w.heap.size w w' := by
  have HV := Lib.hid hv; have HS := Lib.hid hs; have HN := Lib.hid hn
  clear hv hs hn
  go_enter Tryz.func57, Tryz.ntmps57
  go_wp2_with (go_at_call 66; refine (demandNumbers_10 [⟨k, p, q, n, vy, pic⟩] (w.heap.size + 1) 0 1 _ (TysAt_one (heap_alloc2_new _ _ _)) (by simp) (by simp) (pic1 HS.out) (all1 HV.out) (nall1 HN.out)).mono ?_; rintro e w1 ⟨rfl, hb1⟩; obtain ⟨hc, hf⟩ := bcell hb1; have hz := hb1.size)
  exact ⟨rfl, rfl, below_then (by go_grown) hb1 (by simp <;> omega)⟩

set_option maxHeartbeats 400000 in
theorem demandFixed_10f (k p q n : Int) (vy : Bool) (pic : ByteArray) (w : World) (hs : pic.size ≤ maxLen) (hv : (Ty.mk k p q n vy pic).ok = true) (hn : (Ty.mk k p q n vy pic).num = true) (hk : k = 3) :
    Calls Tryz.prog 57 #[tyV k p q n vy pic] w fun e w' => e = refusal 10 ∧ Below w.heap.size w w' := by
  subst hk
  have HV := Lib.hid hv; have HS := Lib.hid hs; have HN := Lib.hid hn
  clear hv hs hn
  go_enter Tryz.func57, Tryz.ntmps57
  go_wp2_with (first
    | (go_at_call 66; refine (demandNumbers_ok [⟨3, p, q, n, vy, pic⟩] (w.heap.size + 1) 0 1 _ (TysAt_one (heap_alloc2_new _ _ _)) (by simp) (by simp) (pic1 HS.out) (all1 HV.out) (all1 HN.out)).mono ?_; rintro e w1 ⟨rfl, hb1⟩; obtain ⟨hc, hf⟩ := bcell hb1; have hz := hb1.size)
    | (go_at_call 82; refine (refuse_any _ _).mono ?_; rintro e w3 ⟨rfl, rfl⟩))
  exact ⟨rfl, rfl, below_then (by go_grown) hb1 (by simp <;> omega)⟩

set_option maxHeartbeats 400000 in
theorem demandFixed_ok (k p q n : Int) (vy : Bool) (pic : ByteArray) (w : World) (hs : pic.size ≤ maxLen) (hv : (Ty.mk k p q n vy pic).ok = true) (hn : (Ty.mk k p q n vy pic).num = true) (hk : (k == 3) = false) :
    Calls Tryz.prog 57 #[tyV k p q n vy pic] w fun e w' => e = .returned (.tuple #[]) ∧ Below w.heap.size w w' := by
  have HV := Lib.hid hv; have HS := Lib.hid hs; have HN := Lib.hid hn
  clear hv hs hn
  go_enter Tryz.func57, Tryz.ntmps57
  go_wp2_with (go_at_call 66; refine (demandNumbers_ok [⟨k, p, q, n, vy, pic⟩] (w.heap.size + 1) 0 1 _ (TysAt_one (heap_alloc2_new _ _ _)) (by simp) (by simp) (pic1 HS.out) (all1 HV.out) (all1 HN.out)).mono ?_; rintro e w1 ⟨rfl, hb1⟩; obtain ⟨hc, hf⟩ := bcell hb1; have hz := hb1.size)
  go_end0
  exact ⟨rfl, below_then (by go_grown) hb1 (by simp <;> omega)⟩

set_option maxHeartbeats 400000 in
theorem cBinary_13 (k p q n : Int) (vy : Bool) (pic : ByteArray) (w : World) (bt : Nat) (hbox : BoxAt w bt ⟨k, p, q, n, vy, pic⟩) (hs : pic.size ≤ maxLen) (hv : (Ty.mk k p q n vy pic).ok = false) :
    Calls Tryz.prog 56 #[.pointer (some ⟨bt, 0, none⟩)] w fun e w' => e = refusal 13 ∧ Below w.heap.size w w' := by
  have hlt := hbox.lt
  have hlt2 : bt < w.heap.size + 1 + 1 := by omega
  obtain ⟨x0, x1, x2, x3, x4, x5⟩ := hbox.cells
  clear hbox
  have HV := Lib.hid hv; have HS := Lib.hid hs
  clear hv hs
  go_enter Tryz.func56, Tryz.ntmps56
  go_wp2_with (go_at_call 57; refine (demandFixed_13 _ _ _ _ _ _ _ HS.out HV.out).mono ?_; rintro e w1 ⟨rfl, hb1⟩; obtain ⟨hc, hf⟩ := bcell hb1; have hz := hb1.size)
  exact ⟨rfl, rfl, below_then (by go_grown) hb1 (by simp <;> omega)⟩

set_option maxHeartbeats 400000 in
theorem cBinary_10 (k p q n : Int) (vy : Bool) (pic : ByteArray) (w : World) (bt : Nat) (hbox : BoxAt w bt ⟨k, p, q, n, vy, pic⟩) (hs : pic.size ≤ maxLen) (hv : (Ty.mk k p q n vy pic).ok = true) (hn : (Ty.mk k p q n vy pic).num = false) :
    Calls Tryz.prog 56 #[.pointer (some ⟨bt, 0, none⟩)] w fun e w' => e = refusal 10 ∧ Below w.heap.size w w' := by
  have hlt := hbox.lt
  have hlt2 : bt < w.heap.size + 1 + 1 := by omega
  obtain ⟨x0, x1, x2, x3, x4, x5⟩ := hbox.cells
  clear hbox
  have HV := Lib.hid hv; have HS := Lib.hid hs; have HN := Lib.hid hn
  clear hv hs hn
  go_enter Tryz.func56, Tryz.ntmps56
  go_wp2_with (go_at_call 57; refine (demandFixed_10 _ _ _ _ _ _ _ HS.out HV.out HN.out).mono ?_; rintro e w1 ⟨rfl, hb1⟩; obtain ⟨hc, hf⟩ := bcell hb1; have hz := hb1.size)
  exact ⟨rfl, rfl, below_then (by go_grown) hb1 (by simp <;> omega)⟩

set_option maxHeartbeats 400000 in
theorem cDecimal_13 (k p q n : Int) (vy : Bool) (pic : ByteArray) (w : World) (bt : Nat) (hbox : BoxAt w bt ⟨k, p, q, n, vy, pic⟩) (hs : pic.size ≤ maxLen) (hv : (Ty.mk k p q n vy pic).ok = false) :
    Calls Tryz.prog 61 #[.pointer (some ⟨bt, 0, none⟩)] w fun e w' => e = refusal 13 ∧ Below w.heap.size w w' := by
  have hlt := hbox.lt
  have hlt2 : bt < w.heap.size + 1 + 1 := by omega
  obtain ⟨x0, x1, x2, x3, x4, x5⟩ := hbox.cells
  clear hbox
  have HV := Lib.hid hv; have HS := Lib.hid hs
  clear hv hs
  go_enter Tryz.func61, Tryz.ntmps61
  go_wp2_with (go_at_call 57; refine (demandFixed_13 _ _ _ _ _ _ _ HS.out HV.out).mono ?_; rintro e w1 ⟨rfl, hb1⟩; obtain ⟨hc, hf⟩ := bcell hb1; have hz := hb1.size)
  exact ⟨rfl, rfl, below_then (by go_grown) hb1 (by simp <;> omega)⟩

set_option maxHeartbeats 400000 in
theorem cDecimal_10 (k p q n : Int) (vy : Bool) (pic : ByteArray) (w : World) (bt : Nat) (hbox : BoxAt w bt ⟨k, p, q, n, vy, pic⟩) (hs : pic.size ≤ maxLen) (hv : (Ty.mk k p q n vy pic).ok = true) (hn : (Ty.mk k p q n vy pic).num = false) :
    Calls Tryz.prog 61 #[.pointer (some ⟨bt, 0, none⟩)] w fun e w' => e = refusal 10 ∧ Below w.heap.size w w' := by
  have hlt := hbox.lt
  have hlt2 : bt < w.heap.size + 1 + 1 := by omega
  obtain ⟨x0, x1, x2, x3, x4, x5⟩ := hbox.cells
  clear hbox
  have HV := Lib.hid hv; have HS := Lib.hid hs; have HN := Lib.hid hn
  clear hv hs hn
  go_enter Tryz.func61, Tryz.ntmps61
  go_wp2_with (go_at_call 57; refine (demandFixed_10 _ _ _ _ _ _ _ HS.out HV.out HN.out).mono ?_; rintro e w1 ⟨rfl, hb1⟩; obtain ⟨hc, hf⟩ := bcell hb1; have hz := hb1.size)
  exact ⟨rfl, rfl, below_then (by go_grown) hb1 (by simp <;> omega)⟩

set_option maxHeartbeats 400000 in
theorem cFloat_13 (k p q n : Int) (vy : Bool) (pic : ByteArray) (w : World) (bt : Nat) (hbox : BoxAt w bt ⟨k, p, q, n, vy, pic⟩) (hs : pic.size ≤ maxLen) (hv : (Ty.mk k p q n vy pic).ok = false) :
    Calls Tryz.prog 65 #[.pointer (some ⟨bt, 0, none⟩)] w fun e w' => e = refusal 13 ∧ Below w.heap.size w w' := by
  have hlt := hbox.lt
  have hlt2 : bt < w.heap.size + 1 + 1 := by omega
  obtain ⟨x0, x1, x2, x3, x4, x5⟩ := hbox.cells
  clear hbox
  have HV := Lib.hid hv; have HS := Lib.hid hs
  clear hv hs
  go_enter Tryz.func65, Tryz.ntmps65
  go_wp2_with (go_at_call 66; refine (demandNumbers_13 [⟨k, p, q, n, vy, pic⟩] (w.heap.size + 1) 0 1 _ (TysAt_one (heap_alloc2_new _ _ _)) (by simp) (by simp) (pic1 HS.out) (nall1 HV.out)).mono ?_; rintro e w1 ⟨rfl, hb1⟩; obtain ⟨hc, hf⟩ := bcell hb1; have hz := hb1.size)
  exact ⟨rfl, rfl, below_then (by go_grown) hb1 (by simp <;> omega)⟩

set_option maxHeartbeats 400000 in
theorem cFloat_10 (k p q n : Int) (vy : Bool) (pic : ByteArray) (w : World) (bt : Nat) (hbox : BoxAt w bt ⟨k, p, q, n, vy, pic⟩) (hs : pic.size ≤ maxLen) (hv : (Ty.mk k p q n vy pic).ok = true) (hn : (Ty.mk k p q n vy pic).num = false) :
    Calls Tryz.prog 65 #[.pointer (some ⟨bt, 0, none⟩)] w fun e w' => e = refusal 10 ∧ Below w.heap.size w w' := by
  have hlt := hbox.lt
  have hlt2 : bt < w.heap.size + 1 + 1 := by omega
  obtain ⟨x0, x1, x2, x3, x4, x5⟩ := hbox.cells
  clear hbox
  have HV := Lib.hid hv; have HS := Lib.hid hs; have HN := Lib.hid hn
  clear hv hs hn
  go_enter Tryz.func65, Tryz.ntmps65
  go_wp2_with (go_at_call 66; refine (demandNumbers_10 [⟨k, p, q, n, vy, pic⟩] (w.heap.size + 1) 0 1 _ (TysAt_one (heap_alloc2_new _ _ _)) (by simp) (by simp) (pic1 HS.out) (all1 HV.out) (nall1 HN.out)).mono ?_; rintro e w1 ⟨rfl, hb1⟩; obtain ⟨hc, hf⟩ := bcell hb1; have hz := hb1.size)
  exact ⟨rfl, rfl, below_then (by go_grown) hb1 (by simp <;> omega)⟩

set_option maxHeartbeats 400000 in
theorem cNumber_13 (k p q n : Int) (vy : Bool) (pic : ByteArray) (w : World) (bt : Nat) (hbox : BoxAt w bt ⟨k, p, q, n, vy, pic⟩) (hs : pic.size ≤ maxLen) (hv : (Ty.mk k p q n vy pic).ok = false) :
    Calls Tryz.prog 69 #[.pointer (some ⟨bt, 0, none⟩)] w fun e w' => e = refusal 13 ∧ Below w.heap.size w w' := by
  have hlt := hbox.lt
  have hlt2 : bt < w.heap.size + 1 + 1 := by omega
  obtain ⟨x0, x1, x2, x3, x4, x5⟩ := hbox.cells
  clear hbox
  have HV := Lib.hid hv; have HS := Lib.hid hs
  clear hv hs
  go_enter Tryz.func69, Tryz.ntmps69
  go_wp2_with (go_at_call 70; refine (demandValid_no [⟨k, p, q, n, vy, pic⟩] (w.heap.size + 1) 0 1 _ (TysAt_one (heap_alloc2_new _ _ _)) (by simp) (by simp) (pic1 HS.out) (nall1 HV.out)).mono ?_; rintro e w1 ⟨rfl, hb1⟩; obtain ⟨hc, hf⟩ := bcell hb1; have hz := hb1.size)
  exact ⟨rfl, rfl, below_then (by go_grown) hb1 (by simp <;> omega)⟩

set_option maxHeartbeats 400000 in
theorem cNegated_13 (k p q n : Int) (vy : Bool) (pic : ByteArray) (w : World) (bt : Nat) (hbox : BoxAt w bt ⟨k, p, q, n, vy, pic⟩) (hs : pic.size ≤ maxLen) (hv : (Ty.mk k p q n vy pic).ok = false) :
    Calls Tryz.prog 72 #[.pointer (some ⟨bt, 0, none⟩)] w fun e w' => e = refusal 13 ∧ Below w.heap.size w w' := by
  have hlt := hbox.lt
  have hlt2 : bt < w.heap.size + 1 + 1 := by omega
  obtain ⟨x0, x1, x2, x3, x4, x5⟩ := hbox.cells
  clear hbox
  have HV := Lib.hid hv; have HS := Lib.hid hs
  clear hv hs
  go_enter Tryz.func72, Tryz.ntmps72
  go_wp2_with (go_at_call 66; refine (demandNumbers_13 [⟨k, p, q, n, vy, pic⟩] (w.heap.size + 1) 0 1 _ (TysAt_one (heap_alloc2_new _ _ _)) (by simp) (by simp) (pic1 HS.out) (nall1 HV.out)).mono ?_; rintro e w1 ⟨rfl, hb1⟩; obtain ⟨hc, hf⟩ := bcell hb1; have hz := hb1.size)
  exact ⟨rfl, rfl, below_then (by go_grown) hb1 (by simp <;> omega)⟩

set_option maxHeartbeats 400000 in
theorem cNegated_10 (k p q n : Int) (vy : Bool) (pic : ByteArray) (w : World) (bt : Nat) (hbox : BoxAt w bt ⟨k, p, q, n, vy, pic⟩) (hs : pic.size ≤ maxLen) (hv : (Ty.mk k p q n vy pic).ok = true) (hn : (Ty.mk k p q n vy pic).num = false) :
    Calls Tryz.prog 72 #[.pointer (some ⟨bt, 0, none⟩)] w fun e w' => e = refusal 10 ∧ Below w.heap.size w w' := by
  have hlt := hbox.lt
  have hlt2 : bt < w.heap.size + 1 + 1 := by omega
  obtain ⟨x0, x1, x2, x3, x4, x5⟩ := hbox.cells
  clear hbox
  have HV := Lib.hid hv; have HS := Lib.hid hs; have HN := Lib.hid hn
  clear hv hs hn
  go_enter Tryz.func72, Tryz.ntmps72
  go_wp2_with (go_at_call 66; refine (demandNumbers_10 [⟨k, p, q, n, vy, pic⟩] (w.heap.size + 1) 0 1 _ (TysAt_one (heap_alloc2_new _ _ _)) (by simp) (by simp) (pic1 HS.out) (all1 HV.out) (nall1 HN.out)).mono ?_; rintro e w1 ⟨rfl, hb1⟩; obtain ⟨hc, hf⟩ := bcell hb1; have hz := hb1.size)
  exact ⟨rfl, rfl, below_then (by go_grown) hb1 (by simp <;> omega)⟩

/- the closures' results -/
theorem pic0 : (ByteArray.mk #[]).size ≤ maxLen := by unfold maxLen; decide
theorem ok_1 {p q : Int} (hp : 1 ≤ p) (hp' : p ≤ 31) (hq : 0 ≤ q) (hq' : q ≤ 31) : (Ty.mk 1 p q 0 false ⟨#[]⟩).ok = true := by
  have : (ByteArray.toList ⟨#[]⟩) = [] := by rw [ByteArray.toList_eq]
  simp [Ty.ok, validS, validFixedS, this]; omega
theorem ok_2 {p q : Int} (hp : 1 ≤ p) (hp' : p ≤ 15) (hq : 0 ≤ q) (hq' : q ≤ 31) : (Ty.mk 2 p q 0 false ⟨#[]⟩).ok = true := by
  have : (ByteArray.toList ⟨#[]⟩) = [] := by rw [ByteArray.toList_eq]
  simp [Ty.ok, validS, validFixedS, this]; omega
theorem ok_3 {p : Int} (hp : 1 ≤ p) (hp' : p ≤ 15) : (Ty.mk 3 p 0 0 false ⟨#[]⟩).ok = true := by
  have : (ByteArray.toList ⟨#[]⟩) = [] := by rw [ByteArray.toList_eq]
  simp [Ty.ok, validS, validFloatS, this]; omega

abbrev zeroTy : Obj := .cells #[.int .i64 0, .int .i64 0, .int .i64 0, .int .i64 0, .bool false, .string ⟨#[]⟩] 23 (0, 0)
/-- The cells of a zero type that lies in a block, behind whatever leaves the block alone. -/
theorem zcells {X w2 : World} {b : Nat} (hX : X.heap[b]? = some zeroTy) (hb : b < X.heap.size) (h : Below X.heap.size X w2) :
    w2.cell? ⟨b, 0, none⟩ = some (.int .i64 0) ∧ w2.cell? ⟨b, 1, none⟩ = some (.int .i64 0) ∧ w2.cell? ⟨b, 2, none⟩ = some (.int .i64 0) ∧
      w2.cell? ⟨b, 3, none⟩ = some (.int .i64 0) ∧ w2.cell? ⟨b, 4, none⟩ = some (.bool false) ∧ w2.cell? ⟨b, 5, none⟩ = some (.string ⟨#[]⟩) ∧ ∀ j, w2.frozen? ⟨b, j, none⟩ = false := by
  have h2 : w2.heap[b]? = some zeroTy := (h.block b hb).trans hX
  exact ⟨cell_of_row w2 b 0 _ _ _ h2, cell_of_row w2 b 1 _ _ _ h2, cell_of_row w2 b 2 _ _ _ h2, cell_of_row w2 b 3 _ _ _ h2, cell_of_row w2 b 4 _ _ _ h2, cell_of_row w2 b 5 _ _ _ h2, fun j => by simp [World.frozen?, h2]⟩

set_option maxHeartbeats 400000 in
theorem cBinary_1 (p q : Int) (w : World) (bt : Nat) (hbox : BoxAt w bt ⟨1, p, q, 0, false, ⟨#[]⟩⟩) (hp : 1 ≤ p) (hp' : p ≤ 31) (hq : 0 ≤ q) (hq' : q ≤ 31) :
    Calls Tryz.prog 56 #[.pointer (some ⟨bt, 0, none⟩)] w fun e w' => e = .returned (numV 1 p q) ∧ Below w.heap.size w w' := by
  have hlt := hbox.lt
  have hlt2 : bt < w.heap.size + 1 + 1 := by omega
  obtain ⟨x0, x1, x2, x3, x4, x5⟩ := hbox.cells
  clear hbox
  have OK := Lib.hid (ok_1 hp hp' hq hq')
  go_enter Tryz.func56, Tryz.ntmps56
  go_wp2_with (go_at_call 57; refine (demandFixed_ok _ _ _ _ _ _ _ pic0 OK.out rfl rfl).mono ?_; rintro e w1 ⟨rfl, hb1⟩; obtain ⟨hc, hf⟩ := bcell hb1; have hz := hb1.size)
  go_at_call 58
  refine (asBinary_1 _ _ _).mono ?_
  rintro e w2 ⟨rfl, hb2⟩
  have hz2 := hb2.size
  obtain ⟨r0, r1, r2, r3, r4, r5, rf⟩ := zcells (w2 := w2) (heap_alloc_last _ _) (by simp <;> omega) (below_then hb1 hb2 hz)
  go_wp2
  refine bodyPost_ret (v := numV 1 p q) (by simp [results, Tryz.results56, go_sem, r0, r1, r2, r3, r4, r5]) rfl ⟨rfl, ?_⟩
  (repeat refine Below.setCell ?_ (by simp) _)
  exact below_then (below_then (by go_grown) hb1 (by simp <;> omega)) hb2 (by simp at hz <;> omega)

set_option maxHeartbeats 400000 in
theorem cBinary_2 (p q : Int) (w : World) (bt : Nat) (hbox : BoxAt w bt ⟨2, p, q, 0, false, ⟨#[]⟩⟩) (hp : 1 ≤ p) (hp' : p ≤ 15) (hq : 0 ≤ q) (hq' : q ≤ 31) :
    Calls Tryz.prog 56 #[.pointer (some ⟨bt, 0, none⟩)] w fun e w' => e = .returned (numV 1 (bP p) (bQ q)) ∧ Below w.heap.size w w' := by
  have hlt := hbox.lt
  have hlt2 : bt < w.heap.size + 1 + 1 := by omega
  obtain ⟨x0, x1, x2, x3, x4, x5⟩ := hbox.cells
  clear hbox
  have OK := Lib.hid (ok_2 hp hp' hq hq')
  go_enter Tryz.func56, Tryz.ntmps56
  go_wp2_with (go_at_call 57; refine (demandFixed_ok _ _ _ _ _ _ _ pic0 OK.out rfl rfl).mono ?_; rintro e w1 ⟨rfl, hb1⟩; obtain ⟨hc, hf⟩ := bcell hb1; have hz := hb1.size)
  go_at_call 58
  refine (asBinary_2 _ _ _ (by omega) (by omega) (by omega) (by omega)).mono ?_
  rintro e w2 ⟨rfl, hb2⟩
  have hz2 := hb2.size
  obtain ⟨r0, r1, r2, r3, r4, r5, rf⟩ := zcells (w2 := w2) (heap_alloc_last _ _) (by simp <;> omega) (below_then hb1 hb2 hz)
  go_wp2
  refine bodyPost_ret (v := numV 1 (bP p) (bQ q)) (by simp [results, Tryz.results56, go_sem, r0, r1, r2, r3, r4, r5]) rfl ⟨rfl, ?_⟩
  (repeat refine Below.setCell ?_ (by simp) _)
  exact below_then (below_then (by go_grown) hb1 (by simp <;> omega)) hb2 (by simp at hz <;> omega)

set_option maxHeartbeats 400000 in
theorem cDecimal_2 (p q : Int) (w : World) (bt : Nat) (hbox : BoxAt w bt ⟨2, p, q, 0, false, ⟨#[]⟩⟩) (hp : 1 ≤ p) (hp' : p ≤ 15) (hq : 0 ≤ q) (hq' : q ≤ 31) :
    Calls Tryz.prog 61 #[.pointer (some ⟨bt, 0, none⟩)] w fun e w' => e = .returned (numV 2 p q) ∧ Below w.heap.size w w' := by
  have hlt := hbox.lt
  have hlt2 : bt < w.heap.size + 1 + 1 := by omega
  obtain ⟨x0, x1, x2, x3, x4, x5⟩ := hbox.cells
  clear hbox
  have OK := Lib.hid (ok_2 hp hp' hq hq')
  go_enter Tryz.func61, Tryz.ntmps61
  go_wp2_with (go_at_call 57; refine (demandFixed_ok _ _ _ _ _ _ _ pic0 OK.out rfl rfl).mono ?_; rintro e w1 ⟨rfl, hb1⟩; obtain ⟨hc, hf⟩ := bcell hb1; have hz := hb1.size)
  go_at_call 62
  refine (asDecimal_2 _ _ _).mono ?_
  rintro e w2 ⟨rfl, hb2⟩
  have hz2 := hb2.size
  obtain ⟨r0, r1, r2, r3, r4, r5, rf⟩ := zcells (w2 := w2) (heap_alloc_last _ _) (by simp <;> omega) (below_then hb1 hb2 hz)
  go_wp2
  refine bodyPost_ret (v := numV 2 p q) (by simp [results, Tryz.results61, go_sem, r0, r1, r2, r3, r4, r5]) rfl ⟨rfl, ?_⟩
  (repeat refine Below.setCell ?_ (by simp) _)
  exact below_then (below_then (by go_grown) hb1 (by simp <;> omega)) hb2 (by simp at hz <;> omega)

set_option maxHeartbeats 400000 in
theorem cDecimal_1 (p q : Int) (w : World) (bt : Nat) (hbox : BoxAt w bt ⟨1, p, q, 0, false, ⟨#[]⟩⟩) (hp : 1 ≤ p) (hp' : p ≤ 31) (hq : 0 ≤ q) (hq' : q ≤ 31) :
    Calls Tryz.prog 61 #[.pointer (some ⟨bt, 0, none⟩)] w fun e w' => e = .returned (numV 2 (dP p) (dQ q)) ∧ Below w.heap.size w w' := by
  have hlt := hbox.lt
  have hlt2 : bt < w.heap.size + 1 + 1 := by omega
  obtain ⟨x0, x1, x2, x3, x4, x5⟩ := hbox.cells
  clear hbox
  have OK := Lib.hid (ok_1 hp hp' hq hq')
  go_enter Tryz.func61, Tryz.ntmps61
  go_wp2_with (go_at_call 57; refine (demandFixed_ok _ _ _ _ _ _ _ pic0 OK.out rfl rfl).mono ?_; rintro e w1 ⟨rfl, hb1⟩; obtain ⟨hc, hf⟩ := bcell hb1; have hz := hb1.size)
  go_at_call 62
  refine (asDecimal_1 _ _ _ (by omega) (by omega) (by omega) (by omega)).mono ?_
  rintro e w2 ⟨rfl, hb2⟩
  have hz2 := hb2.size
  obtain ⟨r0, r1, r2, r3, r4, r5, rf⟩ := zcells (w2 := w2) (heap_alloc_last _ _) (by simp <;> omega) (below_then hb1 hb2 hz)
  go_wp2
  refine bodyPost_ret (v := numV 2 (dP p) (dQ q)) (by simp [results, Tryz.results61, go_sem, r0, r1, r2, r3, r4, r5]) rfl ⟨rfl, ?_⟩
  (repeat refine Below.setCell ?_ (by simp) _)
  exact below_then (below_then (by go_grown) hb1 (by simp <;> omega)) hb2 (by simp at hz <;> omega)

set_option maxHeartbeats 400000 in
theorem cFloat_1 (p q : Int) (w : World) (bt : Nat) (hbox : BoxAt w bt ⟨1, p, q, 0, false, ⟨#[]⟩⟩) (hp : 1 ≤ p) (hp' : p ≤ 31) (hq : 0 ≤ q) (hq' : q ≤ 31) :
    Calls Tryz.prog 65 #[.pointer (some ⟨bt, 0, none⟩)] w fun e w' => e = .returned (numV 3 (fP p) 0) ∧ Below w.heap.size w w' := by
  have hlt := hbox.lt
  have hlt2 : bt < w.heap.size + 1 + 1 := by omega
  obtain ⟨x0, x1, x2, x3, x4, x5⟩ := hbox.cells
  clear hbox
  have OK := Lib.hid (ok_1 hp hp' hq hq')
  go_enter Tryz.func65, Tryz.ntmps65
  go_wp2_with (go_at_call 66; refine (demandNumbers_ok [⟨1, p, q, 0, false, ⟨#[]⟩⟩] (w.heap.size + 1) 0 1 _ (TysAt_one (heap_alloc2_new _ _ _)) (by simp) (by simp) (pic1 pic0) (all1 OK.out) (all1 (f := Ty.num) rfl)).mono ?_; rintro e w1 ⟨rfl, hb1⟩; obtain ⟨hc, hf⟩ := bcell hb1; have hz := hb1.size)
  go_at_call 67
  refine (asFloat_1 _ _ _ (by omega) (by omega)).mono ?_
  rintro e w2 ⟨rfl, hb2⟩
  have hz2 := hb2.size
  obtain ⟨r0, r1, r2, r3, r4, r5, rf⟩ := zcells (w2 := w2) (heap_alloc2_old _ _ _) (by simp <;> omega) (below_then hb1 hb2 hz)
  go_wp2
  refine bodyPost_ret (v := numV 3 (fP p) 0) (by simp [results, Tryz.results65, go_sem, r0, r1, r2, r3, r4, r5]) rfl ⟨rfl, ?_⟩
  (repeat refine Below.setCell ?_ (by simp) _)
  exact below_then (below_then (by go_grown) hb1 (by simp <;> omega)) hb2 (by simp at hz <;> omega)

set_option maxHeartbeats 400000 in
theorem cFloat_2 (p q : Int) (w : World) (bt : Nat) (hbox : BoxAt w bt ⟨2, p, q, 0, false, ⟨#[]⟩⟩) (hp : 1 ≤ p) (hp' : p ≤ 15) (hq : 0 ≤ q) (hq' : q ≤ 31) :
    Calls Tryz.prog 65 #[.pointer (some ⟨bt, 0, none⟩)] w fun e w' => e = .returned (numV 3 p 0) ∧ Below w.heap.size w w' := by
  have hlt := hbox.lt
  have hlt2 : bt < w.heap.size + 1 + 1 := by omega
  obtain ⟨x0, x1, x2, x3, x4, x5⟩ := hbox.cells
  clear hbox
  have OK := Lib.hid (ok_2 hp hp' hq hq')
  go_enter Tryz.func65, Tryz.ntmps65
  go_wp2_with (go_at_call 66; refine (demandNumbers_ok [⟨2, p, q, 0, false, ⟨#[]⟩⟩] (w.heap.size + 1) 0 1 _ (TysAt_one (heap_alloc2_new _ _ _)) (by simp) (by simp) (pic1 pic0) (all1 OK.out) (all1 (f := Ty.num) rfl)).mono ?_; rintro e w1 ⟨rfl, hb1⟩; obtain ⟨hc, hf⟩ := bcell hb1; have hz := hb1.size)
  go_at_call 67
  refine (asFloat_2 _ _ _).mono ?_
  rintro e w2 ⟨rfl, hb2⟩
  have hz2 := hb2.size
  obtain ⟨r0, r1, r2, r3, r4, r5, rf⟩ := zcells (w2 := w2) (heap_alloc2_old _ _ _) (by simp <;> omega) (below_then hb1 hb2 hz)
  go_wp2
  refine bodyPost_ret (v := numV 3 p 0) (by simp [results, Tryz.results65, go_sem, r0, r1, r2, r3, r4, r5]) rfl ⟨rfl, ?_⟩
  (repeat refine Below.setCell ?_ (by simp) _)
  exact below_then (below_then (by go_grown) hb1 (by simp <;> omega)) hb2 (by simp at hz <;> omega)

set_option maxHeartbeats 400000 in
theorem cFloat_3 (p : Int) (w : World) (bt : Nat) (hbox : BoxAt w bt ⟨3, p, 0, 0, false, ⟨#[]⟩⟩) (hp : 1 ≤ p) (hp' : p ≤ 15) :
    Calls Tryz.prog 65 #[.pointer (some ⟨bt, 0, none⟩)] w fun e w' => e = .returned (numV 3 p 0) ∧ Below w.heap.size w w' := by
  have hlt := hbox.lt
  have hlt2 : bt < w.heap.size + 1 + 1 := by omega
  obtain ⟨x0, x1, x2, x3, x4, x5⟩ := hbox.cells
  clear hbox
  have OK := Lib.hid (ok_3 hp hp')
  go_enter Tryz.func65, Tryz.ntmps65
  go_wp2_with (go_at_call 66; refine (demandNumbers_ok [⟨3, p, 0, 0, false, ⟨#[]⟩⟩] (w.heap.size + 1) 0 1 _ (TysAt_one (heap_alloc2_new _ _ _)) (by simp) (by simp) (pic1 pic0) (all1 OK.out) (all1 (f := Ty.num) rfl)).mono ?_; rintro e w1 ⟨rfl, hb1⟩; obtain ⟨hc, hf⟩ := bcell hb1; have hz := hb1.size)
  go_at_call 67
  refine (asFloat_3 _ _ _).mono ?_
  rintro e w2 ⟨rfl, hb2⟩
  have hz2 := hb2.size
  obtain ⟨r0, r1, r2, r3, r4, r5, rf⟩ := zcells (w2 := w2) (heap_alloc2_old _ _ _) (by simp <;> omega) (below_then hb1 hb2 hz)
  go_wp2
  refine bodyPost_ret (v := numV 3 p 0) (by simp [results, Tryz.results65, go_sem, r0, r1, r2, r3, r4, r5]) rfl ⟨rfl, ?_⟩
  (repeat refine Below.setCell ?_ (by simp) _)
  exact below_then (below_then (by go_grown) hb1 (by simp <;> omega)) hb2 (by simp at hz <;> omega)

set_option maxHeartbeats 400000 in
theorem cNegated_1 (p q : Int) (w : World) (bt : Nat) (hbox : BoxAt w bt ⟨1, p, q, 0, false, ⟨#[]⟩⟩) (hp : 1 ≤ p) (hp' : p ≤ 31) (hq : 0 ≤ q) (hq' : q ≤ 31) :
    Calls Tryz.prog 72 #[.pointer (some ⟨bt, 0, none⟩)] w fun e w' => e = .returned (numV 1 p q) ∧ Below w.heap.size w w' := by
  have hlt := hbox.lt
  have hlt2 : bt < w.heap.size + 1 + 1 := by omega
  obtain ⟨x0, x1, x2, x3, x4, x5⟩ := hbox.cells
  clear hbox
  have OK := Lib.hid (ok_1 hp hp' hq hq')
  go_enter Tryz.func72, Tryz.ntmps72
  go_wp2_with (go_at_call 66; refine (demandNumbers_ok [⟨1, p, q, 0, false, ⟨#[]⟩⟩] (w.heap.size + 1) 0 1 _ (TysAt_one (heap_alloc2_new _ _ _)) (by simp) (by simp) (pic1 pic0) (all1 OK.out) (all1 (f := Ty.num) rfl)).mono ?_; rintro e w1 ⟨rfl, hb1⟩; obtain ⟨hc, hf⟩ := bcell hb1; have hz := hb1.size; obtain ⟨r0, r1, r2, r3, r4, r5, rf⟩ := zcells (w2 := w1) (heap_alloc2_old _ _ _) (by simp <;> omega) hb1)
  refine bodyPost_ret (v := numV 1 p q) (by simp [results, Tryz.results72, go_sem, r0, r1, r2, r3, r4, r5]) rfl ⟨rfl, ?_⟩
  (repeat refine Below.setCell ?_ (by simp) _)
  exact below_then (by go_grown) hb1 (by simp <;> omega)

set_option maxHeartbeats 400000 in
theorem cNegated_2 (p q : Int) (w : World) (bt : Nat) (hbox : BoxAt w bt ⟨2, p, q, 0, false, ⟨#[]⟩⟩) (hp : 1 ≤ p) (hp' : p ≤ 15) (hq : 0 ≤ q) (hq' : q ≤ 31) :
    Calls Tryz.prog 72 #[.pointer (some ⟨bt, 0, none⟩)] w fun e w' => e = .returned (numV 2 p q) ∧ Below w.heap.size w w' := by
  have hlt := hbox.lt
  have hlt2 : bt < w.heap.size + 1 + 1 := by omega
  obtain ⟨x0, x1, x2, x3, x4, x5⟩ := hbox.cells
  clear hbox
  have OK := Lib.hid (ok_2 hp hp' hq hq')
  go_enter Tryz.func72, Tryz.ntmps72
  go_wp2_with (go_at_call 66; refine (demandNumbers_ok [⟨2, p, q, 0, false, ⟨#[]⟩⟩] (w.heap.size + 1) 0 1 _ (TysAt_one (heap_alloc2_new _ _ _)) (by simp) (by simp) (pic1 pic0) (all1 OK.out) (all1 (f := Ty.num) rfl)).mono ?_; rintro e w1 ⟨rfl, hb1⟩; obtain ⟨hc, hf⟩ := bcell hb1; have hz := hb1.size; obtain ⟨r0, r1, r2, r3, r4, r5, rf⟩ := zcells (w2 := w1) (heap_alloc2_old _ _ _) (by simp <;> omega) hb1)
  refine bodyPost_ret (v := numV 2 p q) (by simp [results, Tryz.results72, go_sem, r0, r1, r2, r3, r4, r5]) rfl ⟨rfl, ?_⟩
  (repeat refine Below.setCell ?_ (by simp) _)
  exact below_then (by go_grown) hb1 (by simp <;> omega)

set_option maxHeartbeats 400000 in
theorem cNegated_3 (p : Int) (w : World) (bt : Nat) (hbox : BoxAt w bt ⟨3, p, 0, 0, false, ⟨#[]⟩⟩) (hp : 1 ≤ p) (hp' : p ≤ 15) :
    Calls Tryz.prog 72 #[.pointer (some ⟨bt, 0, none⟩)] w fun e w' => e = .returned (numV 3 p 0) ∧ Below w.heap.size w w' := by
  have hlt := hbox.lt
  have hlt2 : bt < w.heap.size + 1 + 1 := by omega
  obtain ⟨x0, x1, x2, x3, x4, x5⟩ := hbox.cells
  clear hbox
  have OK := Lib.hid (ok_3 hp hp')
  go_enter Tryz.func72, Tryz.ntmps72
  go_wp2_with (go_at_call 66; refine (demandNumbers_ok [⟨3, p, 0, 0, false, ⟨#[]⟩⟩] (w.heap.size + 1) 0 1 _ (TysAt_one (heap_alloc2_new _ _ _)) (by simp) (by simp) (pic1 pic0) (all1 OK.out) (all1 (f := Ty.num) rfl)).mono ?_; rintro e w1 ⟨rfl, hb1⟩; obtain ⟨hc, hf⟩ := bcell hb1; have hz := hb1.size; obtain ⟨r0, r1, r2, r3, r4, r5, rf⟩ := zcells (w2 := w1) (heap_alloc2_old _ _ _) (by simp <;> omega) hb1)
  refine bodyPost_ret (v := numV 3 p 0) (by simp [results, Tryz.results72, go_sem, r0, r1, r2, r3, r4, r5]) rfl ⟨rfl, ?_⟩
  (repeat refine Below.setCell ?_ (by simp) _)
  exact below_then (by go_grown) hb1 (by simp <;> omega)

set_option maxHeartbeats 400000 in
theorem asNumber_1 (p q : Int) (w : World) :
    Calls Tryz.prog 71 #[tyV 1 p q 0 false ⟨#[]⟩] w fun e w' => e = .returned (numV 1 p q) ∧ Below w.heap.size w w' := by
  go_enter Tryz.func71, Tryz.ntmps71
  go_wp2_with (go_at_call 140; refine (isNumber_b true _ _ _ _ _ _ _ (by rfl)).mono ?_; rintro e w1 ⟨rfl, hb1⟩; obtain ⟨hc, hf⟩ := bcell hb1; have hz := hb1.size; obtain ⟨r0, r1, r2, r3, r4, r5, rf⟩ := zcells (w2 := w1) (b := w.heap.size + 1) (heap_alloc2_new _ _ _) (by simp <;> omega) hb1)
  refine bodyPost_ret (v := numV 1 p q) (by simp [results, Tryz.results71, go_sem, r0, r1, r2, r3, r4, r5]) rfl ⟨rfl, ?_⟩
  (repeat refine Below.setCell ?_ (by simp) _)
  exact below_then (by go_grown) hb1 (by simp <;> omega)

set_option maxHeartbeats 400000 in
theorem asNumber_2 (p q : Int) (w : World) :
    Calls Tryz.prog 71 #[tyV 2 p q 0 false ⟨#[]⟩] w fun e w' => e = .returned (numV 2 p q) ∧ Below w.heap.size w w' := by
  go_enter Tryz.func71, Tryz.ntmps71
  go_wp2_with (go_at_call 140; refine (isNumber_b true _ _ _ _ _ _ _ (by rfl)).mono ?_; rintro e w1 ⟨rfl, hb1⟩; obtain ⟨hc, hf⟩ := bcell hb1; have hz := hb1.size; obtain ⟨r0, r1, r2, r3, r4, r5, rf⟩ := zcells (w2 := w1) (b := w.heap.size + 1) (heap_alloc2_new _ _ _) (by simp <;> omega) hb1)
  refine bodyPost_ret (v := numV 2 p q) (by simp [results, Tryz.results71, go_sem, r0, r1, r2, r3, r4, r5]) rfl ⟨rfl, ?_⟩
  (repeat refine Below.setCell ?_ (by simp) _)
  exact below_then (by go_grown) hb1 (by simp <;> omega)

set_option maxHeartbeats 400000 in
theorem asNumber_3 (p q : Int) (w : World) :
    Calls Tryz.prog 71 #[tyV 3 p q 0 false ⟨#[]⟩] w fun e w' => e = .returned (numV 3 p q) ∧ Below w.heap.size w w' := by
  go_enter Tryz.func71, Tryz.ntmps71
  go_wp2_with (go_at_call 140; refine (isNumber_b true _ _ _ _ _ _ _ (by rfl)).mono ?_; rintro e w1 ⟨rfl, hb1⟩; obtain ⟨hc, hf⟩ := bcell hb1; have hz := hb1.size; obtain ⟨r0, r1, r2, r3, r4, r5, rf⟩ := zcells (w2 := w1) (b := w.heap.size + 1) (heap_alloc2_new _ _ _) (by simp <;> omega) hb1)
  refine bodyPost_ret (v := numV 3 p q) (by simp [results, Tryz.results71, go_sem, r0, r1, r2, r3, r4, r5]) rfl ⟨rfl, ?_⟩
  (repeat refine Below.setCell ?_ (by simp) _)
  exact below_then (by go_grown) hb1 (by simp <;> omega)

set_option maxHeartbeats 400000 in
theorem asNumber_4 (p q n : Int) (vy : Bool) (pic : ByteArray) (w : World) :
    Calls Tryz.prog 71 #[tyV 4 p q n vy pic] w fun e w' => e = .returned (numV 2 15 0) ∧ Below w.heap.size w w' := by
  go_enter Tryz.func71, Tryz.ntmps71
  go_wp2_with (go_at_call 140; refine (isNumber_b false _ _ _ _ _ _ _ (by rfl)).mono ?_; rintro e w1 ⟨rfl, hb1⟩; obtain ⟨hc, hf⟩ := bcell hb1; have hz := hb1.size; obtain ⟨r0, r1, r2, r3, r4, r5, rf⟩ := zcells (w2 := w1) (b := w.heap.size + 1) (heap_alloc2_new _ _ _) (by simp <;> omega) hb1)
  go_at_call 139
  refine (decimal_any _ _ _).mono ?_
  rintro e w2 ⟨rfl, hb2⟩
  have hz2 := hb2.size
  obtain ⟨r0, r1, r2, r3, r4, r5, rf⟩ := zcells (w2 := w2) (b := w.heap.size + 1) (heap_alloc2_new _ _ _) (by simp <;> omega) (below_then hb1 hb2 hz)
  go_wp2
  refine bodyPost_ret (v := numV 2 15 0) (by simp [results, Tryz.results71, go_sem, r0, r1, r2, r3, r4, r5]) rfl ⟨rfl, ?_⟩
  (repeat refine Below.setCell ?_ (by simp) _)
  exact below_then (below_then (by go_grown) hb1 (by simp <;> omega)) hb2 (by simp at hz <;> omega)

set_option maxHeartbeats 400000 in
theorem asNumber_5 (p q n : Int) (vy : Bool) (pic : ByteArray) (w : World) :
    Calls Tryz.prog 71 #[tyV 5 p q n vy pic] w fun e w' => e = .returned (numV 1 31 0) ∧ Below w.heap.size w w' := by
  go_enter Tryz.func71, Tryz.ntmps71
  go_wp2_with (go_at_call 140; refine (isNumber_b false _ _ _ _ _ _ _ (by rfl)).mono ?_; rintro e w1 ⟨rfl, hb1⟩; obtain ⟨hc, hf⟩ := bcell hb1; have hz := hb1.size; obtain ⟨r0, r1, r2, r3, r4, r5, rf⟩ := zcells (w2 := w1) (b := w.heap.size + 1) (heap_alloc2_new _ _ _) (by simp <;> omega) hb1)
  go_at_call 138
  refine (binary_any _ _ _).mono ?_
  rintro e w2 ⟨rfl, hb2⟩
  have hz2 := hb2.size
  obtain ⟨r0, r1, r2, r3, r4, r5, rf⟩ := zcells (w2 := w2) (b := w.heap.size + 1) (heap_alloc2_new _ _ _) (by simp <;> omega) (below_then hb1 hb2 hz)
  go_wp2
  refine bodyPost_ret (v := numV 1 31 0) (by simp [results, Tryz.results71, go_sem, r0, r1, r2, r3, r4, r5]) rfl ⟨rfl, ?_⟩
  (repeat refine Below.setCell ?_ (by simp) _)
  exact below_then (below_then (by go_grown) hb1 (by simp <;> omega)) hb2 (by simp at hz <;> omega)

set_option maxHeartbeats 400000 in
theorem asNumber_10 (k p q n : Int) (vy : Bool) (pic : ByteArray) (w : World) (hk : 6 ≤ k) :
    Calls Tryz.prog 71 #[tyV k p q n vy pic] w fun e w' => e = refusal 10 ∧ Below w.heap.size w w' := by
  have e4 : (k == 4) = false := by rw [beq_eq_false_iff_ne]; omega
  have e5 : (k == 5) = false := by rw [beq_eq_false_iff_ne]; omega
  have HN := Lib.hid (show isNumS k = false by unfold isNumS; simp; omega)
  go_enter Tryz.func71, Tryz.ntmps71
  go_wp2_with (go_at_call 140; refine (isNumber_b false _ _ _ _ _ _ _ HN.out).mono ?_; rintro e w1 ⟨rfl, hb1⟩; obtain ⟨hc, hf⟩ := bcell hb1; have hz := hb1.size; obtain ⟨r0, r1, r2, r3, r4, r5, rf⟩ := zcells (w2 := w1) (b := w.heap.size + 1) (heap_alloc2_new _ _ _) (by simp <;> omega) hb1)
  go_at_call 82
  refine (refuse_any _ _).mono ?_
  rintro e w3 ⟨rfl, rfl⟩
  exact ⟨rfl, rfl, below_then (by go_grown) hb1 (by simp <;> omega)⟩

set_option maxHeartbeats 400000 in
theorem cNumber_1 (p q : Int) (w : World) (bt : Nat) (hbox : BoxAt w bt ⟨1, p, q, 0, false, ⟨#[]⟩⟩) (hp : 1 ≤ p) (hp' : p ≤ 31) (hq : 0 ≤ q) (hq' : q ≤ 31) :
    Calls Tryz.prog 69 #[.pointer (some ⟨bt, 0, none⟩)] w fun e w' => e = .returned (numV 1 p q) ∧ Below w.heap.size w w' := by
  have hlt := hbox.lt
  have hlt2 : bt < w.heap.size + 1 + 1 := by omega
  obtain ⟨x0, x1, x2, x3, x4, x5⟩ := hbox.cells
  clear hbox
  have OK := Lib.hid (ok_1 hp hp' hq hq')
  go_enter Tryz.func69, Tryz.ntmps69
  go_wp2_with (go_at_call 70; refine (demandValid_ok [⟨1, p, q, 0, false, ⟨#[]⟩⟩] (w.heap.size + 1) 0 1 _ (TysAt_one (heap_alloc2_new _ _ _)) (by simp) (by simp) (pic1 pic0) (all1 OK.out)).mono ?_; rintro e w1 ⟨rfl, hb1⟩; obtain ⟨hc, hf⟩ := bcell hb1; have hz := hb1.size)
  go_at_call 71
  refine (asNumber_1 _ _ _).mono ?_
  rintro e w2 ⟨rfl, hb2⟩
  have hz2 := hb2.size
  obtain ⟨r0, r1, r2, r3, r4, r5, rf⟩ := zcells (w2 := w2) (heap_alloc2_old _ _ _) (by simp <;> omega) (below_then hb1 hb2 hz)
  go_wp2
  refine bodyPost_ret (v := numV 1 p q) (by simp [results, Tryz.results69, go_sem, r0, r1, r2, r3, r4, r5]) rfl ⟨rfl, ?_⟩
  (repeat refine Below.setCell ?_ (by simp) _)
  exact below_then (below_then (by go_grown) hb1 (by simp <;> omega)) hb2 (by simp at hz <;> omega)

set_option maxHeartbeats 400000 in
theorem cNumber_2 (p q : Int) (w : World) (bt : Nat) (hbox : BoxAt w bt ⟨2, p, q, 0, false, ⟨#[]⟩⟩) (hp : 1 ≤ p) (hp' : p ≤ 15) (hq : 0 ≤ q) (hq' : q ≤ 31) :
    Calls Tryz.prog 69 #[.pointer (some ⟨bt, 0, none⟩)] w fun e w' => e = .returned (numV 2 p q) ∧ Below w.heap.size w w' := by
  have hlt := hbox.lt
  have hlt2 : bt < w.heap.size + 1 + 1 := by omega
  obtain ⟨x0, x1, x2, x3, x4, x5⟩ := hbox.cells
  clear hbox
  have OK := Lib.hid (ok_2 hp hp' hq hq')
  go_enter Tryz.func69, Tryz.ntmps69
  go_wp2_with (go_at_call 70; refine (demandValid_ok [⟨2, p, q, 0, false, ⟨#[]⟩⟩] (w.heap.size + 1) 0 1 _ (TysAt_one (heap_alloc2_new _ _ _)) (by simp) (by simp) (pic1 pic0) (all1 OK.out)).mono ?_; rintro e w1 ⟨rfl, hb1⟩; obtain ⟨hc, hf⟩ := bcell hb1; have hz := hb1.size)
  go_at_call 71
  refine (asNumber_2 _ _ _).mono ?_
  rintro e w2 ⟨rfl, hb2⟩
  have hz2 := hb2.size
  obtain ⟨r0, r1, r2, r3, r4, r5, rf⟩ := zcells (w2 := w2) (heap_alloc2_old _ _ _) (by simp <;> omega) (below_then hb1 hb2 hz)
  go_wp2
  refine bodyPost_ret (v := numV 2 p q) (by simp [results, Tryz.results69, go_sem, r0, r1, r2, r3, r4, r5]) rfl ⟨rfl, ?_⟩
  (repeat refine Below.setCell ?_ (by simp) _)
  exact below_then (below_then (by go_grown) hb1 (by simp <;> omega)) hb2 (by simp at hz <;> omega)

set_option maxHeartbeats 400000 in
theorem cNumber_3 (p : Int) (w : World) (bt : Nat) (hbox : BoxAt w bt ⟨3, p, 0, 0, false, ⟨#[]⟩⟩) (hp : 1 ≤ p) (hp' : p ≤ 15) :
    Calls Tryz.prog 69 #[.pointer (some ⟨bt, 0, none⟩)] w fun e w' => e = .returned (numV 3 p 0) ∧ Below w.heap.size w w' := by
  have hlt := hbox.lt
  have hlt2 : bt < w.heap.size + 1 + 1 := by omega
  obtain ⟨x0, x1, x2, x3, x4, x5⟩ := hbox.cells
  clear hbox
  have OK := Lib.hid (ok_3 hp hp')
  go_enter Tryz.func69, Tryz.ntmps69
  go_wp2_with (go_at_call 70; refine (demandValid_ok [⟨3, p, 0, 0, false, ⟨#[]⟩⟩] (w.heap.size + 1) 0 1 _ (TysAt_one (heap_alloc2_new _ _ _)) (by simp) (by simp) (pic1 pic0) (all1 OK.out)).mono ?_; rintro e w1 ⟨rfl, hb1⟩; obtain ⟨hc, hf⟩ := bcell hb1; have hz := hb1.size)
  go_at_call 71
  refine (asNumber_3 _ _ _).mono ?_
  rintro e w2 ⟨rfl, hb2⟩
  have hz2 := hb2.size
  obtain ⟨r0, r1, r2, r3, r4, r5, rf⟩ := zcells (w2 := w2) (heap_alloc2_old _ _ _) (by simp <;> omega) (below_then hb1 hb2 hz)
  go_wp2
  refine bodyPost_ret (v := numV 3 p 0) (by simp [results, Tryz.results69, go_sem, r0, r1, r2, r3, r4, r5]) rfl ⟨rfl, ?_⟩
  (repeat refine Below.setCell ?_ (by simp) _)
  exact below_then (below_then (by go_grown) hb1 (by simp <;> omega)) hb2 (by simp at hz <;> omega)

set_option maxHeartbeats 400000 in
theorem cNumber_4 (p q n : Int) (vy : Bool) (pic : ByteArray) (w : World) (bt : Nat) (hbox : BoxAt w bt ⟨4, p, q, n, vy, pic⟩) (hs : pic.size ≤ maxLen) (hv : (Ty.mk 4 p q n vy pic).ok = true) :
    Calls Tryz.prog 69 #[.pointer (some ⟨bt, 0, none⟩)] w fun e w' => e = .returned (numV 2 15 0) ∧ Below w.heap.size w w' := by
  have hlt := hbox.lt
  have hlt2 : bt < w.heap.size + 1 + 1 := by omega
  obtain ⟨x0, x1, x2, x3, x4, x5⟩ := hbox.cells
  clear hbox
  have HV := Lib.hid hv; have HS := Lib.hid hs
  clear hv hs
  go_enter Tryz.func69, Tryz.ntmps69
  go_wp2_with (go_at_call 70; refine (demandValid_ok [⟨4, p, q, n, vy, pic⟩] (w.heap.size + 1) 0 1 _ (TysAt_one (heap_alloc2_new _ _ _)) (by simp) (by simp) (pic1 HS.out) (all1 HV.out)).mono ?_; rintro e w1 ⟨rfl, hb1⟩; obtain ⟨hc, hf⟩ := bcell hb1; have hz := hb1.size)
  go_at_call 71
  refine (asNumber_4 _ _ _ _ _ _).mono ?_
  rintro e w2 ⟨rfl, hb2⟩
  have hz2 := hb2.size
  obtain ⟨r0, r1, r2, r3, r4, r5, rf⟩ := zcells (w2 := w2) (heap_alloc2_old _ _ _) (by simp <;> omega) (below_then hb1 hb2 hz)
  go_wp2
  refine bodyPost_ret (v := numV 2 15 0) (by simp [results, Tryz.results69, go_sem, r0, r1, r2, r3, r4, r5]) rfl ⟨rfl, ?_⟩
  (repeat refine Below.setCell ?_ (by simp) _)
  exact below_then (below_then (by go_grown) hb1 (by simp <;> omega)) hb2 (by simp at hz <;> omega)

set_option maxHeartbeats 400000 in
theorem cNumber_5 (p q n : Int) (vy : Bool) (pic : ByteArray) (w : World) (bt : Nat) (hbox : BoxAt w bt ⟨5, p, q, n, vy, pic⟩) (hs : pic.size ≤ maxLen) (hv : (Ty.mk 5 p q n vy pic).ok = true) :
    Calls Tryz.prog 69 #[.pointer (some ⟨bt, 0, none⟩)] w fun e w' => e = .returned (numV 1 31 0) ∧ Below w.heap.size w w' := by
  have hlt := hbox.lt
  have hlt2 : bt < w.heap.size + 1 + 1 := by omega
  obtain ⟨x0, x1, x2, x3, x4, x5⟩ := hbox.cells
  clear hbox
  have HV := Lib.hid hv; have HS := Lib.hid hs
  clear hv hs
  go_enter Tryz.func69, Tryz.ntmps69
  go_wp2_with (go_at_call 70; refine (demandValid_ok [⟨5, p, q, n, vy, pic⟩] (w.heap.size + 1) 0 1 _ (TysAt_one (heap_alloc2_new _ _ _)) (by simp) (by simp) (pic1 HS.out) (all1 HV.out)).mono ?_; rintro e w1 ⟨rfl, hb1⟩; obtain ⟨hc, hf⟩ := bcell hb1; have hz := hb1.size)
  go_at_call 71
  refine (asNumber_5 _ _ _ _ _ _).mono ?_
  rintro e w2 ⟨rfl, hb2⟩
  have hz2 := hb2.size
  obtain ⟨r0, r1, r2, r3, r4, r5, rf⟩ := zcells (w2 := w2) (heap_alloc2_old _ _ _) (by simp <;> omega) (below_then hb1 hb2 hz)
  go_wp2
  refine bodyPost_ret (v := numV 1 31 0) (by simp [results, Tryz.results69, go_sem, r0, r1, r2, r3, r4, r5]) rfl ⟨rfl, ?_⟩
  (repeat refine Below.setCell ?_ (by simp) _)
  exact below_then (below_then (by go_grown) hb1 (by simp <;> omega)) hb2 (by simp at hz <;> omega)

set_option maxHeartbeats 400000 in
theorem cNumber_10 (k p q n : Int) (vy : Bool) (pic : ByteArray) (w : World) (bt : Nat) (hbox : BoxAt w bt ⟨k, p, q, n, vy, pic⟩) (hs : pic.size ≤ maxLen) (hv : (Ty.mk k p q n vy pic).ok = true) (hk : 6 ≤ k) :
    Calls Tryz.prog 69 #[.pointer (some ⟨bt, 0, none⟩)] w fun e w' => e = refusal 10 ∧ Below w.heap.size w w' := by
  have hlt := hbox.lt
  have hlt2 : bt < w.heap.size + 1 + 1 := by omega
  obtain ⟨x0, x1, x2, x3, x4, x5⟩ := hbox.cells
  clear hbox
  have HV := Lib.hid hv; have HS := Lib.hid hs
  clear hv hs
  go_enter Tryz.func69, Tryz.ntmps69
  go_wp2_with (go_at_call 70; refine (demandValid_ok [⟨k, p, q, n, vy, pic⟩] (w.heap.size + 1) 0 1 _ (TysAt_one (heap_alloc2_new _ _ _)) (by simp) (by simp) (pic1 HS.out) (all1 HV.out)).mono ?_; rintro e w1 ⟨rfl, hb1⟩; obtain ⟨hc, hf⟩ := bcell hb1; have hz := hb1.size)
  go_at_call 71
  refine (asNumber_10 _ _ _ _ _ _ _ hk).mono ?_
  rintro e w2 ⟨rfl, hb2⟩
  exact ⟨rfl, rfl, below_then (below_then (by go_grown) hb1 (by simp <;> omega)) hb2 (by simp at hz <;> omega)⟩

set_option maxHeartbeats 400000 in
theorem cBinary_3 (p : Int) (w : World) (bt : Nat) (hbox : BoxAt w bt ⟨3, p, 0, 0, false, ⟨#[]⟩⟩) (hp : 1 ≤ p) (hp' : p ≤ 15) :
    Calls Tryz.prog 56 #[.pointer (some ⟨bt, 0, none⟩)] w fun e w' => e = refusal 10 ∧ Below w.heap.size w w' := by
  have hlt := hbox.lt
  have hlt2 : bt < w.heap.size + 1 + 1 := by omega
  obtain ⟨x0, x1, x2, x3, x4, x5⟩ := hbox.cells
  clear hbox
  have OK := Lib.hid (ok_3 hp hp')
  go_enter Tryz.func56, Tryz.ntmps56
  go_wp2_with (go_at_call 57; refine (demandFixed_10f _ _ _ _ _ _ _ pic0 OK.out rfl rfl).mono ?_; rintro e w1 ⟨rfl, hb1⟩)
  exact ⟨rfl, rfl, below_then (by go_grown) hb1 (by simp <;> omega)⟩

set_option maxHeartbeats 400000 in
theorem cDecimal_3 (p : Int) (w : World) (bt : Nat) (hbox : BoxAt w bt ⟨3, p, 0, 0, false, ⟨#[]⟩⟩) (hp : 1 ≤ p) (hp' : p ≤ 15) :
    Calls Tryz.prog 61 #[.pointer (some ⟨bt, 0, none⟩)] w fun e w' => e = refusal 10 ∧ Below w.heap.size w w' := by
  have hlt := hbox.lt
  have hlt2 : bt < w.heap.size + 1 + 1 := by omega
  obtain ⟨x0, x1, x2, x3, x4, x5⟩ := hbox.cells
  clear hbox
  have OK := Lib.hid (ok_3 hp hp')
  go_enter Tryz.func61, Tryz.ntmps61
  go_wp2_with (go_at_call 57; refine (demandFixed_10f _ _ _ _ _ _ _ pic0 OK.out rfl rfl).mono ?_; rintro e w1 ⟨rfl, hb1⟩)
  exact ⟨rfl, rfl, below_then (by go_grown) hb1 (by simp <;> omega)⟩

end Go.Proofs.YtcekphfmpjdbmaaGreatDoor
