/- Package bits: operations. -/
import Derived.Test.YtgoghblfficfpaaBitComb2
namespace Go.Proofs.Ytgoghblfficfpaa
open Go.RowKit

def sAnd : ByteArray := ⟨#[48, 48, 48, 49]⟩
def sOr : ByteArray := ⟨#[48, 49, 49, 49]⟩
def sXor : ByteArray := ⟨#[48, 49, 49, 48]⟩
theorem ops_ix0 (f0 f1 f2 : Value) (w : World) : (Instr.index 126 (.agg #[f0, f1, f2]) (.int .i64 0)).run Try.prog w = .ok f0 w := by kernel_rfl
theorem ops_ix1 (f0 f1 f2 : Value) (w : World) : (Instr.index 126 (.agg #[f0, f1, f2]) (.int .i64 1)).run Try.prog w = .ok f1 w := by kernel_rfl
theorem ops_ix2 (f0 f1 f2 : Value) (w : World) : (Instr.index 126 (.agg #[f0, f1, f2]) (.int .i64 2)).run Try.prog w = .ok f2 w := by kernel_rfl
theorem Row.three {w : World} {b : Nat} {a0 a1 a2 : Value} {t : TypeId} (h : Row w b #[a0, a1, a2] t) : w.cell? ⟨b, 0, none⟩ = some a0 ∧ w.cell? ⟨b, 1, none⟩ = some a1 ∧ w.cell? ⟨b, 2, none⟩ = some a2 := ⟨h.at 0, h.at 1, h.at 2⟩

set_option maxHeartbeats 400000 in
/-- What byTable captures. -/
theorem byTable_rows (s : ByteArray) (w : World) :
    Calls Try.prog 106 #[.string s] w fun e w' => ∃ b, e = .returned (fnC 142 #[ptr b]) ∧ w.heap.size ≤ b ∧ Row w' b #[.string s] 9 ∧ Below w.heap.size w w' := by
  go_enter Try.func106, Try.ntmps106
  go_wp2
  go_ret
  exact ⟨_, rfl, Nat.le_refl _, Row.new _ _ _, by go_grown⟩
theorem does_row {s : ByteArray} {b : Nat} {w : World} (h : Row w b #[.string s] 9) (hs : s.size = 4) : Does w 142 #[ptr b] s.data.toList :=
  ⟨fun _ _ => by kernel_rfl, fun x y W hx hy hB => (byTable1 s x y hx hy _ W (h.keep hB) hs).mono fun _ _ ⟨he, hw⟩ => ⟨he, hw ▸ Below.refl _ _⟩⟩

set_option maxRecDepth 100000 in
set_option maxHeartbeats 2000000 in
theorem operations_any (w : World) :
    Calls Try.prog 144 #[] w fun e w' => ∃ c0 c1 c2, e = .returned (.agg #[fnC 142 c0, fnC 142 c1, fnC 142 c2]) ∧ Does w' 142 c0 tabAnd ∧ Does w' 142 c1 tabOr ∧ Does w' 142 c2 tabXor ∧ Below w.heap.size w w' := by
  have RZ := Row.new w #[.nilFunc, .nilFunc, .nilFunc] 126
  have B0 : Hid (∀ W, Calls Try.prog 106 #[.string ⟨#[48, 48, 48, 49]⟩] W fun e w' => ∃ b, e = .returned (fnC 142 #[ptr b]) ∧ W.heap.size ≤ b ∧ Row w' b #[.string sAnd] 9 ∧ Below W.heap.size W w') := Lib.hid fun W => byTable_rows sAnd W
  have B1 : Hid (∀ W, Calls Try.prog 106 #[.string ⟨#[48, 49, 49, 49]⟩] W fun e w' => ∃ b, e = .returned (fnC 142 #[ptr b]) ∧ W.heap.size ≤ b ∧ Row w' b #[.string sOr] 9 ∧ Below W.heap.size W w') := Lib.hid fun W => byTable_rows sOr W
  have B2 : Hid (∀ W, Calls Try.prog 106 #[.string ⟨#[48, 49, 49, 48]⟩] W fun e w' => ∃ b, e = .returned (fnC 142 #[ptr b]) ∧ W.heap.size ≤ b ∧ Row w' b #[.string sXor] 9 ∧ Below W.heap.size W w') := Lib.hid fun W => byTable_rows sXor W
  go_enter Try.func144, Try.ntmps144
  go_wp2_with (go_at_call 106; first
    | ((with_reducible refine (B0.out _).mono ?_); rintro e w1 ⟨c0, rfl, g0, D0, hb1⟩; have Z1 := RZ.keep hb1; have X1 := Lib.hid (bl_box (Below.refl _ w) hb1); have lz1 := Z1.lt)
    | ((with_reducible refine (B1.out _).mono ?_); rintro e w2 ⟨c1, rfl, g1, D1, hb2⟩; have Z2 := Z1.keep hb2; have E0 := D0.keep hb2; have X2 := Lib.hid (bl_then X1.out hb2); have lz2 := Z2.lt)
    | ((with_reducible refine (B2.out _).mono ?_); rintro e w3 ⟨c2, rfl, g2, D2, hb3⟩; have Z3 := Z2.keep hb3; have E1 := D1.keep hb3; have F0 := E0.keep hb3; have X3 := Lib.hid (bl_then X2.out hb3); obtain ⟨z0, z1, z2⟩ := Z3.three; have f0 := Z3.free 0; have f1 := Z3.free 1; have f2 := Z3.free 2))
  simp only [World.size_alloc] at g0
  have y0 : w.heap.size ≠ c0 := by omega
  have y1 : w.heap.size ≠ c1 := by omega
  have y2 : w.heap.size ≠ c2 := by omega
  refine bodyPost_ret (v := .agg #[fnC 142 #[ptr c0], fnC 142 #[ptr c1], fnC 142 #[ptr c2]]) (by simp [results, Try.results144, go_sem, z0, z1, z2]) rfl ⟨_, _, _, rfl, does_row (s := sAnd) ?_ rfl, does_row (s := sOr) ?_ rfl, does_row (s := sXor) ?_ rfl, ?_⟩
  · exact ((F0.set y0).set y0).set y0
  · exact ((E1.set y1).set y1).set y1
  · exact ((D2.set y2).set y2).set y2
  · (repeat refine Below.setCell ?_ (by simp <;> omega) _)
    exact X3.out
end Go.Proofs.Ytgoghblfficfpaa
