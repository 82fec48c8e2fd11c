/- Types of layer 1: which types are valid, as package digit and as the document say. -/
import Derived.Test.YtpdoddhieblooaaGreatDoorProg
import Derived.WalkKit
import Derived.WalkSpells
import Derived.WalkLawsBesides
import Derived.Handy
import Derived.Lib.Hide
namespace Go.Proofs.YtpdoddhieblooaaGreatDoor
open Go.RowKit

abbrev tyV (k p q n : Int) (vy : Bool) (pic : ByteArray) : Value := .agg #[.int .i64 k, .int .i64 p, .int .i64 q, .int .i64 n, .bool vy, .string pic]
theorem tyEq (k p q n k' p' q' n' : Int) (vy vy' : Bool) (pic pic' : ByteArray) (w : World) :
   (Op.equalIn 10000 25 (tyV k p q n vy pic) (tyV k' p' q' n' vy' pic')).run Tryz.prog w = .ok (k == k' && p == p' && q == q' && n == n' && vy == vy' && pic.toList == pic'.toList) w := by
 have hS : Tryz.prog.underlying 25 = some (.struct (Tryz.prog.fieldsOf 25)) := by kernel_rfl
 have hp : Tryz.prog.stoodInHeld 25 = false := by kernel_rfl
 rw [show (10000 : Nat) = 9999 + 1 from rfl, run_equalIn_agg w 9999 25 _ _ hS hp]
 simp only [Program.fieldsOf, Tryz.underlying25]
 go_simp
 by_cases h1 : k = k' <;> by_cases h2 : p = p' <;> by_cases h3 : q = q' <;> by_cases h4 : n = n' <;> by_cases h5 : vy = vy' <;> by_cases h6 : pic.toList = pic'.toList <;> simp [h1, h2, h3, h4, h5, h6]
theorem ret_bool {a b : Bool} (h : a = b) : Ending.returned (.bool a) = .returned (.bool b) := by rw [h]
theorem bcell {W w1 : World} (hb : Below W.heap.size W w1) : (∀ b o, b < W.heap.size → w1.cell? ⟨b, o, none⟩ = W.cell? ⟨b, o, none⟩) ∧ (∀ b o, b < W.heap.size → w1.frozen? ⟨b, o, none⟩ = W.frozen? ⟨b, o, none⟩) :=
 ⟨fun b o h => hb.cell (p := ⟨b, o, none⟩) h, fun b o h => hb.frozen (p := ⟨b, o, none⟩) h⟩
set_option maxHeartbeats 400000 in
theorem within_any (n l h : Int) (w : World) :
   Calls Tryz.prog 125 #[.int .i64 n, .int .i64 l, .int .i64 h] w fun e w' => e = .returned (.bool (decide (l ≤ n) && decide (n ≤ h))) ∧ w = w' := by
 by_cases h1 : l ≤ n <;> by_cases h2 : n ≤ h
 all_goals
   go_enter Tryz.func125, Tryz.ntmps125
   go_wp2
   go_ret
   exact ⟨ret_bool (by simp [h1, h2]), rfl⟩
theorem within_b (b : Bool) (n l h : Int) (w : World) (hb : b = true ↔ l ≤ n ∧ n ≤ h) :
   Calls Tryz.prog 125 #[.int .i64 n, .int .i64 l, .int .i64 h] w fun e w' => e = .returned (.bool b) ∧ w = w' :=
 (within_any n l h w).mono fun _ _ ⟨he, hw⟩ => ⟨he.trans (ret_bool (by rw [Bool.eq_iff_iff, hb]; simp)), hw⟩
theorem below_then {w w1 w2 : World} {B : Nat} (h1 : Below B w w1) (h2 : Below w1.heap.size w1 w2) (hB : B ≤ w1.heap.size) : Below B w w2 := h1.trans (h2.mono hB)
set_option maxHeartbeats 400000 in
theorem below_any (n b : Int) (w : World) (hb : -9223372036854775807 ≤ b) (hb' : b ≤ 9223372036854775807) :
   Calls Tryz.prog 126 #[.int .i64 n, .int .i64 b] w fun e w' => e = .returned (.bool (decide (-b < n) && decide (n < b))) ∧ w = w' := by
 by_cases h1 : -b < n <;> by_cases h2 : n < b
 all_goals
   go_enter Tryz.func126, Tryz.ntmps126
   go_wp2
   go_ret
   exact ⟨ret_bool (by simp [h1, h2]), rfl⟩
def validPlainS (_k p q n : Int) (vy : Bool) (pic : ByteArray) : Bool := p == 0 && q == 0 && n == 0 && vy == false && pic.toList == []
set_option maxHeartbeats 400000 in
theorem validPlain_any (k p q n : Int) (vy : Bool) (pic : ByteArray) (w : World) :
   Calls Tryz.prog 101 #[tyV k p q n vy pic] w fun e w' => e = .returned (.bool (validPlainS k p q n vy pic)) ∧ Below w.heap.size w w' := by
 have hE := tyEq
 have hG : Tryz.prog.eqGuardType Tryz.prog.depth 25 = false := by kernel_rfl
 go_enter Tryz.func101, Tryz.ntmps101
 go_wp2
 go_ret
 exact ⟨ret_bool (by simp [validPlainS]), by go_grown⟩
def validStringS (_k p q n : Int) (_vy : Bool) (pic : ByteArray) : Bool := decide (0 ≤ n) && decide (n ≤ 250) && (p == 0 && q == 0 && pic.toList == [])
set_option maxHeartbeats 400000 in
theorem validString_any (k p q n : Int) (vy : Bool) (pic : ByteArray) (w : World) :
   Calls Tryz.prog 93 #[tyV k p q n vy pic] w fun e w' => e = .returned (.bool (validStringS k p q n vy pic)) ∧ Below w.heap.size w w' := by
 have hE := tyEq
 have hG : Tryz.prog.eqGuardType Tryz.prog.depth 25 = false := by kernel_rfl
 by_cases h : 0 ≤ n ∧ n ≤ 250
 · have H := Lib.hid h; clear h
   go_enter Tryz.func93, Tryz.ntmps93
   go_wp2_with (go_at_call 125; refine (within_b true _ _ _ _ (by simpa using H.out)).mono ?_; rintro e w' ⟨rfl, rfl⟩)
   go_ret
   exact ⟨ret_bool (by simp [validStringS, H.out.1, H.out.2]), by go_grown⟩
 · have H := Lib.hid h; clear h
   go_enter Tryz.func93, Tryz.ntmps93
   go_wp2_with (go_at_call 125; refine (within_b false _ _ _ _ (by simpa using H.out)).mono ?_; rintro e w' ⟨rfl, rfl⟩)
   go_ret
   exact ⟨ret_bool (by have h := H.out; simp only [validStringS]; rw [← Bool.decide_and]; simp [h]), by go_grown⟩
def validFloatS (_k p q n : Int) (vy : Bool) (pic : ByteArray) : Bool := decide (1 ≤ p) && decide (p ≤ 15) && (q == 0 && n == 0 && vy == false && pic.toList == [])
set_option maxHeartbeats 400000 in
theorem validFloat_any (k p q n : Int) (vy : Bool) (pic : ByteArray) (w : World) :
   Calls Tryz.prog 86 #[tyV k p q n vy pic] w fun e w' => e = .returned (.bool (validFloatS k p q n vy pic)) ∧ Below w.heap.size w w' := by
 have hE := tyEq
 have hG : Tryz.prog.eqGuardType Tryz.prog.depth 25 = false := by kernel_rfl
 by_cases h : 1 ≤ p ∧ p ≤ 15
 · have H := Lib.hid h; clear h
   go_enter Tryz.func86, Tryz.ntmps86
   go_wp2_with (go_at_call 125; refine (within_b true _ _ _ _ (by simpa using H.out)).mono ?_; rintro e w' ⟨rfl, rfl⟩)
   go_ret
   exact ⟨ret_bool (by simp [validFloatS, H.out.1, H.out.2]), by go_grown⟩
 · have H := Lib.hid h; clear h
   go_enter Tryz.func86, Tryz.ntmps86
   go_wp2_with (go_at_call 125; refine (within_b false _ _ _ _ (by simpa using H.out)).mono ?_; rintro e w' ⟨rfl, rfl⟩)
   go_ret
   exact ⟨ret_bool (by have h := H.out; simp only [validFloatS]; rw [← Bool.decide_and]; simp [h]), by go_grown⟩
def validPictureS (_k p q n : Int) (vy : Bool) (pic : ByteArray) : Bool := decide (1 ≤ (pic.size : Int)) && decide ((pic.size : Int) ≤ 80) && (p == 0 && q == 0 && n == 0 && vy == false)
set_option maxHeartbeats 400000 in
theorem validPicture_any (k p q n : Int) (vy : Bool) (pic : ByteArray) (w : World) (_hs : pic.size ≤ maxLen) :
   Calls Tryz.prog 99 #[tyV k p q n vy pic] w fun e w' => e = .returned (.bool (validPictureS k p q n vy pic)) ∧ Below w.heap.size w w' := by
 unfold maxLen at _hs
 have hE := tyEq
 have hG : Tryz.prog.eqGuardType Tryz.prog.depth 25 = false := by kernel_rfl
 by_cases h : 1 ≤ (pic.size : Int) ∧ (pic.size : Int) ≤ 80
 · have H := Lib.hid h; clear h
   go_enter Tryz.func99, Tryz.ntmps99
   go_wp2_with (go_at_call 125; refine (within_b true _ _ _ _ (by simpa using H.out)).mono ?_; rintro e w' ⟨rfl, rfl⟩)
   go_ret
   exact ⟨ret_bool (by simp [validPictureS, H.out.1, H.out.2]), by go_grown⟩
 · have H := Lib.hid h; clear h
   go_enter Tryz.func99, Tryz.ntmps99
   go_wp2_with (go_at_call 125; refine (within_b false _ _ _ _ (by simpa using H.out)).mono ?_; rintro e w' ⟨rfl, rfl⟩)
   go_ret
   exact ⟨ret_bool (by have h := H.out; simp only [validPictureS]; rw [← Bool.decide_and]; simp [h]), by go_grown⟩
def validFixedS (m : Int) (_k p q n : Int) (vy : Bool) (pic : ByteArray) : Bool := decide (1 ≤ p) && decide (p ≤ m) && (decide (0 ≤ q) && decide (q ≤ 31)) && (n == 0 && vy == false && pic.toList == [])
set_option maxHeartbeats 400000 in
theorem validFixed_any (m k p q n : Int) (vy : Bool) (pic : ByteArray) (w : World) :
   Calls Tryz.prog 118 #[tyV k p q n vy pic, .int .i64 m] w fun e w' => e = .returned (.bool (validFixedS m k p q n vy pic)) ∧ Below w.heap.size w w' := by
 have hE := tyEq
 have hG : Tryz.prog.eqGuardType Tryz.prog.depth 25 = false := by kernel_rfl
 by_cases h : 1 ≤ p ∧ p ≤ m
 · by_cases h' : 0 ≤ q ∧ q ≤ 31
   · have H := Lib.hid h; have H' := Lib.hid h'; clear h h'
     go_enter Tryz.func118, Tryz.ntmps118
     go_wp2_with (go_at_call 125; refine (within_b true _ _ _ _ (by first | simpa using H.out | simpa using H'.out)).mono ?_; rintro e w' ⟨rfl, rfl⟩)
     go_ret
     exact ⟨ret_bool (by simp [validFixedS, H.out.1, H.out.2, H'.out.1, H'.out.2]), by go_grown⟩
   · have H := Lib.hid h; have H' := Lib.hid h'; clear h h'
     go_enter Tryz.func118, Tryz.ntmps118
     go_wp2_with (go_at_call 125; first | (refine (within_b true _ _ _ _ (by simpa using H.out)).mono ?_; rintro e w' ⟨rfl, rfl⟩) | (refine (within_b false _ _ _ _ (by simpa using H'.out)).mono ?_; rintro e w' ⟨rfl, rfl⟩))
     go_ret
     exact ⟨ret_bool (by have h := H'.out; simp only [validFixedS]; rw [← Bool.decide_and (0 ≤ q)]; simp [h]), by go_grown⟩
 · have H := Lib.hid h; clear h
   go_enter Tryz.func118, Tryz.ntmps118
   go_wp2_with (go_at_call 125; refine (within_b false _ _ _ _ (by simpa using H.out)).mono ?_; rintro e w' ⟨rfl, rfl⟩)
   go_ret
   exact ⟨ret_bool (by have h := H.out; simp only [validFixedS]; rw [← Bool.decide_and]; simp [h]), by go_grown⟩
set_option maxHeartbeats 400000 in
theorem validBin_any (k p q n : Int) (vy : Bool) (pic : ByteArray) (w : World) :
   Calls Tryz.prog 73 #[tyV k p q n vy pic] w fun e w' => e = .returned (.bool (validFixedS 31 k p q n vy pic)) ∧ Below w.heap.size w w' := by
 go_enter Tryz.func73, Tryz.ntmps73
 go_wp2_with (go_at_call 118; refine (validFixed_any _ _ _ _ _ _ _ _).mono ?_; rintro e w' ⟨rfl, hb⟩)
 go_ret
 exact ⟨rfl, below_then (by go_grown) hb (by simp)⟩
set_option maxHeartbeats 400000 in
theorem validDec_any (k p q n : Int) (vy : Bool) (pic : ByteArray) (w : World) :
   Calls Tryz.prog 80 #[tyV k p q n vy pic] w fun e w' => e = .returned (.bool (validFixedS 15 k p q n vy pic)) ∧ Below w.heap.size w w' := by
 go_enter Tryz.func80, Tryz.ntmps80
 go_wp2_with (go_at_call 118; refine (validFixed_any _ _ _ _ _ _ _ _).mono ?_; rintro e w' ⟨rfl, hb⟩)
 go_ret
 exact ⟨rfl, below_then (by go_grown) hb (by simp)⟩
end Go.Proofs.YtpdoddhieblooaaGreatDoor
