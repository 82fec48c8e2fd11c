/- Package bits: Sub. -/
import Derived.Test.YtgoghblfficfpaaBitPart
import Derived.Test.YtgoghblfficfpaaBitFind
import Derived.Test.YtgoghblfficfpaaBitDem3
namespace Go.Proofs.Ytgoghblfficfpaa
open Go.RowKit

/- Sub -/
def subE (a : Vl) (i m : Int) : Int := if a.ok then (if plainI i && plainI m then 0 else 7) else 1
theorem subE_ok {a : Vl} {i m : Int} (h : subE a i m = 0) : a.ok = true ∧ plainI i = true ∧ plainI m = true := by
  unfold subE at h
  split at h
  · rename_i h1
    split at h
    · rename_i h2
      simp only [Bool.and_eq_true] at h2
      exact ⟨h1, h2.1, h2.2⟩
    · cases h
  · cases h

theorem plain_in {i : Int} (h : plainI i = true) : -2000000000 ≤ i ∧ i ≤ 2000000000 := by have := plainI_yes h; omega
def subV (a : Vl) (i m : Int) : Value := tkV a.k 0 0 (bsz (subL a.s.data.toList i m)) (partC a.s.data.toList i m)

set_option maxRecDepth 100000 in
set_option maxHeartbeats 2000000 in
theorem cSub_any (a : Vl) (i m : Int) (bs bi bn : Nat) (w : World) (hS : Row w bs (vlC a.k a.n a.q a.s) 23) (hI : Row w bi #[.int .i64 i] 3) (hN : Row w bn #[.int .i64 m] 3) (hs : a.s.size ≤ maxLen) :
    Calls Try.prog 56 #[ptr bs, ptr bi, ptr bn] w fun e w' => e = outE (subE a i m) (subV a i m) ∧ Below w.heap.size w w' := by
  have RS := hS.alloc (.cells (tkC 0 0 0 ⟨#[]⟩ 0) 53)
  have RI := hI.alloc (.cells (tkC 0 0 0 ⟨#[]⟩ 0) 53)
  have RN := hN.alloc (.cells (tkC 0 0 0 ⟨#[]⟩ 0) 53)
  have RZ := Row.new w (tkC 0 0 0 ⟨#[]⟩ 0) 53
  have H1 : Hid (∀ v ∈ [a], v.s.size ≤ maxLen) := Lib.hid (vl1 hs)
  have ls := hS.lt; have li := hI.lt; have ln := hN.lt
  obtain ⟨x0, x1, x2, x3⟩ := hS.four
  have y0 := hI.one
  have u0 := hN.one
  cases ho : a.ok with
  | false =>
    have HV : Hid (¬ ∀ v ∈ [a], v.ok = true) := Lib.hid (by simp [ho])
    have e : subE a i m = 1 := by rw [subE, ho]; rfl
    rw [e]
    clear e ho hs
    go_enter Try.func56, Try.ntmps56
    go_wp2_with (go_at_call 57; refine (demStr_no [a] (w.heap.size + 1) 0 1 _ (VlsAt.one (Row.new2 _ _ _ _)) (by simp) (by simp) H1.out HV.out).mono ?_; rintro e w1 ⟨rfl, hb1⟩)
    exact ⟨rfl, rfl, bl_box2 (Below.refl _ w) hb1⟩
  | true =>
    have HV : Hid (∀ v ∈ [a], v.ok = true) := Lib.hid (vl1 ho)
    have la := Lib.hid (vl_le ho)
    cases hp : (plainI i && plainI m) with
    | false =>
      have e : subE a i m = 7 := by rw [subE, ho, hp]; rfl
      have HP := Lib.hid hp
      rw [e]
      clear e ho hs hp
      go_enter Try.func56, Try.ntmps56
      go_wp2_with (first
        | (go_at_call 57; refine (demStr_ok [a] (w.heap.size + 1) 0 1 _ (VlsAt.one (Row.new2 _ _ _ _)) (by simp) (by simp) H1.out HV.out).mono ?_; rintro e w1 ⟨rfl, hb1⟩; have B1 := bl_box2 (Below.refl _ w) hb1; have I1 := (RI.alloc _).keep hb1; have N1 := (RN.alloc _).keep hb1; have y1 := I1.one; have u1 := N1.one; have li1 := I1.lt; have ln1 := N1.lt)
        | (go_at_call 58; refine (counts2_no i m w1.heap.size 2 _ (Row.new _ _ _).two.1 (Row.new _ _ _).two.2 HP.out).mono ?_; rintro e w2 ⟨rfl, rfl⟩))
      exact ⟨rfl, rfl, B1.alloc B1.size _⟩
    | true =>
      have hpp : plainI i = true ∧ plainI m = true := by simpa using hp
      have e : subE a i m = 0 := by rw [subE, ho, hp]; rfl
      have HP := Lib.hid hpp
      rw [e]
      clear e ho hs hp hpp
      show Calls _ _ _ _ fun e w' => e = .returned (tkV a.k 0 0 (bsz (subL a.s.data.toList i m)) (partC a.s.data.toList i m)) ∧ Below w.heap.size w w'
      go_enter Try.func56, Try.ntmps56
      go_wp2_with (first
        | (go_at_call 57; refine (demStr_ok [a] (w.heap.size + 1) 0 1 _ (VlsAt.one (Row.new2 _ _ _ _)) (by simp) (by simp) H1.out HV.out).mono ?_; rintro e w1 ⟨rfl, hb1⟩; have B1 := bl_box2 (Below.refl _ w) hb1; have S1 := (RS.alloc _).keep hb1; have I1 := (RI.alloc _).keep hb1; have N1 := (RN.alloc _).keep hb1; have Z1 := (RZ.alloc _).keep hb1; obtain ⟨s0, s1, s2, s3⟩ := S1.four; have y1 := I1.one; have u1 := N1.one; have ls1 := S1.lt; have li1 := I1.lt; have ln1 := N1.lt)
        | (go_at_call 58; refine (counts2_ok i m w1.heap.size 2 _ (Row.new _ _ _).two.1 (Row.new _ _ _).two.2 HP.out.1 HP.out.2).mono ?_; rintro e w2 ⟨rfl, rfl⟩)
        | (go_at_call 59; refine (of_any i m _ _ _ _ _ la.out (plain_in HP.out.1).1 (plain_in HP.out.1).2 (by have := (plain_in HP.out.2).1; omega) (by have := (plain_in HP.out.2).2; omega)).mono ?_; rintro e w3 ⟨rfl, hb3⟩; have B3 := bl_box B1 hb3; have Z3 := (Z1.alloc _).keep hb3; obtain ⟨z0, z1, z2, z3, z4⟩ := Z3.five; have f0 := Z3.free 0; have f1 := Z3.free 1; have f2 := Z3.free 2; have f3 := Z3.free 3; have f4 := Z3.free 4))
      refine bodyPost_ret (v := tkV a.k 0 0 (bsz (subL a.s.data.toList i m)) (partC a.s.data.toList i m)) (by simp [results, Try.results56, go_sem, z0, z1, z2, z3, z4]) rfl ⟨rfl, ?_⟩
      (repeat refine Below.setCell ?_ (by simp) _)
      exact B3

/-- What a call tells with an error. -/
def orV (E : Int) (k : Int) (l : List UInt8) : Value := vlV (if E = 0 then k else 0) 0 0 (if E = 0 then bsz l else ⟨#[]⟩)
def orI (E : Int) (c : Int) : Int := if E = 0 then c else 0

set_option maxRecDepth 100000 in
set_option maxHeartbeats 2000000 in
theorem bSub_any (a : Vl) (i m : Int) (w : World) (hs : a.s.size ≤ maxLen) :
    Calls Try.prog 10 #[a.v, .int .i64 i, .int .i64 m] w fun e w' => e = .returned (.tuple #[orV (subE a i m) a.k (subL a.s.data.toList i m), .int .i64 (orI (subE a i m) (partC a.s.data.toList i m)), .int .i64 (subE a i m)]) ∧ Below w.heap.size w w' := by
  have hmf : ∀ (fn : Fn) (first cap : Array Value) (w : World), (Instr.makeFunc fn first cap).run Try.prog w = .ok (.func fn first cap) w := fun _ _ _ _ => rfl
  have HC : Hid (∀ W, Below ((((w.alloc (.cells (vlC a.k a.n a.q a.s) 23)).alloc (.cells #[.int .i64 i] 3)).alloc (.cells #[.int .i64 m] 3)).alloc (.cells (vlC 0 0 0 ⟨#[]⟩) 23)).heap.size ((((w.alloc (.cells (vlC a.k a.n a.q a.s) 23)).alloc (.cells #[.int .i64 i] 3)).alloc (.cells #[.int .i64 m] 3)).alloc (.cells (vlC 0 0 0 ⟨#[]⟩) 23)) W → Calls Try.prog 56 #[ptr w.heap.size, ptr (w.heap.size + 1), ptr (w.heap.size + 1 + 1)] W fun e w' => e = outE (subE a i m) (subV a i m) ∧ Below W.heap.size W w') := by
    show ∀ _, _
    intro W hW
    exact cSub_any a i m _ _ _ W (((((Row.new _ _ _).alloc _).alloc _).alloc _).keep hW) ((((Row.new2 _ _ _ _).alloc _).alloc _).keep hW) (((Row.new3 _ _ _ _ _).alloc _).keep hW) hs
  have RZ : Row ((((w.alloc (.cells (vlC a.k a.n a.q a.s) 23)).alloc (.cells #[.int .i64 i] 3)).alloc (.cells #[.int .i64 m] 3)).alloc (.cells (vlC 0 0 0 ⟨#[]⟩) 23)) (w.heap.size + 1 + 1 + 1) (vlC 0 0 0 ⟨#[]⟩) 23 := by
    have := Row.new (((w.alloc (.cells (vlC a.k a.n a.q a.s) 23)).alloc (.cells #[.int .i64 i] 3)).alloc (.cells #[.int .i64 m] 3)) (vlC 0 0 0 ⟨#[]⟩) 23
    rwa [World.size_alloc, World.size_alloc, World.size_alloc] at this
  have HR : Hid ((if subE a i m = 0 then subV a i m else tkV 0 0 0 ⟨#[]⟩ 0) = tkV (if subE a i m = 0 then a.k else 0) 0 0 (if subE a i m = 0 then bsz (subL a.s.data.toList i m) else ⟨#[]⟩) (orI (subE a i m) (partC a.s.data.toList i m))) := by
    show _ = _
    unfold orI; split <;> rfl
  unfold orV
  generalize (if subE a i m = 0 then a.k else 0) = K at HR ⊢
  generalize (if subE a i m = 0 then bsz (subL a.s.data.toList i m) else ⟨#[]⟩) = L at HR ⊢
  generalize orI (subE a i m) (partC a.s.data.toList i m) = C at HR ⊢
  go_enter Try.func10, Try.ntmps10
  go_wp2_with (go_at_call 55; refine (bAnsK_any 56 _ (subE a i m) _ _ _ _ _ _ (fun W => by kernel_rfl) (fun W hW => HC.out W hW)).mono ?_; rw [show tkV a.k 0 0 (bsz (subL a.s.data.toList i m)) (partC a.s.data.toList i m) = subV a i m from rfl, HR.out]; rintro e w1 ⟨rfl, hb1⟩; have Z1 := RZ.keep hb1; obtain ⟨z0, z1, z2, z3⟩ := Z1.four; have f0 := Z1.free 0; have f1 := Z1.free 1; have f2 := Z1.free 2; have f3 := Z1.free 3; have lz := Z1.lt)
  have n1 : ¬ w.heap.size + 1 + 1 + 1 = w1.heap.size := by omega
  have n2 : ¬ w1.heap.size = w.heap.size + 1 + 1 + 1 := by omega
  go_region
  go_wp2
  refine bodyPost_ret (v := .tuple #[vlV K 0 0 L, .int .i64 C, .int .i64 (subE a i m)]) (by simp [results, Try.results10, go_sem, z0, z1, z2, z3, lz]) rfl ⟨rfl, ?_⟩
  have B1 : Below w.heap.size w w1 := below_then (by go_grown) hb1 (by simp <;> omega)
  have z5 := B1.size
  refine Below.drew ?_
  refine Below.alloc ?_ (by simp; omega) _
  (repeat refine Below.setCell ?_ (by simp <;> omega) _)
  exact B1
end Go.Proofs.Ytgoghblfficfpaa
