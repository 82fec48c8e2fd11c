/- Package bits: Rest; the document's Rest. -/
import Derived.Test.YtgoghblfficfpaaBitRSub
namespace Go.Proofs.Ytgoghblfficfpaa
open Go.RowKit

theorem rest_low {l : List UInt8} {i : Int} (h : i < 1) : subL l i (restN l i) = l ∧ partC l i (restN l i) = 5 := by
  have hb : begN l i = 0 := by unfold begN clampN; omega
  have he : endN l i (restN l i) = l.length := by unfold endN clampN restN; rw [hb]; omega
  exact ⟨by unfold subL; rw [hb, he]; simp, if_neg (by omega)⟩
theorem rest_high {l : List UInt8} {i : Int} (h : (l.length : Int) + 1 < i) : subL l i (restN l i) = [] ∧ partC l i (restN l i) = 5 := by
  have hb : begN l i = l.length := by unfold begN clampN; omega
  exact ⟨by unfold subL; rw [hb, List.drop_eq_nil_iff]; simp; omega, if_neg (by unfold restN; omega)⟩
theorem rest_mid {l : List UInt8} {i : Int} (h : 1 ≤ i) (h' : i ≤ l.length + 1) : subL l i (restN l i) = l.drop (i - 1).toNat ∧ partC l i (restN l i) = 0 := by
  have hc : partC l i (restN l i) = 0 := partC_of (by unfold restN; omega)
  have e := ends_right hc
  refine ⟨?_, hc⟩
  unfold subL
  rw [e.1, e.2, List.take_of_length_le (by unfold restN; omega)]

theorem vl_eta2 (a : Vl) (h : a.ok = true) : vlV a.k a.n a.q a.s = vlV a.k 0 0 a.s := by
  obtain ⟨h1, h2, _⟩ := okV_eq h
  rw [h1, h2]
set_option maxHeartbeats 400000 in
theorem restFrom_any (k n q : Int) (s : ByteArray) (i : Int) (w : World) (hs : s.size ≤ 100000) (h1 : -2000000000 ≤ i) (h2 : i ≤ 2000000000) :
    Calls Try.prog 64 #[vlV k n q s, .int .i64 i] w fun e w' => e = .returned (ptV i (restN s.data.toList i)) ∧ Below w.heap.size w w' := by
  have HL : Hid (restN s.data.toList i = s.size - i + 1) := by show _ = _; unfold restN; rw [lsz]
  go_enter Try.func64, Try.ntmps64
  go_wp2
  refine bodyPost_ret (v := ptV i (s.size - i + 1)) (by simp [results, Try.results64, go_sem]) rfl ⟨by rw [HL.out], by go_grown⟩

def restE (a : Vl) (i : Int) : Int := if a.ok then (if plainI i then 0 else 7) else 1
theorem restE_ok {a : Vl} {i : Int} (h : restE a i = 0) : a.ok = true ∧ plainI i = true := by
  unfold restE at h
  split at h
  · rename_i h1
    split at h
    · rename_i h2; exact ⟨h1, h2⟩
    · cases h
  · cases h
def restL (a : Vl) (i : Int) : List UInt8 := subL a.s.data.toList i (restN a.s.data.toList i)
def restC (a : Vl) (i : Int) : Int := partC a.s.data.toList i (restN a.s.data.toList i)
def restV (a : Vl) (i : Int) : Value := tkV a.k 0 0 (bsz (restL a i)) (restC a i)

set_option maxRecDepth 100000 in
set_option maxHeartbeats 2000000 in
theorem cRest_any (a : Vl) (i : Int) (bs bi : Nat) (w : World) (hS : Row w bs (vlC a.k a.n a.q a.s) 23) (hI : Row w bi #[.int .i64 i] 3) (hs : a.s.size ≤ maxLen) :
    Calls Try.prog 63 #[ptr bs, ptr bi] w fun e w' => e = outE (restE a i) (restV a i) ∧ Below w.heap.size w w' := by
  have RS := hS.alloc (.cells (tkC 0 0 0 ⟨#[]⟩ 0) 53)
  have RI := hI.alloc (.cells (tkC 0 0 0 ⟨#[]⟩ 0) 53)
  have RZ := Row.new w (tkC 0 0 0 ⟨#[]⟩ 0) 53
  have H1 : Hid (∀ v ∈ [a], v.s.size ≤ maxLen) := Lib.hid (vl1 hs)
  have ls := hS.lt; have li := hI.lt
  obtain ⟨x0, x1, x2, x3⟩ := hS.four
  have y0 := hI.one
  cases ho : a.ok with
  | false =>
    have HV : Hid (¬ ∀ v ∈ [a], v.ok = true) := Lib.hid (by simp [ho])
    have e : restE a i = 1 := by rw [restE, ho]; rfl
    rw [e]
    clear e ho hs
    go_enter Try.func63, Try.ntmps63
    go_wp2_with (go_at_call 57; refine (demStr_no [a] (w.heap.size + 1) 0 1 _ (VlsAt.one (Row.new2 _ _ _ _)) (by simp) (by simp) H1.out HV.out).mono ?_; rintro e w1 ⟨rfl, hb1⟩)
    exact ⟨rfl, rfl, bl_box2 (Below.refl _ w) hb1⟩
  | true =>
    have HV : Hid (∀ v ∈ [a], v.ok = true) := Lib.hid (vl1 ho)
    have la := vl_room2 a ho
    have la' : a.s.size ≤ 100000 := by omega
    cases hp : plainI i with
    | false =>
      have e : restE a i = 7 := by rw [restE, ho, hp]; rfl
      have HP := Lib.hid hp
      rw [e]
      clear e ho hs hp
      go_enter Try.func63, Try.ntmps63
      go_wp2_with (first
        | (go_at_call 57; refine (demStr_ok [a] (w.heap.size + 1) 0 1 _ (VlsAt.one (Row.new2 _ _ _ _)) (by simp) (by simp) H1.out HV.out).mono ?_; rintro e w1 ⟨rfl, hb1⟩; have B1 := bl_box2 (Below.refl _ w) hb1; have I1 := (RI.alloc _).keep hb1; have y1 := I1.one; have li1 := I1.lt)
        | (go_at_call 58; refine (counts1_no i w1.heap.size 1 _ (Row.new _ _ _).one HP.out).mono ?_; rintro e w2 ⟨rfl, rfl⟩))
      exact ⟨rfl, rfl, B1.alloc B1.size _⟩
    | true =>
      have e : restE a i = 0 := by rw [restE, ho, hp]; rfl
      have HP := Lib.hid hp
      obtain ⟨i1, i2⟩ := plain_in hp
      have r1 : -4000000000 ≤ restN a.s.data.toList i := by unfold restN; rw [lsz]; omega
      have r2 : restN a.s.data.toList i ≤ 4000000000 := by unfold restN; rw [lsz]; omega
      rw [e]
      clear e ho hs hp
      show Calls _ _ _ _ fun e w' => e = .returned (tkV a.k 0 0 (bsz (restL a i)) (restC a i)) ∧ Below w.heap.size w w'
      unfold restL restC
      go_enter Try.func63, Try.ntmps63
      go_wp2_with (first
        | (go_at_call 57; refine (demStr_ok [a] (w.heap.size + 1) 0 1 _ (VlsAt.one (Row.new2 _ _ _ _)) (by simp) (by simp) H1.out HV.out).mono ?_; rintro e w1 ⟨rfl, hb1⟩; have B1 := bl_box2 (Below.refl _ w) hb1; have S1 := (RS.alloc _).keep hb1; have I1 := (RI.alloc _).keep hb1; have Z1 := (RZ.alloc _).keep hb1; have y1 := I1.one; have li1 := I1.lt)
        | (go_at_call 58; refine (counts1_ok i w1.heap.size 1 _ (Row.new _ _ _).one HP.out).mono ?_; rintro e w2 ⟨rfl, rfl⟩))
      have B2 := Lib.hid (B1.alloc B1.size (.cells #[.int .i64 i] 3))
      have Z2 := Z1.alloc (.cells #[.int .i64 i] 3)
      have S2 := S1.alloc (.cells #[.int .i64 i] 3)
      have I2 := I1.alloc (.cells #[.int .i64 i] 3)
      generalize w1.alloc (.cells #[.int .i64 i] 3) = W at *
      clear hb1 B1 Z1 S1 I1 RS RI RZ x0 x1 x2 x3 y0 y1
      obtain ⟨x0, x1, x2, x3⟩ := S2.four
      have y0 := I2.one
      have n1 : ¬ w.heap.size = bs := by omega
      have n2 : ¬ bs = w.heap.size := by omega
      have n3 : ¬ w.heap.size = bi := by omega
      have n4 : ¬ bi = w.heap.size := by omega
      go_region_held3 (fun w' => w'.cell? ⟨bi, 0, none⟩ = some (.int .i64 i) ∧ (w'.cell? ⟨bs, 0, none⟩ = some (.int .i64 a.k) ∧ w'.cell? ⟨bs, 1, none⟩ = some (.int .i64 a.n) ∧ w'.cell? ⟨bs, 2, none⟩ = some (.int .i64 a.q) ∧ w'.cell? ⟨bs, 3, none⟩ = some (.string a.s)))
        (first | go_keep | exact ⟨I4.one, S4.four⟩ | exact ⟨I3.one, S3.four⟩)
        (first
          | (go_at_call 64; refine (restFrom_any _ _ _ _ i _ la' i1 i2).mono ?_; rintro e w3 ⟨rfl, hb3⟩; have S3 := S2.keep (bl_drew hb3); have I3 := I2.keep (bl_drew hb3); have Z3 := Z2.keep (bl_drew hb3))
          | (go_at_call 59; refine (of_any i _ _ _ _ _ _ la' i1 i2 r1 r2).mono ?_; rintro e w4 ⟨rfl, hb4⟩; have S4 := S3.keep hb4; have I4 := I3.keep hb4; have Z4 := Z3.keep hb4; obtain ⟨z0, z1, z2, z3, z4⟩ := Z4.five; have f0 := Z4.free 0; have f1 := Z4.free 1; have f2 := Z4.free 2; have f3 := Z4.free 3; have f4 := Z4.free 4))
      go_wp2
      refine bodyPost_ret (v := tkV a.k 0 0 (bsz (subL a.s.data.toList i (restN a.s.data.toList i))) (partC a.s.data.toList i (restN a.s.data.toList i))) (by simp [results, Try.results63, go_sem, z0, z1, z2, z3, z4]) rfl ⟨rfl, ?_⟩
      (repeat refine Below.setCell ?_ (by simp) _)
      exact bl_then B2.out (bl_then (bl_drew hb3) hb4)

set_option maxRecDepth 100000 in
set_option maxHeartbeats 2000000 in
theorem bRest_any (a : Vl) (i : Int) (w : World) (hs : a.s.size ≤ maxLen) :
    Calls Try.prog 12 #[a.v, .int .i64 i] w fun e w' => e = .returned (.tuple #[orV (restE a i) a.k (restL a i), .int .i64 (orI (restE a i) (restC a i)), .int .i64 (restE a i)]) ∧ Below w.heap.size w w' := by
  have hmf : ∀ (fn : Fn) (first cap : Array Value) (w : World), (Instr.makeFunc fn first cap).run Try.prog w = .ok (.func fn first cap) w := fun _ _ _ _ => rfl
  have HC : Hid (∀ W, Below (((w.alloc (.cells (vlC a.k a.n a.q a.s) 23)).alloc (.cells #[.int .i64 i] 3)).alloc (.cells (vlC 0 0 0 ⟨#[]⟩) 23)).heap.size (((w.alloc (.cells (vlC a.k a.n a.q a.s) 23)).alloc (.cells #[.int .i64 i] 3)).alloc (.cells (vlC 0 0 0 ⟨#[]⟩) 23)) W → Calls Try.prog 63 #[ptr w.heap.size, ptr (w.heap.size + 1)] W fun e w' => e = outE (restE a i) (restV a i) ∧ Below W.heap.size W w') := by
    show ∀ _, _
    intro W hW
    exact cRest_any a i _ _ W ((((Row.new _ _ _).alloc _).alloc _).keep hW) (((Row.new2 _ _ _ _).alloc _).keep hW) hs
  have RZ := Row.new3 w (.cells (vlC a.k a.n a.q a.s) 23) (.cells #[.int .i64 i] 3) (vlC 0 0 0 ⟨#[]⟩) 23
  generalize restE a i = E at HC ⊢
  have HR : Hid ((if E = 0 then restV a i else tkV 0 0 0 ⟨#[]⟩ 0) = tkV (if E = 0 then a.k else 0) 0 0 (if E = 0 then bsz (restL a i) else ⟨#[]⟩) (orI E (restC a i))) := by
    show _ = _
    unfold orI; split <;> rfl
  have HV : Hid (restV a i = tkV a.k 0 0 (bsz (restL a i)) (restC a i)) := Lib.hid rfl
  unfold orV
  generalize (if E = 0 then a.k else 0) = K at HR ⊢
  generalize (if E = 0 then bsz (restL a i) else ⟨#[]⟩) = L at HR ⊢
  generalize orI E (restC a i) = C at HR ⊢
  go_enter Try.func12, Try.ntmps12
  go_wp2_with (go_at_call 55; refine (bAnsK_any 63 _ E a.k 0 0 _ _ _ (fun W => by kernel_rfl) (fun W hW => by rw [← HV.out]; exact HC.out W hW)).mono ?_; rw [← HV.out, HR.out]; rintro e w1 ⟨rfl, hb1⟩; have Z1 := RZ.keep hb1; obtain ⟨z0, z1, z2, z3⟩ := Z1.four; have f0 := Z1.free 0; have f1 := Z1.free 1; have f2 := Z1.free 2; have f3 := Z1.free 3; have lz := Z1.lt)
  have n1 : ¬ w.heap.size + 1 + 1 = w1.heap.size := by omega
  have n2 : ¬ w1.heap.size = w.heap.size + 1 + 1 := by omega
  go_region
  go_wp2
  refine bodyPost_ret (v := .tuple #[vlV K 0 0 L, .int .i64 C, .int .i64 E]) (by simp [results, Try.results12, go_sem, z0, z1, z2, z3, lz]) rfl ⟨rfl, ?_⟩
  have B1 : Below w.heap.size w w1 := below_then (by go_grown) hb1 (by simp <;> omega)
  have z5 := B1.size
  refine Below.drew ?_
  refine Below.alloc ?_ (by simp; omega) _
  (repeat refine Below.setCell ?_ (by simp <;> omega) _)
  exact B1

set_option maxRecDepth 100000 in
set_option maxHeartbeats 4000000 in
theorem rRest_any (a : Vl) (i : Int) (w : World) (hs : a.s.size ≤ maxLen) :
    Calls Try.prog 13 #[a.v, .int .i64 i] w fun e w' => e = .returned (.tuple #[orV (restE a i) a.k (restL a i), .int .i64 (orI (restE a i) (restC a i)), .int .i64 (restE a i)]) ∧ Below w.heap.size w w' := by
  have RA := (Row.new w (vlC a.k a.n a.q a.s) 23).alloc (.cells (vlC 0 0 0 ⟨#[]⟩) 23)
  have RZ := Row.new2 w (.cells (vlC a.k a.n a.q a.s) 23) (vlC 0 0 0 ⟨#[]⟩) 23
  have HS := Lib.hid hs
  cases ho : a.ok with
  | false =>
    have e : restE a i = 1 := by rw [restE, ho]; rfl
    have HO : Hid (okV a.k a.n a.q a.s.data.toList = false) := Lib.hid ho
    rw [e]
    clear e ho hs
    show Calls _ _ _ _ fun e w' => e = .returned (.tuple #[vlV 0 0 0 ⟨#[]⟩, .int .i64 0, .int .i64 1]) ∧ Below w.heap.size w w'
    go_enter Try.func13, Try.ntmps13
    go_wp2_with (go_at_call 60; refine (rValid_b false _ _ _ _ _ HS.out HO.out).mono ?_; rintro e w1 ⟨rfl, hb1⟩; have B1 := bl_box2 (Below.refl _ w) hb1; have Z1 := RZ.keep hb1; obtain ⟨z0, z1, z2, z3⟩ := Z1.four; have f0 := Z1.free 0; have f1 := Z1.free 1; have f2 := Z1.free 2; have f3 := Z1.free 3)
    refine bodyPost_ret (v := .tuple #[vlV 0 0 0 ⟨#[]⟩, .int .i64 0, .int .i64 1]) (by simp [results, Try.results13, go_sem, z0, z1, z2, z3]) rfl ⟨rfl, ?_⟩
    (repeat refine Below.setCell ?_ (by simp) _)
    exact B1
  | true =>
    have HO : Hid (okV a.k a.n a.q a.s.data.toList = true) := Lib.hid ho
    have la := vl_room2 a ho
    have hv0 := vl_eta2 a ho
    cases hp : plainI i with
    | false =>
      have e : restE a i = 7 := by rw [restE, ho, hp]; rfl
      have HP := Lib.hid hp
      rw [e]
      clear e ho hs hp hv0
      show Calls _ _ _ _ fun e w' => e = .returned (.tuple #[vlV 0 0 0 ⟨#[]⟩, .int .i64 0, .int .i64 7]) ∧ Below w.heap.size w w'
      go_enter Try.func13, Try.ntmps13
      go_wp2_with (first
        | (go_at_call 60; refine (rValid_b true _ _ _ _ _ HS.out HO.out).mono ?_; rintro e w1 ⟨rfl, hb1⟩; have B1 := bl_box2 (Below.refl _ w) hb1; have Z1 := RZ.keep hb1)
        | (go_at_call 61; refine (plain1_any i w1.heap.size 1 _ (Row.new _ _ _).one).mono ?_; rw [HP.out]; rintro e w2 ⟨rfl, rfl⟩; have lz := Z1.lt; obtain ⟨z0, z1, z2, z3⟩ := Z1.four; have f0 := Z1.free 0; have f1 := Z1.free 1; have f2 := Z1.free 2; have f3 := Z1.free 3; have n1 : ¬ w.heap.size + 1 = w1.heap.size := (by omega); have n2 : ¬ w1.heap.size = w.heap.size + 1 := (by omega)))
      refine bodyPost_ret (v := .tuple #[vlV 0 0 0 ⟨#[]⟩, .int .i64 0, .int .i64 7]) (by simp [results, Try.results13, go_sem, z0, z1, z2, z3, lz]) rfl ⟨rfl, ?_⟩
      refine Below.alloc ?_ (by have := B1.size; simp; omega) _
      (repeat refine Below.setCell ?_ (by simp) _)
      exact B1
    | true =>
      have e : restE a i = 0 := by rw [restE, ho, hp]; rfl
      have HP := Lib.hid hp
      have HV := Lib.hid hv0
      obtain ⟨i1, i2⟩ := plain_in hp
      rw [e]
      clear e ho hs hp hv0
      show Calls _ _ _ _ fun e w' => e = .returned (.tuple #[vlV a.k 0 0 (bsz (restL a i)), .int .i64 (restC a i), .int .i64 0]) ∧ Below w.heap.size w w'
      by_cases g1 : i < 1
      · have HX := Lib.hid (rest_low (l := a.s.data.toList) g1)
        have d1 : decide (i < 1) = true := decide_eq_true g1
        go_enter Try.func13, Try.ntmps13
        go_wp2_with (first
          | (go_at_call 60; refine (rValid_b true _ _ _ _ _ HS.out HO.out).mono ?_; rintro e w1 ⟨rfl, hb1⟩; have B1 := bl_box2 (Below.refl _ w) hb1; have Z1 := RZ.keep hb1; have A1 := RA.keep hb1)
          | (go_at_call 61; refine (plain1_any i w1.heap.size 1 _ (Row.new _ _ _).one).mono ?_; rw [HP.out]; rintro e w2 ⟨rfl, rfl⟩; have lz := Z1.lt; have lx := A1.lt; obtain ⟨x0, x1, x2, x3⟩ := A1.four; obtain ⟨z0, z1, z2, z3⟩ := Z1.four; have f0 := Z1.free 0; have f1 := Z1.free 1; have f2 := Z1.free 2; have f3 := Z1.free 3; have n1 : ¬ w.heap.size + 1 = w1.heap.size := (by omega); have n2 : ¬ w1.heap.size = w.heap.size + 1 := (by omega)))
        refine bodyPost_ret (v := .tuple #[vlV a.k a.n a.q a.s, .int .i64 5, .int .i64 0]) (by simp [results, Try.results13, go_sem, z0, z1, z2, z3, lz]) rfl ⟨?_, ?_⟩
        · rw [restL, restC, HX.out.1, HX.out.2, HV.out]
        · refine Below.alloc ?_ (by have := B1.size; simp; omega) _
          (repeat refine Below.setCell ?_ (by simp) _)
          exact B1
      · have d1 : decide (i < 1) = false := decide_eq_false g1
        by_cases g2 : (a.s.size : Int) + 1 < i
        · have HX := Lib.hid (rest_high (l := a.s.data.toList) (i := i) (by rw [lsz]; exact g2))
          have d2 : decide ((a.s.size : Int) + 1 < i) = true := decide_eq_true g2
          have g1' : 1 ≤ i := by omega
          clear g1
          go_enter Try.func13, Try.ntmps13
          go_wp2_with (first
            | (go_at_call 60; refine (rValid_b true _ _ _ _ _ HS.out HO.out).mono ?_; rintro e w1 ⟨rfl, hb1⟩; have B1 := bl_box2 (Below.refl _ w) hb1; have Z1 := RZ.keep hb1; have A1 := RA.keep hb1)
            | (go_at_call 61; refine (plain1_any i w1.heap.size 1 _ (Row.new _ _ _).one).mono ?_; rw [HP.out]; rintro e w2 ⟨rfl, rfl⟩; have lx := A1.lt; obtain ⟨x0, x1, x2, x3⟩ := A1.four)
            | (go_at_call 62; refine (made_any _ _ _).mono ?_; rintro e w3 ⟨rfl, hb3⟩; have Z3 := (Z1.alloc _).keep hb3; have B3 := bl_box B1 hb3; obtain ⟨z0, z1, z2, z3⟩ := Z3.four; have f0 := Z3.free 0; have f1 := Z3.free 1; have f2 := Z3.free 2; have f3 := Z3.free 3))
          refine bodyPost_ret (v := .tuple #[vlV a.k 0 0 ⟨#[]⟩, .int .i64 5, .int .i64 0]) (by simp [results, Try.results13, go_sem, z0, z1, z2, z3]) rfl ⟨?_, ?_⟩
          · rw [restL, restC, HX.out.1, HX.out.2]
          · (repeat refine Below.setCell ?_ (by simp) _)
            exact B3
        · have g1' : 1 ≤ i := by omega
          have g2' : i ≤ (a.s.size : Int) + 1 := by omega
          have HX := Lib.hid (rest_mid (l := a.s.data.toList) g1' (by rw [lsz]; exact g2'))
          have d2 : decide ((a.s.size : Int) + 1 < i) = false := decide_eq_false g2
          obtain ⟨N, hN⟩ := Int.eq_ofNat_of_zero_le (show 0 ≤ i - 1 by omega)
          have hN2 : N ≤ a.s.size := by omega
          have hN3 : (i - 1).toNat = N := by omega
          have HD : Hid (a.s.extract N a.s.size = bsz (a.s.data.toList.drop N)) := Lib.hid (ext_drop a.s N hN2)
          have HN := Lib.hid hN3
          have HN0 := Lib.hid hN
          clear g1 g2 hN3 hN
          go_enter Try.func13, Try.ntmps13
          go_wp2_with (first
            | (go_at_call 60; refine (rValid_b true _ _ _ _ _ HS.out HO.out).mono ?_; rintro e w1 ⟨rfl, hb1⟩; have B1 := bl_box2 (Below.refl _ w) hb1; have Z1 := RZ.keep hb1; have A1 := RA.keep hb1)
            | (go_at_call 61; refine (plain1_any i w1.heap.size 1 _ (Row.new _ _ _).one).mono ?_; rw [HP.out]; rintro e w2 ⟨rfl, rfl⟩; have lx := A1.lt; obtain ⟨x0, x1, x2, x3⟩ := A1.four))
          have B2 := Lib.hid (B1.alloc B1.size (.cells #[.int .i64 i] 3))
          have Z2 := Z1.alloc (.cells #[.int .i64 i] 3)
          have A2 := A1.alloc (.cells #[.int .i64 i] 3)
          generalize w1.alloc (.cells #[.int .i64 i] 3) = W at *
          clear hb1 B1 Z1 A1 RA RZ x0 x1 x2 x3 lx
          obtain ⟨x0, x1, x2, x3⟩ := A2.four
          have n1 : ¬ w.heap.size + 1 = w.heap.size := by omega
          have n2 : ¬ w.heap.size = w.heap.size + 1 := by omega
          have hw2 : (0 : Int) ≤ i - 1 := by omega
          have hw2' : (1 : Int) ≤ i := by omega
          have hw3 : i - 1 ≤ a.s.size := by omega
          have hw4 : (i - 1).toNat = N := by have := HN0.out; omega
          have hw1 : IntKind.i64.wrap (i - 1) = i - 1 := IntWalk.i64_in _ (by omega)
          go_region_held3 (fun w' => w'.cell? ⟨w.heap.size, 0, none⟩ = some (.int .i64 a.k) ∧ w'.cell? ⟨w.heap.size, 1, none⟩ = some (.int .i64 a.n) ∧ w'.cell? ⟨w.heap.size, 2, none⟩ = some (.int .i64 a.q) ∧ w'.cell? ⟨w.heap.size, 3, none⟩ = some (.string a.s))
            (first | go_keep | exact A3.four)
            (first
              | (go_at_call 62; refine (made_any _ _ _).mono ?_; rintro e w3 ⟨rfl, hb3⟩; have A3 := A2.keep (bl_drew hb3); have Z3 := Z2.keep (bl_drew hb3); obtain ⟨z0, z1, z2, z3⟩ := Z3.four; have f0 := Z3.free 0; have f1 := Z3.free 1; have f2 := Z3.free 2; have f3 := Z3.free 3))
          go_wp2
          refine bodyPost_ret (v := .tuple #[vlV a.k 0 0 (a.s.extract N a.s.size), .int .i64 0, .int .i64 0]) (by simp [results, Try.results13, go_sem, z0, z1, z2, z3]) rfl ⟨?_, ?_⟩
          · rw [restL, restC, HX.out.1, HX.out.2, HD.out, HN.out]
          · (repeat refine Below.setCell ?_ (by simp) _)
            exact bl_then B2.out (bl_drew hb3)
end Go.Proofs.Ytgoghblfficfpaa
