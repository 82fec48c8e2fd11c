/- Package bits: fitted; Fit. -/
import Derived.Test.YtljbkpnfjgnhnaaDoorBitSub
import Derived.Test.YtljbkpnfjgnhnaaDoorBitTell3
import Derived.Test.YtljbkpnfjgnhnaaDoorBitDem4
namespace Go.Proofs.YtljbkpnfjgnhnaaDoor
open Go.RowKit

set_option maxRecDepth 100000 in
set_option maxHeartbeats 4000000 in
theorem fitted_g (a : Vl) (p q : Int) (N : Nat) (k : Int) (vy : Bool) (pic : ByteArray) (L : Nat) (C : Int) (w : World) (la : a.s.size ≤ 100000) (hk : a.k = 4 ∨ a.k = 5) (hN : N ≤ 100000)
    (hL : L = if vy then min a.s.size N else N) (hC : C = fitC a.s.data.toList N) :
    Calls Tryd.prog 21 #[a.v, tyV k p q N vy pic] w fun e w' => e = .returned (tkV a.k 0 0 (bsz (tellL L (getF a.k a.s.data.toList))) C) ∧ Below w.heap.size w w' := by
  have RS := ((Row.new w (vlC a.k a.n a.q a.s) 23).alloc (.cells #[.int .i64 k, .int .i64 p, .int .i64 q, .int .i64 N, .bool vy, .string pic] 25)).alloc (.cells (tkC 0 0 0 ⟨#[]⟩ 0) 40)
  have RZ := Row.new3 w (.cells (vlC a.k a.n a.q a.s) 23) (.cells #[.int .i64 k, .int .i64 p, .int .i64 q, .int .i64 N, .bool vy, .string pic] 25) (tkC 0 0 0 ⟨#[]⟩ 0) 40
  have HK := Lib.hid hk
  have hL2 : L ≤ 100000 := by rw [hL]; split <;> omega
  unfold fitC at hC
  rw [lsz] at hC
  have n1 : ¬ w.heap.size + 1 + 1 = w.heap.size := by omega
  have n2 : ¬ w.heap.size = w.heap.size + 1 + 1 := by omega
  clear hk
  cases vy with
  | false =>
    rw [if_neg (by decide)] at hL
    subst hL
    by_cases hlt : L < a.s.size
    · rw [if_pos hlt] at hC
      subst hC
      have d1 : decide ((L : Int) < a.s.size) = true := by simp only [decide_eq_true_eq]; omega
      go_enter Tryd.func21, Tryd.ntmps21
      go_wp2
      generalize hw : ((w.alloc (.cells (vlC a.k a.n a.q a.s) 23)).alloc (.cells #[.int .i64 k, .int .i64 p, .int .i64 q, .int .i64 (L : Nat), .bool false, .string pic] 25)).alloc (.cells (tkC 0 0 0 ⟨#[]⟩ 0) 40) = W at *
      have B0 : Hid (Below w.heap.size w W) := by show Below _ _ _; rw [← hw]; go_grown
      clear hw
      obtain ⟨x0, x1, x2, x3⟩ := RS.four
      go_region_held3 (fun w' => w'.cell? ⟨w.heap.size, 0, none⟩ = some (.int .i64 a.k) ∧ w'.cell? ⟨w.heap.size, 1, none⟩ = some (.int .i64 a.n) ∧ w'.cell? ⟨w.heap.size, 2, none⟩ = some (.int .i64 a.q) ∧ w'.cell? ⟨w.heap.size, 3, none⟩ = some (.string a.s))
        (first | go_keep | exact S3.four | exact S2.four)
        (first
          | (go_at_call 42; refine (filled_any _ _ _ _ (L) _ HK.out la).mono ?_; rintro e w2 ⟨fn, cap, rfl, HT, hb2⟩; have S2 := RS.keep (bl_drew hb2); have Z2 := RZ.keep (bl_drew hb2))
          | (go_at_call 34; refine (like_any _ _ _ _ (L) fn cap _ _ hL2 HT).mono ?_; rintro e w3 ⟨rfl, hb3⟩; have S3 := S2.keep hb3; have Z3 := Z2.keep hb3; obtain ⟨z0, z1, z2, z3, z4⟩ := Z3.five; have f0 := Z3.free 0; have f1 := Z3.free 1; have f2 := Z3.free 2; have f3 := Z3.free 3; have f4 := Z3.free 4))
      go_wp2
      refine bodyPost_ret (v := tkV a.k 0 0 (bsz (tellL (L) (getF a.k a.s.data.toList))) 6) (by simp [results, Tryd.results21, go_sem, z0, z1, z2, z3, z4]) rfl ⟨rfl, ?_⟩
      (repeat refine Below.setCell ?_ (by simp <;> omega) _)
      exact bl_then B0.out (bl_then (bl_drew hb2) hb3)
    · rw [if_neg hlt] at hC
      subst hC
      have d1 : decide ((L : Int) < a.s.size) = false := by simp only [decide_eq_false_iff_not]; omega
      go_enter Tryd.func21, Tryd.ntmps21
      go_wp2
      generalize hw : ((w.alloc (.cells (vlC a.k a.n a.q a.s) 23)).alloc (.cells #[.int .i64 k, .int .i64 p, .int .i64 q, .int .i64 (L : Nat), .bool false, .string pic] 25)).alloc (.cells (tkC 0 0 0 ⟨#[]⟩ 0) 40) = W at *
      have B0 : Hid (Below w.heap.size w W) := by show Below _ _ _; rw [← hw]; go_grown
      clear hw
      obtain ⟨x0, x1, x2, x3⟩ := RS.four
      go_region_held3 (fun w' => w'.cell? ⟨w.heap.size, 0, none⟩ = some (.int .i64 a.k) ∧ w'.cell? ⟨w.heap.size, 1, none⟩ = some (.int .i64 a.n) ∧ w'.cell? ⟨w.heap.size, 2, none⟩ = some (.int .i64 a.q) ∧ w'.cell? ⟨w.heap.size, 3, none⟩ = some (.string a.s))
        (first | go_keep | exact S3.four | exact S2.four)
        (first
          | (go_at_call 42; refine (filled_any _ _ _ _ (L) _ HK.out la).mono ?_; rintro e w2 ⟨fn, cap, rfl, HT, hb2⟩; have S2 := RS.keep (bl_drew hb2); have Z2 := RZ.keep (bl_drew hb2))
          | (go_at_call 34; refine (like_any _ _ _ _ (L) fn cap _ _ hL2 HT).mono ?_; rintro e w3 ⟨rfl, hb3⟩; have S3 := S2.keep hb3; have Z3 := Z2.keep hb3; obtain ⟨z0, z1, z2, z3, z4⟩ := Z3.five; have f0 := Z3.free 0; have f1 := Z3.free 1; have f2 := Z3.free 2; have f3 := Z3.free 3; have f4 := Z3.free 4))
      go_wp2
      refine bodyPost_ret (v := tkV a.k 0 0 (bsz (tellL (L) (getF a.k a.s.data.toList))) 0) (by simp [results, Tryd.results21, go_sem, z0, z1, z2, z3, z4]) rfl ⟨rfl, ?_⟩
      (repeat refine Below.setCell ?_ (by simp <;> omega) _)
      exact bl_then B0.out (bl_then (bl_drew hb2) hb3)
  | true =>
    rw [if_pos rfl] at hL
    by_cases hlt : N < a.s.size
    · rw [if_pos hlt] at hC
      subst hC
      rw [Nat.min_eq_right (by omega)] at hL
      subst hL
      have d1 : decide ((L : Int) < a.s.size) = true := by simp only [decide_eq_true_eq]; omega
      have d2 : min (a.s.size : Int) L = L := by omega
      have d3 : (L : Int) ≤ a.s.size := by omega
      go_enter Tryd.func21, Tryd.ntmps21
      go_wp2
      generalize hw : ((w.alloc (.cells (vlC a.k a.n a.q a.s) 23)).alloc (.cells #[.int .i64 k, .int .i64 p, .int .i64 q, .int .i64 (L : Nat), .bool true, .string pic] 25)).alloc (.cells (tkC 0 0 0 ⟨#[]⟩ 0) 40) = W at *
      have B0 : Hid (Below w.heap.size w W) := by show Below _ _ _; rw [← hw]; go_grown
      clear hw
      obtain ⟨x0, x1, x2, x3⟩ := RS.four
      go_region_held3 (fun w' => w'.cell? ⟨w.heap.size, 0, none⟩ = some (.int .i64 a.k) ∧ w'.cell? ⟨w.heap.size, 1, none⟩ = some (.int .i64 a.n) ∧ w'.cell? ⟨w.heap.size, 2, none⟩ = some (.int .i64 a.q) ∧ w'.cell? ⟨w.heap.size, 3, none⟩ = some (.string a.s))
        (first | go_keep | exact S3.four | exact S2.four)
        (first
          | (go_at_call 42; refine (filled_any _ _ _ _ (L) _ HK.out la).mono ?_; rintro e w2 ⟨fn, cap, rfl, HT, hb2⟩; have S2 := RS.keep (bl_drew hb2); have Z2 := RZ.keep (bl_drew hb2))
          | (go_at_call 34; refine (like_any _ _ _ _ (L) fn cap _ _ hL2 HT).mono ?_; rintro e w3 ⟨rfl, hb3⟩; have S3 := S2.keep hb3; have Z3 := Z2.keep hb3; obtain ⟨z0, z1, z2, z3, z4⟩ := Z3.five; have f0 := Z3.free 0; have f1 := Z3.free 1; have f2 := Z3.free 2; have f3 := Z3.free 3; have f4 := Z3.free 4))
      go_wp2
      refine bodyPost_ret (v := tkV a.k 0 0 (bsz (tellL (L) (getF a.k a.s.data.toList))) 6) (by simp [results, Tryd.results21, go_sem, z0, z1, z2, z3, z4]) rfl ⟨rfl, ?_⟩
      (repeat refine Below.setCell ?_ (by simp <;> omega) _)
      exact bl_then B0.out (bl_then (bl_drew hb2) hb3)
    · rw [if_neg hlt] at hC
      subst hC
      rw [Nat.min_eq_left (by omega)] at hL
      subst hL
      have d1 : decide ((N : Int) < a.s.size) = false := by simp only [decide_eq_false_iff_not]; omega
      have d2 : min (a.s.size : Int) N = a.s.size := by omega
      have d3 : (a.s.size : Int) ≤ N := by omega
      go_enter Tryd.func21, Tryd.ntmps21
      go_wp2
      generalize hw : ((w.alloc (.cells (vlC a.k a.n a.q a.s) 23)).alloc (.cells #[.int .i64 k, .int .i64 p, .int .i64 q, .int .i64 (N : Nat), .bool true, .string pic] 25)).alloc (.cells (tkC 0 0 0 ⟨#[]⟩ 0) 40) = W at *
      have B0 : Hid (Below w.heap.size w W) := by show Below _ _ _; rw [← hw]; go_grown
      clear hw
      obtain ⟨x0, x1, x2, x3⟩ := RS.four
      go_region_held3 (fun w' => w'.cell? ⟨w.heap.size, 0, none⟩ = some (.int .i64 a.k) ∧ w'.cell? ⟨w.heap.size, 1, none⟩ = some (.int .i64 a.n) ∧ w'.cell? ⟨w.heap.size, 2, none⟩ = some (.int .i64 a.q) ∧ w'.cell? ⟨w.heap.size, 3, none⟩ = some (.string a.s))
        (first | go_keep | exact S3.four | exact S2.four)
        (first
          | (go_at_call 42; refine (filled_any _ _ _ _ (a.s.size) _ HK.out la).mono ?_; rintro e w2 ⟨fn, cap, rfl, HT, hb2⟩; have S2 := RS.keep (bl_drew hb2); have Z2 := RZ.keep (bl_drew hb2))
          | (go_at_call 34; refine (like_any _ _ _ _ (a.s.size) fn cap _ _ hL2 HT).mono ?_; rintro e w3 ⟨rfl, hb3⟩; have S3 := S2.keep hb3; have Z3 := Z2.keep hb3; obtain ⟨z0, z1, z2, z3, z4⟩ := Z3.five; have f0 := Z3.free 0; have f1 := Z3.free 1; have f2 := Z3.free 2; have f3 := Z3.free 3; have f4 := Z3.free 4))
      go_wp2
      refine bodyPost_ret (v := tkV a.k 0 0 (bsz (tellL (a.s.size) (getF a.k a.s.data.toList))) 0) (by simp [results, Tryd.results21, go_sem, z0, z1, z2, z3, z4]) rfl ⟨rfl, ?_⟩
      (repeat refine Below.setCell ?_ (by simp <;> omega) _)
      exact bl_then B0.out (bl_then (bl_drew hb2) hb3)

theorem fitted_any (a : Vl) (p q : Int) (N : Nat) (k : Int) (vy : Bool) (pic : ByteArray) (w : World) (la : a.s.size ≤ 100000) (hk : a.k = 4 ∨ a.k = 5) (hN : N ≤ 100000) :
    Calls Tryd.prog 21 #[a.v, tyV k p q N vy pic] w fun e w' => e = .returned (tkV a.k 0 0 (bsz (fitL a.k a.s.data.toList N vy)) (fitC a.s.data.toList N)) ∧ Below w.heap.size w w' := by
  have := fitted_g a p q N k vy pic _ _ w la hk hN rfl rfl
  unfold fitL
  rw [lsz]
  exact this

/-- The error of Fit. -/
def fitE (a : Vl) (k p q n : Int) (pic : List UInt8) : Int := if okY k p q n pic then (if a.ok then (if a.is k then 0 else 10) else 1) else 1
theorem fitE_ok {a : Vl} {k p q n : Int} {pic : List UInt8} (h : fitE a k p q n pic = 0) : okY k p q n pic = true ∧ a.ok = true ∧ a.k = k := by
  unfold fitE at h
  split at h
  · rename_i h1
    split at h
    · rename_i h2
      split at h
      · rename_i h3; exact ⟨h1, h2, by simpa [Vl.is] using h3⟩
      · cases h
    · cases h
  · cases h
theorem okY_len {k p q n : Int} {pic : List UInt8} (h : okY k p q n pic = true) : 0 ≤ n ∧ n ≤ 250 := by
  simp only [okY, Bool.and_eq_true, decide_eq_true_eq] at h
  exact ⟨h.1.1.2, h.1.2⟩
theorem fitting_any (a : Vl) (k p q n : Int) (vy : Bool) (pic : ByteArray) (w : World) (hs : a.s.size ≤ maxLen) :
    Calls Tryd.prog 20 #[a.v, tyV k p q n vy pic] w fun e w' => e = outE (fitE a k p q n pic.data.toList) (.tuple #[]) ∧ Below w.heap.size w w' := by
  obtain ⟨ka, na, qa, sa⟩ := a
  cases ht : okY k p q n pic.data.toList with
  | false =>
    have e : fitE ⟨ka, na, qa, sa⟩ k p q n pic.data.toList = 1 := by rw [fitE, ht]; rfl
    rw [e]; exact fitting_1 ka na qa sa k p q n vy pic w ht
  | true =>
    cases hv : (Vl.mk ka na qa sa).ok with
    | false =>
      have e : fitE ⟨ka, na, qa, sa⟩ k p q n pic.data.toList = 1 := by rw [fitE, ht, hv]; rfl
      rw [e]; exact fitting_no1 ka na qa sa k p q n vy pic w hs ht hv
    | true =>
      cases hk : (Vl.mk ka na qa sa).is k with
      | false =>
        have e : fitE ⟨ka, na, qa, sa⟩ k p q n pic.data.toList = 10 := by rw [fitE, ht, hv, hk]; rfl
        rw [e]; exact fitting_no10 ka na qa sa k p q n vy pic w hs ht hv (by simpa [Vl.is] using hk)
      | true =>
        have e : fitE ⟨ka, na, qa, sa⟩ k p q n pic.data.toList = 0 := by rw [fitE, ht, hv, hk]; rfl
        rw [e]; exact fitting_yes ka na qa sa k p q n vy pic w hs ht hv (by simpa [Vl.is] using hk)
def fitV (a : Vl) (n : Int) (vy : Bool) : Value := tkV a.k 0 0 (bsz (fitL a.k a.s.data.toList n.toNat vy)) (fitC a.s.data.toList n.toNat)
abbrev tyC (k p q n : Int) (vy : Bool) (pic : ByteArray) : Array Value := #[.int .i64 k, .int .i64 p, .int .i64 q, .int .i64 n, .bool vy, .string pic]

set_option maxRecDepth 100000 in
set_option maxHeartbeats 2000000 in
theorem cFit_any (a : Vl) (k p q n : Int) (vy : Bool) (pic : ByteArray) (bs bt : Nat) (w : World) (hS : Row w bs (vlC a.k a.n a.q a.s) 23) (hT : Row w bt (tyC k p q n vy pic) 25) (hs : a.s.size ≤ maxLen) :
    Calls Tryd.prog 19 #[ptr bs, ptr bt] w fun e w' => e = outE (fitE a k p q n pic.data.toList) (fitV a n vy) ∧ Below w.heap.size w w' := by
  have RZ := Row.new w (tkC 0 0 0 ⟨#[]⟩ 0) 40
  have RS := hS.alloc (.cells (tkC 0 0 0 ⟨#[]⟩ 0) 40)
  have RT := hT.alloc (.cells (tkC 0 0 0 ⟨#[]⟩ 0) 40)
  have HS := Lib.hid hs
  have ls := hS.lt; have lt := hT.lt
  obtain ⟨x0, x1, x2, x3⟩ := hS.four
  obtain ⟨y0, y1, y2, y3, y4, y5⟩ := hT.six
  clear hs
  by_cases h0 : fitE a k p q n pic.data.toList = 0
  · obtain ⟨ot, oa, ok⟩ := fitE_ok h0
    obtain ⟨l0, l1⟩ := okY_len ot
    have la := Lib.hid (vl_le oa)
    have HK := Lib.hid (okT_kind (okV_eq oa).2.2)
    have HE := Lib.hid h0
    rw [h0]
    clear ot oa ok h0
    obtain ⟨N, rfl⟩ := Int.eq_ofNat_of_zero_le l0
    show Calls _ _ _ _ fun e w' => e = .returned (tkV a.k 0 0 (bsz (fitL a.k a.s.data.toList N vy)) (fitC a.s.data.toList N)) ∧ Below w.heap.size w w'
    go_enter Tryd.func19, Tryd.ntmps19
    go_wp2_with (first
      | (go_at_call 20; refine (fitting_any a k p q N vy pic _ HS.out).mono ?_; rw [HE.out]; rintro e w1 ⟨rfl, hb1⟩; have B1 := bl_box (Below.refl _ w) hb1; have S1 := RS.keep hb1; have T1 := RT.keep hb1; have Z1 := RZ.keep hb1; obtain ⟨x0, x1, x2, x3⟩ := S1.four; obtain ⟨y0, y1, y2, y3, y4, y5⟩ := T1.six; have ls := S1.lt; have lt := T1.lt)
      | (go_at_call 21; refine (fitted_any a p q N k vy pic _ la.out HK.out (by omega)).mono ?_; rintro e w3 ⟨rfl, hb3⟩; have B3 := bl_then B1 hb3; have Z3 := Z1.keep hb3; obtain ⟨z0, z1, z2, z3, z4⟩ := Z3.five; have f0 := Z3.free 0; have f1 := Z3.free 1; have f2 := Z3.free 2; have f3 := Z3.free 3; have f4 := Z3.free 4))
    refine bodyPost_ret (v := tkV a.k 0 0 (bsz (fitL a.k a.s.data.toList N vy)) (fitC a.s.data.toList N)) (by simp [results, Tryd.results19, go_sem, z0, z1, z2, z3, z4]) rfl ⟨rfl, ?_⟩
    (repeat refine Below.setCell ?_ (by simp) _)
    exact B3
  · have HE := Lib.hid (outE_no (.tuple #[]) h0)
    rw [outE_no _ h0]
    clear h0
    go_enter Tryd.func19, Tryd.ntmps19
    go_wp2_with (go_at_call 20; refine (fitting_any a k p q n vy pic _ HS.out).mono ?_; rw [HE.out]; rintro e w1 ⟨rfl, hb1⟩; have B1 := bl_box (Below.refl _ w) hb1)
    exact ⟨rfl, rfl, B1⟩

set_option maxRecDepth 100000 in
set_option maxHeartbeats 2000000 in
theorem bFit_any (a : Vl) (k p q n : Int) (vy : Bool) (pic : ByteArray) (w : World) (hs : a.s.size ≤ maxLen) :
    Calls Tryd.prog 6 #[a.v, tyV k p q n vy pic] w fun e w' => e = .returned (.tuple #[orV (fitE a k p q n pic.data.toList) a.k (fitL a.k a.s.data.toList n.toNat vy), .int .i64 (orI (fitE a k p q n pic.data.toList) (fitC a.s.data.toList n.toNat)), .int .i64 (fitE a k p q n pic.data.toList)]) ∧ Below w.heap.size w w' := by
  have hmf : ∀ (fn : Fn) (first cap : Array Value) (w : World), (Instr.makeFunc fn first cap).run Tryd.prog w = .ok (.func fn first cap) w := fun _ _ _ _ => rfl
  have HC : Hid (∀ W, Below (((w.alloc (.cells (vlC a.k a.n a.q a.s) 23)).alloc (.cells (tyC k p q n vy pic) 25)).alloc (.cells (vlC 0 0 0 ⟨#[]⟩) 23)).heap.size (((w.alloc (.cells (vlC a.k a.n a.q a.s) 23)).alloc (.cells (tyC k p q n vy pic) 25)).alloc (.cells (vlC 0 0 0 ⟨#[]⟩) 23)) W → Calls Tryd.prog 19 #[ptr w.heap.size, ptr (w.heap.size + 1)] W fun e w' => e = outE (fitE a k p q n pic.data.toList) (fitV a n vy) ∧ Below W.heap.size W w') := by
    show ∀ _, _
    intro W hW
    exact cFit_any a k p q n vy pic _ _ W ((((Row.new _ _ _).alloc _).alloc _).keep hW) (((Row.new2 _ _ _ _).alloc _).keep hW) hs
  have RZ := Row.new3 w (.cells (vlC a.k a.n a.q a.s) 23) (.cells (tyC k p q n vy pic) 25) (vlC 0 0 0 ⟨#[]⟩) 23
  generalize fitE a k p q n pic.data.toList = E at HC ⊢
  have HR : Hid ((if E = 0 then fitV a n vy else tkV 0 0 0 ⟨#[]⟩ 0) = tkV (if E = 0 then a.k else 0) 0 0 (if E = 0 then bsz (fitL a.k a.s.data.toList n.toNat vy) else ⟨#[]⟩) (orI E (fitC a.s.data.toList n.toNat))) := by
    show _ = _
    unfold orI; split <;> rfl
  have HV : Hid (fitV a n vy = tkV a.k 0 0 (bsz (fitL a.k a.s.data.toList n.toNat vy)) (fitC a.s.data.toList n.toNat)) := Lib.hid rfl
  unfold orV
  generalize (if E = 0 then a.k else 0) = K at HR ⊢
  generalize (if E = 0 then bsz (fitL a.k a.s.data.toList n.toNat vy) else ⟨#[]⟩) = L at HR ⊢
  generalize orI E (fitC a.s.data.toList n.toNat) = C at HR ⊢
  go_enter Tryd.func6, Tryd.ntmps6
  go_wp2_with (go_at_call 18; refine (bAnsK_any 19 _ E a.k 0 0 _ _ _ (fun W => by kernel_rfl) (fun W hW => by rw [← HV.out]; exact HC.out W hW)).mono ?_; rw [← HV.out, HR.out]; rintro e w1 ⟨rfl, hb1⟩; have Z1 := RZ.keep hb1; obtain ⟨z0, z1, z2, z3⟩ := Z1.four; have f0 := Z1.free 0; have f1 := Z1.free 1; have f2 := Z1.free 2; have f3 := Z1.free 3; have lz := Z1.lt)
  have n1 : ¬ w.heap.size + 1 + 1 = w1.heap.size := by omega
  have n2 : ¬ w1.heap.size = w.heap.size + 1 + 1 := by omega
  go_region
  go_wp2
  refine bodyPost_ret (v := .tuple #[vlV K 0 0 L, .int .i64 C, .int .i64 E]) (by simp [results, Tryd.results6, go_sem, z0, z1, z2, z3, lz]) rfl ⟨rfl, ?_⟩
  have B1 : Below w.heap.size w w1 := below_then (by go_grown) hb1 (by simp <;> omega)
  have z5 := B1.size
  refine Below.drew ?_
  refine Below.alloc ?_ (by simp; omega) _
  (repeat refine Below.setCell ?_ (by simp <;> omega) _)
  exact B1
end Go.Proofs.YtljbkpnfjgnhnaaDoor
