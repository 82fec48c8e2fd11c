/- Package bits: demandKind of one bit string and of two; Some, Every, Not. -/
import Derived.Test.YtgoghblfficfpaaBitDem3
import Derived.Test.YtgoghblfficfpaaBitFitP
import Derived.Test.YtgoghblfficfpaaBitRefE
import Derived.Test.YtgoghblfficfpaaBitLib
namespace Go.Proofs.Ytgoghblfficfpaa
open Go.RowKit

theorem demKind1_any (a : Vl) (bl cap : Nat) (w : World) (hs : a.s.size ≤ maxLen) (hA : VlsAt w bl 0 [a]) (hb : bl < w.heap.size) :
    Calls Try.prog 103 #[.iface 101 (.agg #[]), .slice (some ⟨bl, 0, none⟩) 1 cap] w fun e w' => e = outE (kindE1 5 a) (.tuple #[]) ∧ Below w.heap.size w w' := by
  cases ho : a.ok with
  | false =>
    have e : kindE1 5 a = 1 := by rw [kindE1, ho]; rfl
    rw [e]; exact demKind_1 5 [a] bl 0 cap w hA (by simp) hb (vl1 hs) (by simp [ho])
  | true =>
    cases hk : a.is 5 with
    | false =>
      have e : kindE1 5 a = 10 := by rw [kindE1, ho, hk]; rfl
      rw [e]; exact demKind_10 5 (.inr rfl) [a] bl 0 cap w hA (by simp) hb (vl1 hs) (vl1 ho) (by simp [hk])
    | true =>
      have e : kindE1 5 a = 0 := by rw [kindE1, ho, hk]; rfl
      rw [e]; exact demKind_yes 5 (.inr rfl) [a] bl 0 cap w hA (by simp) hb (vl1 hs) (vl1 ho) (vl1 hk)

theorem demKind2_any (a b : Vl) (bl cap : Nat) (w : World) (hs : a.s.size ≤ maxLen) (hs' : b.s.size ≤ maxLen) (hA : VlsAt w bl 0 [a, b]) (hb : bl < w.heap.size) :
    Calls Try.prog 103 #[.iface 101 (.agg #[]), .slice (some ⟨bl, 0, none⟩) 2 cap] w fun e w' => e = outE (kindE2 5 a b) (.tuple #[]) ∧ Below w.heap.size w w' := by
  cases ho : (a.ok && b.ok) with
  | false =>
    have e : kindE2 5 a b = 1 := by rw [kindE2, ho]; rfl
    rw [e]; exact demKind_1 5 [a, b] bl 0 cap w hA (by simp) hb (vl2 hs hs') (by
      intro h
      have h1 := h a (by simp)
      have h2 := h b (by simp)
      rw [h1, h2] at ho; cases ho)
  | true =>
    have hab : a.ok = true ∧ b.ok = true := by simpa using ho
    cases hk : (a.is 5 && b.is 5) with
    | false =>
      have e : kindE2 5 a b = 10 := by rw [kindE2, ho, hk]; rfl
      rw [e]; exact demKind_10 5 (.inr rfl) [a, b] bl 0 cap w hA (by simp) hb (vl2 hs hs') (vl2 hab.1 hab.2) (by
        intro h
        have h1 := h a (by simp)
        have h2 := h b (by simp)
        rw [h1, h2] at hk; cases hk)
    | true =>
      have hkk : a.is 5 = true ∧ b.is 5 = true := by simpa using hk
      have e : kindE2 5 a b = 0 := by rw [kindE2, ho, hk]; rfl
      rw [e]; exact demKind_yes 5 (.inr rfl) [a, b] bl 0 cap w hA (by simp) hb (vl2 hs hs') (vl2 hab.1 hab.2) (vl2 hkk.1 hkk.2)

def someB (a : Vl) : Bool := a.s.data.toList.contains 49
def zeroB (a : Vl) : Bool := a.s.data.toList.contains 48
def everyB (a : Vl) : Bool := !zeroB a

set_option maxRecDepth 100000 in
set_option maxHeartbeats 2000000 in
theorem cSome_any (a : Vl) (bs : Nat) (w : World) (hS : Row w bs (vlC a.k a.n a.q a.s) 23) (hs : a.s.size ≤ maxLen) :
    Calls Try.prog 113 #[ptr bs] w fun e w' => e = outE (kindE1 5 a) (.bool (someB a)) ∧ Below w.heap.size w w' := by
  obtain ⟨x0, x1, x2, x3⟩ := hS.four
  have ls := hS.lt
  have H1 := Lib.hid hs
  clear hs
  by_cases h0 : kindE1 5 a = 0
  · obtain ⟨oa, ok⟩ := kindE1_ok h0
    have la := Lib.hid (vl_le oa)
    have HE := Lib.hid h0
    rw [h0]
    clear oa ok h0
    show Calls _ _ _ _ fun e w' => e = .returned (.bool (someB a)) ∧ Below w.heap.size w w'
    have HV : Hid (a.s.data.toList.contains 49 = someB a) := Lib.hid rfl
    go_enter Try.func113, Try.ntmps113
    go_wp2_with (first
      | (go_at_call 103; refine (demKind1_any a w.heap.size 1 _ H1.out (VlsAt.one (Row.new _ _ _)) (by simp)).mono ?_; rw [HE.out, outE_ok]; rintro e w1 ⟨rfl, hb1⟩; have B1 := Lib.hid (bl_box (Below.refl _ w) hb1); have S1 := (hS.alloc _).keep hb1; obtain ⟨x0, x1, x2, x3⟩ := S1.four; have ls := S1.lt)
      | (go_at_call 114; refine (contains1 a.s 49 _ la.out).mono ?_; rw [HV.out]; rintro e w2 ⟨rfl, rfl⟩))
    go_ret
    exact ⟨rfl, B1.out⟩
  · have HE := Lib.hid (outE_no (.tuple #[]) h0)
    rw [outE_no _ h0]
    clear h0
    go_enter Try.func113, Try.ntmps113
    go_wp2_with (go_at_call 103; refine (demKind1_any a w.heap.size 1 _ H1.out (VlsAt.one (Row.new _ _ _)) (by simp)).mono ?_; rw [HE.out]; rintro e w1 ⟨rfl, hb1⟩; have B1 := Lib.hid (bl_box (Below.refl _ w) hb1))
    exact ⟨rfl, rfl, B1.out⟩
set_option maxHeartbeats 1000000 in
theorem bSome_any (a : Vl) (w : World) (hs : a.s.size ≤ maxLen) :
    Calls Try.prog 46 #[a.v] w fun e w' => e = .returned (.tuple #[.bool (decide (kindE1 5 a = 0) && someB a), .int .i64 (kindE1 5 a)]) ∧ Below w.heap.size w w' := by
  have hmf : ∀ (fn : Fn) (first cap : Array Value) (w : World), (Instr.makeFunc fn first cap).run Try.prog w = .ok (.func fn first cap) w := fun _ _ _ _ => rfl
  have H1 := Lib.hid hs
  clear hs
  have HC : Hid (∀ W, Below (w.heap.size + 1) (w.alloc (.cells (vlC a.k a.n a.q a.s) 23)) W → Calls Try.prog 113 #[ptr w.heap.size] W fun e w' => e = outE (kindE1 5 a) (.bool (someB a)) ∧ Below W.heap.size W w') := by
    show ∀ _, _
    intro W hW
    exact cSome_any a _ W ((Row.new _ _ _).keep (by simpa using hW)) H1.out
  generalize kindE1 5 a = E at HC ⊢
  generalize someB a = V at HC ⊢
  have HR : Hid ((if E = 0 then (.bool V : Value) else .bool false) = .bool (decide (E = 0) && V)) := by show _ = _; split <;> simp [*]
  generalize (decide (E = 0) && V) = R at HR ⊢
  go_enter Try.func46, Try.ntmps46
  go_wp2_with (go_at_call 112; refine (bAnsB_any 113 _ E V _ (fun W => by kernel_rfl) (fun W hW => HC.out W (by simpa using hW))).mono ?_; rw [HR.out]; rintro e w1 ⟨rfl, hb1⟩)
  go_ret2
  exact ⟨rfl, bl_box (Below.refl _ w) hb1⟩

set_option maxRecDepth 100000 in
set_option maxHeartbeats 2000000 in
theorem cEvery_any (a : Vl) (bs : Nat) (w : World) (hS : Row w bs (vlC a.k a.n a.q a.s) 23) (hs : a.s.size ≤ maxLen) :
    Calls Try.prog 115 #[ptr bs] w fun e w' => e = outE (kindE1 5 a) (.bool (everyB a)) ∧ Below w.heap.size w w' := by
  obtain ⟨x0, x1, x2, x3⟩ := hS.four
  have ls := hS.lt
  have H1 := Lib.hid hs
  clear hs
  by_cases h0 : kindE1 5 a = 0
  · obtain ⟨oa, ok⟩ := kindE1_ok h0
    have la := Lib.hid (vl_le oa)
    have HE := Lib.hid h0
    rw [h0]
    clear oa ok h0
    show Calls _ _ _ _ fun e w' => e = .returned (.bool (everyB a)) ∧ Below w.heap.size w w'
    have HV : Hid (a.s.data.toList.contains 48 = zeroB a) := Lib.hid rfl
    go_enter Try.func115, Try.ntmps115
    go_wp2_with (first
      | (go_at_call 103; refine (demKind1_any a w.heap.size 1 _ H1.out (VlsAt.one (Row.new _ _ _)) (by simp)).mono ?_; rw [HE.out, outE_ok]; rintro e w1 ⟨rfl, hb1⟩; have B1 := Lib.hid (bl_box (Below.refl _ w) hb1); have S1 := (hS.alloc _).keep hb1; obtain ⟨x0, x1, x2, x3⟩ := S1.four; have ls := S1.lt)
      | (go_at_call 114; refine (contains1 a.s 48 _ la.out).mono ?_; rw [HV.out]; rintro e w2 ⟨rfl, rfl⟩))
    go_ret
    exact ⟨rfl, B1.out⟩
  · have HE := Lib.hid (outE_no (.tuple #[]) h0)
    rw [outE_no _ h0]
    clear h0
    go_enter Try.func115, Try.ntmps115
    go_wp2_with (go_at_call 103; refine (demKind1_any a w.heap.size 1 _ H1.out (VlsAt.one (Row.new _ _ _)) (by simp)).mono ?_; rw [HE.out]; rintro e w1 ⟨rfl, hb1⟩; have B1 := Lib.hid (bl_box (Below.refl _ w) hb1))
    exact ⟨rfl, rfl, B1.out⟩
set_option maxHeartbeats 1000000 in
theorem bEvery_any (a : Vl) (w : World) (hs : a.s.size ≤ maxLen) :
    Calls Try.prog 48 #[a.v] w fun e w' => e = .returned (.tuple #[.bool (decide (kindE1 5 a = 0) && everyB a), .int .i64 (kindE1 5 a)]) ∧ Below w.heap.size w w' := by
  have hmf : ∀ (fn : Fn) (first cap : Array Value) (w : World), (Instr.makeFunc fn first cap).run Try.prog w = .ok (.func fn first cap) w := fun _ _ _ _ => rfl
  have H1 := Lib.hid hs
  clear hs
  have HC : Hid (∀ W, Below (w.heap.size + 1) (w.alloc (.cells (vlC a.k a.n a.q a.s) 23)) W → Calls Try.prog 115 #[ptr w.heap.size] W fun e w' => e = outE (kindE1 5 a) (.bool (everyB a)) ∧ Below W.heap.size W w') := by
    show ∀ _, _
    intro W hW
    exact cEvery_any a _ W ((Row.new _ _ _).keep (by simpa using hW)) H1.out
  generalize kindE1 5 a = E at HC ⊢
  generalize everyB a = V at HC ⊢
  have HR : Hid ((if E = 0 then (.bool V : Value) else .bool false) = .bool (decide (E = 0) && V)) := by show _ = _; split <;> simp [*]
  generalize (decide (E = 0) && V) = R at HR ⊢
  go_enter Try.func48, Try.ntmps48
  go_wp2_with (go_at_call 112; refine (bAnsB_any 115 _ E V _ (fun W => by kernel_rfl) (fun W hW => HC.out W (by simpa using hW))).mono ?_; rw [HR.out]; rintro e w1 ⟨rfl, hb1⟩)
  go_ret2
  exact ⟨rfl, bl_box (Below.refl _ w) hb1⟩

theorem notL_tell (s : ByteArray) : notL s.data.toList = tellL s.size (fun i => if getF 5 s.data.toList i = 48 then 49 else 48) := by unfold notL; rw [lsz]
set_option maxRecDepth 100000 in
set_option maxHeartbeats 4000000 in
theorem cNot_any (a : Vl) (bs : Nat) (w : World) (hS : Row w bs (vlC a.k a.n a.q a.s) 23) (hs : a.s.size ≤ maxLen) :
    Calls Try.prog 110 #[ptr bs] w fun e w' => e = outE (kindE1 5 a) (vlV 5 0 0 (bsz (notL a.s.data.toList))) ∧ Below w.heap.size w w' := by
  obtain ⟨x0, x1, x2, x3⟩ := hS.four
  have ls := hS.lt
  have RZ := Row.new w (vlC 0 0 0 ⟨#[]⟩) 23
  have RS := hS.alloc (.cells (vlC 0 0 0 ⟨#[]⟩) 23)
  have H1 := Lib.hid hs
  clear hs
  by_cases h0 : kindE1 5 a = 0
  · obtain ⟨oa, ok⟩ := kindE1_ok h0
    have la := vl_le oa
    have HE := Lib.hid h0
    rw [h0, ← ok, notL_tell]
    clear oa ok h0
    have n1 : ¬ bs = w.heap.size := by omega
    have n2 : ¬ w.heap.size = bs := by omega
    show Calls _ _ _ _ fun e w' => e = .returned (vlV a.k 0 0 (bsz (tellL a.s.size (fun i => if getF 5 a.s.data.toList i = 48 then 49 else 48)))) ∧ Below w.heap.size w w'
    go_enter Try.func110, Try.ntmps110
    go_wp2_with (go_at_call 103; refine (demKind1_any a (w.heap.size + 1) 1 _ H1.out (VlsAt.one (Row.new2 _ _ _ _)) (by simp)).mono ?_; rw [HE.out, outE_ok]; rintro e w1 ⟨rfl, hb1⟩; have B1 := Lib.hid (bl_box2 (Below.refl _ w) hb1); have S1 := (RS.alloc _).keep hb1; have Z1 := (RZ.alloc _).keep hb1; obtain ⟨x0, x1, x2, x3⟩ := S1.four; have ls := S1.lt; clear hb1)
    go_region_held3 (fun w' => w'.cell? ⟨bs, 0, none⟩ = some (.int .i64 a.k) ∧ w'.cell? ⟨bs, 1, none⟩ = some (.int .i64 a.n) ∧ w'.cell? ⟨bs, 2, none⟩ = some (.int .i64 a.q) ∧ w'.cell? ⟨bs, 3, none⟩ = some (.string a.s))
      (first | go_keep | exact S3.four | exact S2.four)
      (first
        | (go_at_call 111; refine (turned_any _ _ _ _ _ la).mono ?_; rintro e w2 ⟨fn, cap, rfl, HT, hb2⟩; have S2 := S1.keep (bl_drew hb2); have Z2 := Z1.keep (bl_drew hb2))
        | (go_at_call 87; refine (like_any _ _ _ _ a.s.size fn cap _ _ la HT).mono ?_; rintro e w3 ⟨rfl, hb3⟩; have S3 := S2.keep hb3; have Z3 := Z2.keep hb3; obtain ⟨z0, z1, z2, z3⟩ := Z3.four; have f0 := Z3.free 0; have f1 := Z3.free 1; have f2 := Z3.free 2; have f3 := Z3.free 3))
    go_wp2
    refine bodyPost_ret (v := vlV a.k 0 0 (bsz (tellL a.s.size (fun i => if getF 5 a.s.data.toList i = 48 then 49 else 48)))) (by simp [results, Try.results110, go_sem, z0, z1, z2, z3]) rfl ⟨rfl, ?_⟩
    (repeat refine Below.setCell ?_ (by simp <;> omega) _)
    exact bl_then B1.out (bl_then (bl_drew hb2) hb3)
  · have HE := Lib.hid (outE_no (.tuple #[]) h0)
    rw [outE_no _ h0]
    clear h0
    go_enter Try.func110, Try.ntmps110
    go_wp2_with (go_at_call 103; refine (demKind1_any a (w.heap.size + 1) 1 _ H1.out (VlsAt.one (Row.new2 _ _ _ _)) (by simp)).mono ?_; rw [HE.out]; rintro e w1 ⟨rfl, hb1⟩; have B1 := Lib.hid (bl_box2 (Below.refl _ w) hb1))
    exact ⟨rfl, rfl, B1.out⟩

set_option maxRecDepth 100000 in
set_option maxHeartbeats 2000000 in
theorem bNot_any (a : Vl) (w : World) (hs : a.s.size ≤ maxLen) :
    Calls Try.prog 44 #[a.v] w fun e w' => e = .returned (.tuple #[orV (kindE1 5 a) 5 (notL a.s.data.toList), .int .i64 (kindE1 5 a)]) ∧ Below w.heap.size w w' := by
  have hmf : ∀ (fn : Fn) (first cap : Array Value) (w : World), (Instr.makeFunc fn first cap).run Try.prog w = .ok (.func fn first cap) w := fun _ _ _ _ => rfl
  have H1 := Lib.hid hs
  clear hs
  have HC : Hid (∀ W, Below ((w.alloc (.cells (vlC a.k a.n a.q a.s) 23)).alloc (.cells (vlC 0 0 0 ⟨#[]⟩) 23)).heap.size ((w.alloc (.cells (vlC a.k a.n a.q a.s) 23)).alloc (.cells (vlC 0 0 0 ⟨#[]⟩) 23)) W → Calls Try.prog 110 #[ptr w.heap.size] W fun e w' => e = outE (kindE1 5 a) (vlV 5 0 0 (bsz (notL a.s.data.toList))) ∧ Below W.heap.size W w') := by
    show ∀ _, _
    intro W hW
    exact cNot_any a _ W (((Row.new _ _ _).alloc _).keep hW) H1.out
  have RZ := Row.new2 w (.cells (vlC a.k a.n a.q a.s) 23) (vlC 0 0 0 ⟨#[]⟩) 23
  generalize kindE1 5 a = E at HC ⊢
  have HR : Hid ((if E = 0 then vlV 5 0 0 (bsz (notL a.s.data.toList)) else vlV 0 0 0 ⟨#[]⟩) = vlV (if E = 0 then 5 else 0) 0 0 (if E = 0 then bsz (notL a.s.data.toList) else ⟨#[]⟩)) := by
    show _ = _
    split <;> rfl
  unfold orV
  generalize (if E = 0 then (5 : Int) else 0) = K at HR ⊢
  generalize (if E = 0 then bsz (notL a.s.data.toList) else ⟨#[]⟩) = L at HR ⊢
  go_enter Try.func44, Try.ntmps44
  go_wp2_with (go_at_call 85; refine (bAnsV_any 110 _ E 5 0 0 _ _ (fun W => by kernel_rfl) HC.out).mono ?_; rw [HR.out]; rintro e w1 ⟨rfl, hb1⟩; have Z1 := RZ.keep hb1; obtain ⟨z0, z1, z2, z3⟩ := Z1.four; have f0 := Z1.free 0; have f1 := Z1.free 1; have f2 := Z1.free 2; have f3 := Z1.free 3; have lz := Z1.lt)
  refine bodyPost_ret (v := .tuple #[vlV K 0 0 L, .int .i64 E]) (by simp [results, Try.results44, go_sem, z0, z1, z2, z3]) rfl ⟨rfl, ?_⟩
  (repeat refine Below.setCell ?_ (by simp <;> omega) _)
  exact below_then (by go_grown) hb1 (by simp <;> omega)
end Go.Proofs.Ytgoghblfficfpaa
