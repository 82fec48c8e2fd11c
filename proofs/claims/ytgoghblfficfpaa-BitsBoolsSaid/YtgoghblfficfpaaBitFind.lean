/- Package bits: Index, Tally, Verify, Search. -/
import Derived.Test.YtgoghblfficfpaaBitAlike
import Derived.Test.YtgoghblfficfpaaBitAsk
namespace Go.Proofs.Ytgoghblfficfpaa
open Go.RowKit

theorem vl_le {a : Vl} (h : a.ok = true) : a.s.size ≤ 100000 := by
  have := okT_len (okV_eq h).2.2; rw [lsz] at this; omega


def indexV (a b : Vl) : Int := leastN (begsP a.s.data.toList b.s.data.toList) a.s.size
set_option maxRecDepth 100000 in
set_option maxHeartbeats 2000000 in
theorem cIndex_any (a b : Vl) (bs bt : Nat) (w : World) (hS : Row w bs (vlC a.k a.n a.q a.s) 23) (hT : Row w bt (vlC b.k b.n b.q b.s) 23) (hs : a.s.size ≤ maxLen) (hs' : b.s.size ≤ maxLen) :
    Calls Try.prog 74 #[ptr bs, ptr bt] w fun e w' => e = outE (alikeE a b) (.int .i64 (indexV a b)) ∧ Below w.heap.size w w' := by
  obtain ⟨x0, x1, x2, x3⟩ := hS.four
  obtain ⟨y0, y1, y2, y3⟩ := hT.four
  have H1 := Lib.hid hs
  have H2 := Lib.hid hs'
  clear hs hs'
  by_cases h0 : alikeE a b = 0
  · obtain ⟨oa, ob, ok⟩ := alikeE_ok h0
    have la := Lib.hid (vl_le oa)
    have lb := Lib.hid (vl_le ob)
    have HE := Lib.hid h0
    rw [h0]
    clear oa ob ok h0
    show Calls _ _ _ _ fun e w' => e = .returned (.int .i64 (indexV a b)) ∧ Below w.heap.size w w'
    unfold indexV
    go_enter Try.func74, Try.ntmps74
    go_wp2_with (go_at_call 66; refine (demAlike_any a b w.heap.size 1 _ H1.out H2.out (VlsAt.one (Row.new _ _ _)) (by simp)).mono ?_; rw [HE.out]; rintro e w1 ⟨rfl, hb1⟩; have B1 := Lib.hid (bl_box (Below.refl _ w) hb1); have S1 := (hS.alloc _).keep hb1; have T1 := (hT.alloc _).keep hb1; obtain ⟨x0, x1, x2, x3⟩ := S1.four; obtain ⟨y0, y1, y2, y3⟩ := T1.four; have ls := Lib.hid S1.lt; have lt := Lib.hid T1.lt; clear hb1)
    go_region_held3 (fun w' => (w'.cell? ⟨bs, 0, none⟩ = some (.int .i64 a.k) ∧ w'.cell? ⟨bs, 1, none⟩ = some (.int .i64 a.n) ∧ w'.cell? ⟨bs, 2, none⟩ = some (.int .i64 a.q) ∧ w'.cell? ⟨bs, 3, none⟩ = some (.string a.s)) ∧ (w'.cell? ⟨bt, 0, none⟩ = some (.int .i64 b.k) ∧ w'.cell? ⟨bt, 1, none⟩ = some (.int .i64 b.n) ∧ w'.cell? ⟨bt, 2, none⟩ = some (.int .i64 b.q) ∧ w'.cell? ⟨bt, 3, none⟩ = some (.string b.s)))
      (first | go_keep | exact ⟨S4.four, T4.four⟩ | exact ⟨S2.four, T2.four⟩)
      (first
      | (go_at_call 76; refine (begins_any _ _ _ _ _ _ _ _ _ la.out lb.out).mono ?_; rintro e w2 ⟨fn, cap, rfl, HA, hb2⟩; have S2 := S1.keep (bl_drew hb2); have T2 := T1.keep (bl_drew hb2))
      | (go_at_call 75; refine (least_any _ _ _ _ fn cap _ _ la.out HA).mono ?_; rintro e w4 ⟨rfl, hb4⟩; have S4 := S2.keep hb4; have T4 := T2.keep hb4))
    go_wp2
    go_ret
    exact ⟨rfl, bl_then B1.out (bl_then (bl_drew hb2) hb4)⟩
  · have HE := Lib.hid (outE_no (.tuple #[]) h0)
    rw [outE_no _ h0]
    clear h0
    go_enter Try.func74, Try.ntmps74
    go_wp2_with (go_at_call 66; refine (demAlike_any a b w.heap.size 1 _ H1.out H2.out (VlsAt.one (Row.new _ _ _)) (by simp)).mono ?_; rw [HE.out]; rintro e w1 ⟨rfl, hb1⟩; have B1 := Lib.hid (bl_box (Below.refl _ w) hb1))
    exact ⟨rfl, rfl, B1.out⟩
set_option maxHeartbeats 1000000 in
theorem bIndex_any (a b : Vl) (w : World) (hs : a.s.size ≤ maxLen) (hs' : b.s.size ≤ maxLen) :
    Calls Try.prog 17 #[a.v, b.v] w fun e w' => e = .returned (.tuple #[.int .i64 (if alikeE a b = 0 then indexV a b else 0), .int .i64 (alikeE a b)]) ∧ Below w.heap.size w w' := by
  have hmf : ∀ (fn : Fn) (first cap : Array Value) (w : World), (Instr.makeFunc fn first cap).run Try.prog w = .ok (.func fn first cap) w := fun _ _ _ _ => rfl
  have H1 := Lib.hid hs
  have H2 := Lib.hid hs'
  clear hs hs'
  have HC : Hid (∀ W, Below (w.heap.size + 1 + 1) ((w.alloc (.cells (vlC a.k a.n a.q a.s) 23)).alloc (.cells (vlC b.k b.n b.q b.s) 23)) W → Calls Try.prog 74 #[ptr w.heap.size, ptr (w.heap.size + 1)] W fun e w' => e = outE (alikeE a b) (.int .i64 (indexV a b)) ∧ Below W.heap.size W w') := by
    show ∀ _, _
    intro W hW
    exact cIndex_any a b _ _ W (((Row.new _ _ _).alloc _).keep (by simpa using hW)) ((Row.new2 _ _ _ _).keep (by simpa using hW)) H1.out H2.out
  generalize alikeE a b = E at HC ⊢
  generalize indexV a b = V at HC ⊢
  have HR : Hid ((if E = 0 then (.int .i64 V : Value) else .int .i64 0) = .int .i64 (if E = 0 then V else 0)) := by show _ = _; split <;> rfl
  generalize (if E = 0 then V else 0) = R at HR ⊢
  go_enter Try.func17, Try.ntmps17
  go_wp2_with (go_at_call 73; refine (bAnsI_any 74 _ E V _ (fun W => by kernel_rfl) (fun W hW => HC.out W (by simpa using hW))).mono ?_; rw [HR.out]; rintro e w1 ⟨rfl, hb1⟩)
  go_ret2
  exact ⟨rfl, bl_box2 (Below.refl _ w) hb1⟩

def tallyV (a b : Vl) : Int := manyN (begsP a.s.data.toList b.s.data.toList) a.s.size
set_option maxRecDepth 100000 in
set_option maxHeartbeats 2000000 in
theorem cTally_any (a b : Vl) (bs bt : Nat) (w : World) (hS : Row w bs (vlC a.k a.n a.q a.s) 23) (hT : Row w bt (vlC b.k b.n b.q b.s) 23) (hs : a.s.size ≤ maxLen) (hs' : b.s.size ≤ maxLen) :
    Calls Try.prog 78 #[ptr bs, ptr bt] w fun e w' => e = outE (alikeE a b) (.int .i64 (tallyV a b)) ∧ Below w.heap.size w w' := by
  obtain ⟨x0, x1, x2, x3⟩ := hS.four
  obtain ⟨y0, y1, y2, y3⟩ := hT.four
  have H1 := Lib.hid hs
  have H2 := Lib.hid hs'
  clear hs hs'
  by_cases h0 : alikeE a b = 0
  · obtain ⟨oa, ob, ok⟩ := alikeE_ok h0
    have la := Lib.hid (vl_le oa)
    have lb := Lib.hid (vl_le ob)
    have HE := Lib.hid h0
    rw [h0]
    clear oa ob ok h0
    show Calls _ _ _ _ fun e w' => e = .returned (.int .i64 (tallyV a b)) ∧ Below w.heap.size w w'
    unfold tallyV
    go_enter Try.func78, Try.ntmps78
    go_wp2_with (go_at_call 66; refine (demAlike_any a b w.heap.size 1 _ H1.out H2.out (VlsAt.one (Row.new _ _ _)) (by simp)).mono ?_; rw [HE.out]; rintro e w1 ⟨rfl, hb1⟩; have B1 := Lib.hid (bl_box (Below.refl _ w) hb1); have S1 := (hS.alloc _).keep hb1; have T1 := (hT.alloc _).keep hb1; obtain ⟨x0, x1, x2, x3⟩ := S1.four; obtain ⟨y0, y1, y2, y3⟩ := T1.four; have ls := Lib.hid S1.lt; have lt := Lib.hid T1.lt; clear hb1)
    go_region_held3 (fun w' => (w'.cell? ⟨bs, 0, none⟩ = some (.int .i64 a.k) ∧ w'.cell? ⟨bs, 1, none⟩ = some (.int .i64 a.n) ∧ w'.cell? ⟨bs, 2, none⟩ = some (.int .i64 a.q) ∧ w'.cell? ⟨bs, 3, none⟩ = some (.string a.s)) ∧ (w'.cell? ⟨bt, 0, none⟩ = some (.int .i64 b.k) ∧ w'.cell? ⟨bt, 1, none⟩ = some (.int .i64 b.n) ∧ w'.cell? ⟨bt, 2, none⟩ = some (.int .i64 b.q) ∧ w'.cell? ⟨bt, 3, none⟩ = some (.string b.s)))
      (first | go_keep | exact ⟨S4.four, T4.four⟩ | exact ⟨S2.four, T2.four⟩)
      (first
      | (go_at_call 76; refine (begins_any _ _ _ _ _ _ _ _ _ la.out lb.out).mono ?_; rintro e w2 ⟨fn, cap, rfl, HA, hb2⟩; have S2 := S1.keep (bl_drew hb2); have T2 := T1.keep (bl_drew hb2))
      | (go_at_call 79; refine (many_any _ _ _ _ fn cap _ _ la.out HA).mono ?_; rintro e w4 ⟨rfl, hb4⟩; have S4 := S2.keep hb4; have T4 := T2.keep hb4))
    go_wp2
    go_ret
    exact ⟨rfl, bl_then B1.out (bl_then (bl_drew hb2) hb4)⟩
  · have HE := Lib.hid (outE_no (.tuple #[]) h0)
    rw [outE_no _ h0]
    clear h0
    go_enter Try.func78, Try.ntmps78
    go_wp2_with (go_at_call 66; refine (demAlike_any a b w.heap.size 1 _ H1.out H2.out (VlsAt.one (Row.new _ _ _)) (by simp)).mono ?_; rw [HE.out]; rintro e w1 ⟨rfl, hb1⟩; have B1 := Lib.hid (bl_box (Below.refl _ w) hb1))
    exact ⟨rfl, rfl, B1.out⟩
set_option maxHeartbeats 1000000 in
theorem bTally_any (a b : Vl) (w : World) (hs : a.s.size ≤ maxLen) (hs' : b.s.size ≤ maxLen) :
    Calls Try.prog 19 #[a.v, b.v] w fun e w' => e = .returned (.tuple #[.int .i64 (if alikeE a b = 0 then tallyV a b else 0), .int .i64 (alikeE a b)]) ∧ Below w.heap.size w w' := by
  have hmf : ∀ (fn : Fn) (first cap : Array Value) (w : World), (Instr.makeFunc fn first cap).run Try.prog w = .ok (.func fn first cap) w := fun _ _ _ _ => rfl
  have H1 := Lib.hid hs
  have H2 := Lib.hid hs'
  clear hs hs'
  have HC : Hid (∀ W, Below (w.heap.size + 1 + 1) ((w.alloc (.cells (vlC a.k a.n a.q a.s) 23)).alloc (.cells (vlC b.k b.n b.q b.s) 23)) W → Calls Try.prog 78 #[ptr w.heap.size, ptr (w.heap.size + 1)] W fun e w' => e = outE (alikeE a b) (.int .i64 (tallyV a b)) ∧ Below W.heap.size W w') := by
    show ∀ _, _
    intro W hW
    exact cTally_any a b _ _ W (((Row.new _ _ _).alloc _).keep (by simpa using hW)) ((Row.new2 _ _ _ _).keep (by simpa using hW)) H1.out H2.out
  generalize alikeE a b = E at HC ⊢
  generalize tallyV a b = V at HC ⊢
  have HR : Hid ((if E = 0 then (.int .i64 V : Value) else .int .i64 0) = .int .i64 (if E = 0 then V else 0)) := by show _ = _; split <;> rfl
  generalize (if E = 0 then V else 0) = R at HR ⊢
  go_enter Try.func19, Try.ntmps19
  go_wp2_with (go_at_call 73; refine (bAnsI_any 78 _ E V _ (fun W => by kernel_rfl) (fun W hW => HC.out W (by simpa using hW))).mono ?_; rw [HR.out]; rintro e w1 ⟨rfl, hb1⟩)
  go_ret2
  exact ⟨rfl, bl_box2 (Below.refl _ w) hb1⟩

def verifyV (a b : Vl) : Int := leastN (notP (inP a.s.data.toList b.s.data.toList)) a.s.size
set_option maxRecDepth 100000 in
set_option maxHeartbeats 2000000 in
theorem cVerify_any (a b : Vl) (bs bt : Nat) (w : World) (hS : Row w bs (vlC a.k a.n a.q a.s) 23) (hT : Row w bt (vlC b.k b.n b.q b.s) 23) (hs : a.s.size ≤ maxLen) (hs' : b.s.size ≤ maxLen) :
    Calls Try.prog 80 #[ptr bs, ptr bt] w fun e w' => e = outE (alikeE a b) (.int .i64 (verifyV a b)) ∧ Below w.heap.size w w' := by
  obtain ⟨x0, x1, x2, x3⟩ := hS.four
  obtain ⟨y0, y1, y2, y3⟩ := hT.four
  have H1 := Lib.hid hs
  have H2 := Lib.hid hs'
  clear hs hs'
  by_cases h0 : alikeE a b = 0
  · obtain ⟨oa, ob, ok⟩ := alikeE_ok h0
    have la := Lib.hid (vl_le oa)
    have lb := Lib.hid (vl_le ob)
    have HE := Lib.hid h0
    rw [h0]
    clear oa ob ok h0
    show Calls _ _ _ _ fun e w' => e = .returned (.int .i64 (verifyV a b)) ∧ Below w.heap.size w w'
    unfold verifyV
    go_enter Try.func80, Try.ntmps80
    go_wp2_with (go_at_call 66; refine (demAlike_any a b w.heap.size 1 _ H1.out H2.out (VlsAt.one (Row.new _ _ _)) (by simp)).mono ?_; rw [HE.out]; rintro e w1 ⟨rfl, hb1⟩; have B1 := Lib.hid (bl_box (Below.refl _ w) hb1); have S1 := (hS.alloc _).keep hb1; have T1 := (hT.alloc _).keep hb1; obtain ⟨x0, x1, x2, x3⟩ := S1.four; obtain ⟨y0, y1, y2, y3⟩ := T1.four; have ls := Lib.hid S1.lt; have lt := Lib.hid T1.lt; clear hb1)
    go_region_held3 (fun w' => (w'.cell? ⟨bs, 0, none⟩ = some (.int .i64 a.k) ∧ w'.cell? ⟨bs, 1, none⟩ = some (.int .i64 a.n) ∧ w'.cell? ⟨bs, 2, none⟩ = some (.int .i64 a.q) ∧ w'.cell? ⟨bs, 3, none⟩ = some (.string a.s)) ∧ (w'.cell? ⟨bt, 0, none⟩ = some (.int .i64 b.k) ∧ w'.cell? ⟨bt, 1, none⟩ = some (.int .i64 b.n) ∧ w'.cell? ⟨bt, 2, none⟩ = some (.int .i64 b.q) ∧ w'.cell? ⟨bt, 3, none⟩ = some (.string b.s)))
      (first | go_keep | exact ⟨S4.four, T4.four⟩ | exact ⟨S3.four, T3.four⟩ | exact ⟨S2.four, T2.four⟩)
      (first
      | (go_at_call 82; refine (isIn_any _ _ _ _ _ _ _ _ _ la.out).mono ?_; rintro e w2 ⟨fn, cap, rfl, HA, hb2⟩; have S2 := S1.keep (bl_drew hb2); have T2 := T1.keep (bl_drew hb2))
      | (go_at_call 81; refine (not_any fn cap _ _ _ HA).mono ?_; rintro e w3 ⟨fn2, cap2, rfl, HA2, hb3⟩; have S3 := S2.keep hb3; have T3 := T2.keep hb3)
      | (go_at_call 75; refine (least_any _ _ _ _ fn2 cap2 _ _ la.out HA2).mono ?_; rintro e w4 ⟨rfl, hb4⟩; have S4 := S3.keep hb4; have T4 := T3.keep hb4))
    go_wp2
    go_ret
    exact ⟨rfl, bl_then B1.out (bl_then (bl_then (bl_drew hb2) hb3) hb4)⟩
  · have HE := Lib.hid (outE_no (.tuple #[]) h0)
    rw [outE_no _ h0]
    clear h0
    go_enter Try.func80, Try.ntmps80
    go_wp2_with (go_at_call 66; refine (demAlike_any a b w.heap.size 1 _ H1.out H2.out (VlsAt.one (Row.new _ _ _)) (by simp)).mono ?_; rw [HE.out]; rintro e w1 ⟨rfl, hb1⟩; have B1 := Lib.hid (bl_box (Below.refl _ w) hb1))
    exact ⟨rfl, rfl, B1.out⟩
set_option maxHeartbeats 1000000 in
theorem bVerify_any (a b : Vl) (w : World) (hs : a.s.size ≤ maxLen) (hs' : b.s.size ≤ maxLen) :
    Calls Try.prog 21 #[a.v, b.v] w fun e w' => e = .returned (.tuple #[.int .i64 (if alikeE a b = 0 then verifyV a b else 0), .int .i64 (alikeE a b)]) ∧ Below w.heap.size w w' := by
  have hmf : ∀ (fn : Fn) (first cap : Array Value) (w : World), (Instr.makeFunc fn first cap).run Try.prog w = .ok (.func fn first cap) w := fun _ _ _ _ => rfl
  have H1 := Lib.hid hs
  have H2 := Lib.hid hs'
  clear hs hs'
  have HC : Hid (∀ W, Below (w.heap.size + 1 + 1) ((w.alloc (.cells (vlC a.k a.n a.q a.s) 23)).alloc (.cells (vlC b.k b.n b.q b.s) 23)) W → Calls Try.prog 80 #[ptr w.heap.size, ptr (w.heap.size + 1)] W fun e w' => e = outE (alikeE a b) (.int .i64 (verifyV a b)) ∧ Below W.heap.size W w') := by
    show ∀ _, _
    intro W hW
    exact cVerify_any a b _ _ W (((Row.new _ _ _).alloc _).keep (by simpa using hW)) ((Row.new2 _ _ _ _).keep (by simpa using hW)) H1.out H2.out
  generalize alikeE a b = E at HC ⊢
  generalize verifyV a b = V at HC ⊢
  have HR : Hid ((if E = 0 then (.int .i64 V : Value) else .int .i64 0) = .int .i64 (if E = 0 then V else 0)) := by show _ = _; split <;> rfl
  generalize (if E = 0 then V else 0) = R at HR ⊢
  go_enter Try.func21, Try.ntmps21
  go_wp2_with (go_at_call 73; refine (bAnsI_any 80 _ E V _ (fun W => by kernel_rfl) (fun W hW => HC.out W (by simpa using hW))).mono ?_; rw [HR.out]; rintro e w1 ⟨rfl, hb1⟩)
  go_ret2
  exact ⟨rfl, bl_box2 (Below.refl _ w) hb1⟩

def searchV (a b : Vl) : Int := leastN (inP a.s.data.toList b.s.data.toList) a.s.size
set_option maxRecDepth 100000 in
set_option maxHeartbeats 2000000 in
theorem cSearch_any (a b : Vl) (bs bt : Nat) (w : World) (hS : Row w bs (vlC a.k a.n a.q a.s) 23) (hT : Row w bt (vlC b.k b.n b.q b.s) 23) (hs : a.s.size ≤ maxLen) (hs' : b.s.size ≤ maxLen) :
    Calls Try.prog 84 #[ptr bs, ptr bt] w fun e w' => e = outE (alikeE a b) (.int .i64 (searchV a b)) ∧ Below w.heap.size w w' := by
  obtain ⟨x0, x1, x2, x3⟩ := hS.four
  obtain ⟨y0, y1, y2, y3⟩ := hT.four
  have H1 := Lib.hid hs
  have H2 := Lib.hid hs'
  clear hs hs'
  by_cases h0 : alikeE a b = 0
  · obtain ⟨oa, ob, ok⟩ := alikeE_ok h0
    have la := Lib.hid (vl_le oa)
    have lb := Lib.hid (vl_le ob)
    have HE := Lib.hid h0
    rw [h0]
    clear oa ob ok h0
    show Calls _ _ _ _ fun e w' => e = .returned (.int .i64 (searchV a b)) ∧ Below w.heap.size w w'
    unfold searchV
    go_enter Try.func84, Try.ntmps84
    go_wp2_with (go_at_call 66; refine (demAlike_any a b w.heap.size 1 _ H1.out H2.out (VlsAt.one (Row.new _ _ _)) (by simp)).mono ?_; rw [HE.out]; rintro e w1 ⟨rfl, hb1⟩; have B1 := Lib.hid (bl_box (Below.refl _ w) hb1); have S1 := (hS.alloc _).keep hb1; have T1 := (hT.alloc _).keep hb1; obtain ⟨x0, x1, x2, x3⟩ := S1.four; obtain ⟨y0, y1, y2, y3⟩ := T1.four; have ls := Lib.hid S1.lt; have lt := Lib.hid T1.lt; clear hb1)
    go_region_held3 (fun w' => (w'.cell? ⟨bs, 0, none⟩ = some (.int .i64 a.k) ∧ w'.cell? ⟨bs, 1, none⟩ = some (.int .i64 a.n) ∧ w'.cell? ⟨bs, 2, none⟩ = some (.int .i64 a.q) ∧ w'.cell? ⟨bs, 3, none⟩ = some (.string a.s)) ∧ (w'.cell? ⟨bt, 0, none⟩ = some (.int .i64 b.k) ∧ w'.cell? ⟨bt, 1, none⟩ = some (.int .i64 b.n) ∧ w'.cell? ⟨bt, 2, none⟩ = some (.int .i64 b.q) ∧ w'.cell? ⟨bt, 3, none⟩ = some (.string b.s)))
      (first | go_keep | exact ⟨S4.four, T4.four⟩ | exact ⟨S2.four, T2.four⟩)
      (first
      | (go_at_call 82; refine (isIn_any _ _ _ _ _ _ _ _ _ la.out).mono ?_; rintro e w2 ⟨fn, cap, rfl, HA, hb2⟩; have S2 := S1.keep (bl_drew hb2); have T2 := T1.keep (bl_drew hb2))
      | (go_at_call 75; refine (least_any _ _ _ _ fn cap _ _ la.out HA).mono ?_; rintro e w4 ⟨rfl, hb4⟩; have S4 := S2.keep hb4; have T4 := T2.keep hb4))
    go_wp2
    go_ret
    exact ⟨rfl, bl_then B1.out (bl_then (bl_drew hb2) hb4)⟩
  · have HE := Lib.hid (outE_no (.tuple #[]) h0)
    rw [outE_no _ h0]
    clear h0
    go_enter Try.func84, Try.ntmps84
    go_wp2_with (go_at_call 66; refine (demAlike_any a b w.heap.size 1 _ H1.out H2.out (VlsAt.one (Row.new _ _ _)) (by simp)).mono ?_; rw [HE.out]; rintro e w1 ⟨rfl, hb1⟩; have B1 := Lib.hid (bl_box (Below.refl _ w) hb1))
    exact ⟨rfl, rfl, B1.out⟩
set_option maxHeartbeats 1000000 in
theorem bSearch_any (a b : Vl) (w : World) (hs : a.s.size ≤ maxLen) (hs' : b.s.size ≤ maxLen) :
    Calls Try.prog 23 #[a.v, b.v] w fun e w' => e = .returned (.tuple #[.int .i64 (if alikeE a b = 0 then searchV a b else 0), .int .i64 (alikeE a b)]) ∧ Below w.heap.size w w' := by
  have hmf : ∀ (fn : Fn) (first cap : Array Value) (w : World), (Instr.makeFunc fn first cap).run Try.prog w = .ok (.func fn first cap) w := fun _ _ _ _ => rfl
  have H1 := Lib.hid hs
  have H2 := Lib.hid hs'
  clear hs hs'
  have HC : Hid (∀ W, Below (w.heap.size + 1 + 1) ((w.alloc (.cells (vlC a.k a.n a.q a.s) 23)).alloc (.cells (vlC b.k b.n b.q b.s) 23)) W → Calls Try.prog 84 #[ptr w.heap.size, ptr (w.heap.size + 1)] W fun e w' => e = outE (alikeE a b) (.int .i64 (searchV a b)) ∧ Below W.heap.size W w') := by
    show ∀ _, _
    intro W hW
    exact cSearch_any a b _ _ W (((Row.new _ _ _).alloc _).keep (by simpa using hW)) ((Row.new2 _ _ _ _).keep (by simpa using hW)) H1.out H2.out
  generalize alikeE a b = E at HC ⊢
  generalize searchV a b = V at HC ⊢
  have HR : Hid ((if E = 0 then (.int .i64 V : Value) else .int .i64 0) = .int .i64 (if E = 0 then V else 0)) := by show _ = _; split <;> rfl
  generalize (if E = 0 then V else 0) = R at HR ⊢
  go_enter Try.func23, Try.ntmps23
  go_wp2_with (go_at_call 73; refine (bAnsI_any 84 _ E V _ (fun W => by kernel_rfl) (fun W hW => HC.out W (by simpa using hW))).mono ?_; rw [HR.out]; rintro e w1 ⟨rfl, hb1⟩)
  go_ret2
  exact ⟨rfl, bl_box2 (Below.refl _ w) hb1⟩
end Go.Proofs.Ytgoghblfficfpaa
