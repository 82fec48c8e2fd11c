/- digit.Zero, of any type, exactly. -/
import Derived.Test.YtjdgefgdekanjaaGreatDoorGoodHas
import Derived.Test.YtjdgefgdekanjaaGreatDoorWrdRight5
import Derived.Test.YtjdgefgdekanjaaGreatDoorWrdYes
import Derived.Test.YtjdgefgdekanjaaGreatDoorWrdGuard
import Derived.Test.YtjdgefgdekanjaaGreatDoorWrdBut
import Derived.Test.YtjdgefgdekanjaaGreatDoorWrdRec1
namespace Go.Proofs.YtjdgefgdekanjaaGreatDoor
open Go.RowKit

/-- So many bytes of one kind. -/
def zrs (b : UInt8) (n : Nat) : ByteArray := ⟨(List.replicate n b).toArray⟩
theorem zrs_list (b : UInt8) (n : Nat) : (zrs b n).data.toList = List.replicate n b := by unfold zrs; exact List.toList_toArray
theorem zrs_size (b : UInt8) (n : Nat) : (zrs b n).size = n := by unfold zrs; show (List.replicate n b).toArray.size = n; simp
theorem zrs_zero (b : UInt8) : zrs b 0 = ⟨#[]⟩ := rfl
theorem repeat_one (b : UInt8) (n : Nat) : Lib.repeatL [b] n = List.replicate n b := by
  induction n with
  | zero => rfl
  | succ n ih => first | (rw [List.replicate_succ, ← ih]; rfl) | (rw [List.replicate_succ', ← ih]; rfl) | (simp [Lib.repeatL, List.replicate_succ, ih])
/-- The error of Zero; its value's fields. -/
def zErr (k : Int) (ok : Bool) : Int := if ok = false then 13 else if k ≤ 5 then 0 else 10
def zKind (k : Int) (ok : Bool) : Int := if ok = true ∧ k ≤ 5 then k else 0
def zScale (k q : Int) (ok : Bool) : Int := if ok = true ∧ k ≤ 2 then q else 0
def zText (k n : Int) (vy ok : Bool) : ByteArray := if ok = true ∧ k = 4 ∧ vy = false then zrs 32 n.toNat else if ok = true ∧ k = 5 ∧ vy = false then zrs 48 n.toNat else ⟨#[]⟩

theorem strS_of {k p q n : Int} {vy : Bool} {pic : ByteArray} (h : validStringS k p q n vy pic = true) : 0 ≤ n ∧ n ≤ 250 := by
  simp only [validStringS, Bool.and_eq_true, decide_eq_true_eq, beq_iff_eq] at h
  exact h.1
theorem valid_4_of {p q n : Int} {vy : Bool} {pic : ByteArray} (h : validS 4 p q n vy pic = true) : 0 ≤ n ∧ n ≤ 250 := strS_of (k := 4) (show validStringS 4 p q n vy pic = true from h)
theorem valid_5_of {p q n : Int} {vy : Bool} {pic : ByteArray} (h : validS 5 p q n vy pic = true) : 0 ≤ n ∧ n ≤ 250 := strS_of (k := 5) (show validStringS 5 p q n vy pic = true from h)

theorem Row.putz4 {w : World} {b : Nat} {a0 a1 a2 a3 : Value} {t : TypeId} (h : Row w b #[a0, a1, a2, a3] t) (y0 y1 y2 y3 : Value) :
    Row ((((w.setCell ⟨b, 0, none⟩ y0).setCell ⟨b, 1, none⟩ y1).setCell ⟨b, 2, none⟩ y2).setCell ⟨b, 3, none⟩ y3) b #[y0, y1, y2, y3] t :=
  (((h.putv 0 y0).putv 1 y1).putv 2 y2).putv 3 y3

theorem demValid_noD (k p q n : Int) (vy : Bool) (pic : ByteArray) (w : World) (hs : pic.size ≤ maxLen) (hv : validS k p q n vy pic = false) :
    Calls Tryz.prog 18 #[tyV k p q n vy pic] w fun e w' => e = dRef 13 ∧ Below w.heap.size w w' := by
  have HV : Hid (∀ W, Calls Tryz.prog 8 #[tyV k p q n vy pic] W fun e w' => e = .returned (.bool false) ∧ Below W.heap.size W w') := Lib.hid fun W => by
    have := valid_any k p q n vy pic W hs
    rwa [hv] at this
  clear hv hs
  go_enter Tryz.func18, Tryz.ntmps18
  go_wp2_with (first
    | (go_at_call 8; refine (HV.out _).mono ?_; rintro e w2 ⟨rfl, hb2⟩)
    | (go_at_call 34; refine (dRefuse _ _).mono ?_; rintro e w3 ⟨rfl, rfl⟩))
  exact ⟨rfl, rfl, bl_box (Below.refl _ w) hb2⟩

set_option maxHeartbeats 1000000 in
theorem zeroFixed_d (k p q n : Int) (vy : Bool) (pic : ByteArray) (w : World) :
    Calls Tryz.prog 38 #[tyV k p q n vy pic] w fun e w' => e = .returned (vaV k 0 q ⟨#[]⟩) ∧ Below w.heap.size w w' := by
  have RP := Row.new2 w (.cells #[.int .i64 k, .int .i64 p, .int .i64 q, .int .i64 n, .bool vy, .string pic] 25) (vaC k 0 q ⟨#[]⟩) 23
  go_enter Tryz.func38, Tryz.ntmps38
  go_wp2
  exact bodyPost_ret (v := vaV k 0 q ⟨#[]⟩) (results_cell_row (p := 2) (ty := 23) rfl _ _ (w.heap.size + 1) 23 #[.int .i64 k, .int .i64 0, .int .i64 q, .string ⟨#[]⟩] (0, 0) _ rfl RP Tryz.underlying23 rfl size_va) rfl ⟨rfl, by go_grown⟩

set_option maxHeartbeats 1000000 in
theorem zeroFloat_d (k p q n : Int) (vy : Bool) (pic : ByteArray) (w : World) :
    Calls Tryz.prog 51 #[tyV k p q n vy pic] w fun e w' => e = .returned (vaV k 0 0 ⟨#[]⟩) ∧ Below w.heap.size w w' := by
  have RP := Row.new2 w (.cells #[.int .i64 k, .int .i64 p, .int .i64 q, .int .i64 n, .bool vy, .string pic] 25) (vaC k 0 0 ⟨#[]⟩) 23
  go_enter Tryz.func51, Tryz.ntmps51
  go_wp2
  exact bodyPost_ret (v := vaV k 0 0 ⟨#[]⟩) (results_cell_row (p := 2) (ty := 23) rfl _ _ (w.heap.size + 1) 23 #[.int .i64 k, .int .i64 0, .int .i64 0, .string ⟨#[]⟩] (0, 0) _ rfl RP Tryz.underlying23 rfl size_va) rfl ⟨rfl, by go_grown⟩

set_option maxHeartbeats 1000000 in
theorem filled_v (k p q n : Int) (pic s : ByteArray) (w : World) :
    Calls Tryz.prog 97 #[tyV k p q n true pic, .string s] w fun e w' => e = .returned (vaV k 0 0 ⟨#[]⟩) ∧ Below w.heap.size w w' := by
  have RP := Row.new2 w (.cells #[.int .i64 k, .int .i64 p, .int .i64 q, .int .i64 n, .bool true, .string pic] 25) (vaC k 0 0 ⟨#[]⟩) 23
  go_enter Tryz.func97, Tryz.ntmps97
  go_wp2
  exact bodyPost_ret (v := vaV k 0 0 ⟨#[]⟩) (results_cell_row (p := 4) (ty := 23) rfl _ _ (w.heap.size + 1) 23 #[.int .i64 k, .int .i64 0, .int .i64 0, .string ⟨#[]⟩] (0, 0) _ rfl RP Tryz.underlying23 rfl size_va) rfl ⟨rfl, by go_grown⟩

set_option maxRecDepth 100000 in
set_option maxHeartbeats 4000000 in
theorem filled_n (k p q n : Int) (pic : ByteArray) (b : UInt8) (w : World) (hn : 0 ≤ n ∧ n ≤ 250) :
    Calls Tryz.prog 97 #[tyV k p q n false pic, .string ⟨#[b]⟩] w fun e w' => e = .returned (vaV k 0 0 (zrs b n.toNat)) ∧ Below w.heap.size w w' := by
  have HRP : Hid (∀ W, Calls Tryz.prog 105 #[.string ⟨#[b]⟩, .int .i64 n] W fun e w' => e = .returned (.string (zrs b n.toNat)) ∧ Below W.heap.size W w') := Lib.hid fun W => by
    obtain ⟨m, rfl⟩ := Int.eq_ofNat_of_zero_le hn.1
    have h := Tryz.strings_Repeat ⟨#[b]⟩ m W (by omega) (by show 1 * m ≤ _; omega)
    have e : Lib.repeatL (⟨#[b]⟩ : ByteArray).data.toList m = List.replicate m b := repeat_one b m
    rw [e] at h
    exact h
  generalize zrs b n.toNat = z at *
  clear hn
  have RT := (Row.new w #[.int .i64 k, .int .i64 p, .int .i64 q, .int .i64 n, .bool false, .string pic] 25).alloc (.cells (vaC 0 0 0 ⟨#[]⟩) 23)
  have RV := Row.new2 w (.cells #[.int .i64 k, .int .i64 p, .int .i64 q, .int .i64 n, .bool false, .string pic] 25) (vaC 0 0 0 ⟨#[]⟩) 23
  go_enter Tryz.func97, Tryz.ntmps97
  go_wp2_with fail
  generalize hw : (w.alloc (.cells #[.int .i64 k, .int .i64 p, .int .i64 q, .int .i64 n, .bool false, .string pic] 25)).alloc (.cells (vaC 0 0 0 ⟨#[]⟩) 23) = W0 at *
  have B0 : Hid (Below w.heap.size w W0) := by show Below _ _ _; rw [← hw]; go_grown
  clear hw
  have lt := RT.lt
  have lv := RV.lt
  obtain ⟨t0, t1, t2, t3, t4, t5⟩ := RT.six
  obtain ⟨x0, x1, x2, x3⟩ := RV.four
  refine wp_region_held_drew (S := fun w' => w'.cell? ⟨w.heap.size, 0, none⟩ = some (.int .i64 k) ∧ w'.cell? ⟨w.heap.size, 3, none⟩ = some (.int .i64 n)) (by kernel_rfl) ?_ (fun hHeld => ?_)
  · (first | go_keep | (refine ⟨?_, ?_⟩ <;> first | assumption))
  first
    | (refine wpAnyH_take (i := 0) (v := undef) rfl (by kernel_rfl) (by kernel_rfl) (by kernel_rfl) (fun _ _ _ h => h) (Or.inr ⟨by rfl, rfl⟩) (by assumption) ?_)
    | (refine wpAnyH_take (i := 0) (v := ?_) rfl (by kernel_rfl) (by kernel_rfl) (by kernel_rfl) (fun _ _ _ h => h) (Or.inl ⟨by rfl, ?_⟩) (by assumption) ?_; rotate_left; (· intro w hSw; (try dsimp only at hSw); go_simp; (try with_reducible rfl)))
    | fail "TK 0"
  try simp only [Act.put, List.setIfInBounds_toArray, List.set_cons_zero, List.set_cons_succ, List.getElem_toArray, List.getElem_cons_zero]
  first
    | (refine wpAnyH_take (i := 1) (v := undef) rfl (by kernel_rfl) (by kernel_rfl) (by kernel_rfl) (fun _ _ _ h => h) (Or.inr ⟨by rfl, rfl⟩) (by assumption) ?_)
    | (refine wpAnyH_take (i := 1) (v := ?_) rfl (by kernel_rfl) (by kernel_rfl) (by kernel_rfl) (fun _ _ _ h => h) (Or.inl ⟨by rfl, ?_⟩) (by assumption) ?_; rotate_left; (· intro w hSw; (try dsimp only at hSw); go_simp; (try with_reducible rfl)))
    | fail "TK 1"
  try simp only [Act.put, List.setIfInBounds_toArray, List.set_cons_zero, List.set_cons_succ, List.getElem_toArray, List.getElem_cons_succ, List.getElem_cons_zero]
  first
    | (refine wpAnyH_take (i := 2) (v := undef) rfl (by kernel_rfl) (by kernel_rfl) (by kernel_rfl) (fun _ _ _ h => h) (Or.inr ⟨by rfl, rfl⟩) (by assumption) ?_)
    | (refine wpAnyH_take (i := 2) (v := ?_) rfl (by kernel_rfl) (by kernel_rfl) (by kernel_rfl) (fun _ _ _ h => h) (Or.inl ⟨by rfl, ?_⟩) (by assumption) ?_; rotate_left; (· intro w hSw; (try dsimp only at hSw); go_simp; (try with_reducible rfl)))
    | fail "TK 2"
  try simp only [Act.put, List.setIfInBounds_toArray, List.set_cons_zero, List.set_cons_succ, List.getElem_toArray, List.getElem_cons_succ, List.getElem_cons_zero]
  first
    | (refine wpAnyH_take (i := 3) (v := undef) rfl (by kernel_rfl) (by kernel_rfl) (by kernel_rfl) (fun _ _ _ h => h) (Or.inr ⟨by rfl, rfl⟩) (by assumption) ?_)
    | (refine wpAnyH_take (i := 3) (v := ?_) rfl (by kernel_rfl) (by kernel_rfl) (by kernel_rfl) (fun _ _ _ h => h) (Or.inl ⟨by rfl, ?_⟩) (by assumption) ?_; rotate_left; (· intro w hSw; (try dsimp only at hSw); go_simp; (try with_reducible rfl)))
    | fail "TK 3"
  try simp only [Act.put, List.setIfInBounds_toArray, List.set_cons_zero, List.set_cons_succ, List.getElem_toArray, List.getElem_cons_succ, List.getElem_cons_zero]
  first
    | (refine wpAnyH_take (i := 4) (v := undef) rfl (by kernel_rfl) (by kernel_rfl) (by kernel_rfl) (fun _ _ _ h => h) (Or.inr ⟨by rfl, rfl⟩) (by assumption) ?_)
    | (refine wpAnyH_take (i := 4) (v := ?_) rfl (by kernel_rfl) (by kernel_rfl) (by kernel_rfl) (fun _ _ _ h => h) (Or.inl ⟨by rfl, ?_⟩) (by assumption) ?_; rotate_left; (· intro w hSw; (try dsimp only at hSw); go_simp; (try with_reducible rfl)))
    | fail "TK 4"
  try simp only [Act.put, List.setIfInBounds_toArray, List.set_cons_zero, List.set_cons_succ, List.getElem_toArray, List.getElem_cons_succ, List.getElem_cons_zero]
  refine wpAnyH_ready (rs := [5]) (by kernel_rfl) (by simp) ?_
  refine AllReadyH.cons rfl (fun K hK => ?_) AllReadyH.nil
  try simp only [List.getElem_toArray, List.getElem_cons_succ, List.getElem_cons_zero]
  first
    | (go_at_call 105; refine (HRP.out _).mono ?_; rintro e w1 ⟨rfl, hb1⟩; have b1 := undrew hb1; clear hb1)
    | (go_simp; (go_at_call 105; refine (HRP.out _).mono ?_; rintro e w1 ⟨rfl, hb1⟩; have b1 := undrew hb1; clear hb1))
    | fail "CALL 5"
  try go_wp2_with fail
  refine hK.out _ _ ?_ (fun hHeld2 => ?_)
  · (first | go_keep | (refine ⟨?_, ?_⟩ <;> first | assumption | (rw [b1.cell (by simp <;> omega)]; assumption)))
  clear hK K hHeld
  have hHeld := hHeld2
  clear hHeld2
  try simp only [Act.put, List.setIfInBounds_toArray, List.set_cons_zero, List.set_cons_succ, List.getElem_toArray, List.getElem_cons_succ, List.getElem_cons_zero]
  first
    | (refine wpAnyH_take (i := 6) (v := undef) rfl (by kernel_rfl) (by kernel_rfl) (by kernel_rfl) (fun _ _ _ h => h) (Or.inr ⟨by rfl, rfl⟩) (by assumption) ?_)
    | (refine wpAnyH_take (i := 6) (v := ?_) rfl (by kernel_rfl) (by kernel_rfl) (by kernel_rfl) (fun _ _ _ h => h) (Or.inl ⟨by rfl, ?_⟩) (by assumption) ?_; rotate_left; (· intro w hSw; (try dsimp only at hSw); go_simp; (try with_reducible rfl)))
    | fail "TK 6"
  try simp only [Act.put, List.setIfInBounds_toArray, List.set_cons_zero, List.set_cons_succ, List.getElem_toArray, List.getElem_cons_succ, List.getElem_cons_zero]
  have R1 := RV.keep b1
  obtain ⟨y0, y1, y2, y3⟩ := R1.four
  have f0 := R1.free 0
  have f1 := R1.free 1
  have f2 := R1.free 2
  have f3 := R1.free 3
  have l1 := R1.lt
  have HBB := Lib.hid (bl_then B0.out b1)
  have RP := R1.putz4 (.int .i64 k) (.int .i64 0) (.int .i64 0) (.string z)
  refine wpAnyH_ready (rs := [7]) (by kernel_rfl) (by simp) ?_
  refine AllReadyH.cons rfl (fun K hK => ?_) AllReadyH.nil
  try simp only [List.getElem_toArray, List.getElem_cons_succ, List.getElem_cons_zero]
  go_simp
  refine hK.out _ _ ?_ (fun hHeld2 => ?_)
  · go_keep
  clear hK K hHeld
  refine wpAnyH_done (by kernel_rfl) ?_ _
  go_wp2
  exact bodyPost_ret (v := vaV k 0 0 z) (results_cell_row (p := 4) (ty := 23) rfl _ _ (w.heap.size + 1) 23 #[.int .i64 k, .int .i64 0, .int .i64 0, .string z] (0, 0) _ rfl RP Tryz.underlying23 rfl size_va) rfl ⟨rfl, ((((HBB.out.setCell (by simp) _).setCell (by simp) _).setCell (by simp) _).setCell (by simp) _)⟩

set_option maxHeartbeats 1000000 in
theorem zeroChar_d (k p q n : Int) (vy : Bool) (pic : ByteArray) (w : World) (hn : 0 ≤ n ∧ n ≤ 250) :
    Calls Tryz.prog 58 #[tyV k p q n vy pic] w fun e w' => e = .returned (vaV k 0 0 (if vy = false then zrs 32 n.toNat else ⟨#[]⟩)) ∧ Below w.heap.size w w' := by
  have HF : Hid (∀ W, Calls Tryz.prog 97 #[tyV k p q n vy pic, .string ⟨#[32]⟩] W fun e w' => e = .returned (vaV k 0 0 (if vy = false then zrs 32 n.toNat else ⟨#[]⟩)) ∧ Below W.heap.size W w') := Lib.hid fun W => by
    cases vy
    · exact filled_n k p q n pic 32 W hn
    · exact filled_v k p q n pic _ W
  clear hn
  generalize (if vy = false then zrs 32 n.toNat else ⟨#[]⟩) = z at *
  go_enter Tryz.func58, Tryz.ntmps58
  have RV := Row.new2 w (.cells #[.int .i64 k, .int .i64 p, .int .i64 q, .int .i64 n, .bool vy, .string pic] 25) (vaC 0 0 0 ⟨#[]⟩) 23
  go_wp2_with (go_at_call 97; refine (HF.out _).mono ?_; rintro e w1 ⟨rfl, hb1⟩; have R1 := RV.keep hb1; obtain ⟨y0, y1, y2, y3⟩ := R1.four; have f0 := R1.free 0; have f1 := R1.free 1; have f2 := R1.free 2; have f3 := R1.free 3; have HBB := Lib.hid (bl_box2 (Below.refl _ w) hb1); have RP := R1.putz4 (.int .i64 k) (.int .i64 0) (.int .i64 0) (.string z))
  exact bodyPost_ret (v := vaV k 0 0 z) (results_cell_row (p := 2) (ty := 23) rfl _ _ (w.heap.size + 1) 23 #[.int .i64 k, .int .i64 0, .int .i64 0, .string z] (0, 0) _ rfl RP Tryz.underlying23 rfl size_va) rfl ⟨rfl, ((((HBB.out.setCell (by simp) _).setCell (by simp) _).setCell (by simp) _).setCell (by simp) _)⟩

set_option maxHeartbeats 1000000 in
theorem zeroBit_d (k p q n : Int) (vy : Bool) (pic : ByteArray) (w : World) (hn : 0 ≤ n ∧ n ≤ 250) :
    Calls Tryz.prog 60 #[tyV k p q n vy pic] w fun e w' => e = .returned (vaV k 0 0 (if vy = false then zrs 48 n.toNat else ⟨#[]⟩)) ∧ Below w.heap.size w w' := by
  have HF : Hid (∀ W, Calls Tryz.prog 97 #[tyV k p q n vy pic, .string ⟨#[48]⟩] W fun e w' => e = .returned (vaV k 0 0 (if vy = false then zrs 48 n.toNat else ⟨#[]⟩)) ∧ Below W.heap.size W w') := Lib.hid fun W => by
    cases vy
    · exact filled_n k p q n pic 48 W hn
    · exact filled_v k p q n pic _ W
  clear hn
  generalize (if vy = false then zrs 48 n.toNat else ⟨#[]⟩) = z at *
  go_enter Tryz.func60, Tryz.ntmps60
  have RV := Row.new2 w (.cells #[.int .i64 k, .int .i64 p, .int .i64 q, .int .i64 n, .bool vy, .string pic] 25) (vaC 0 0 0 ⟨#[]⟩) 23
  go_wp2_with (go_at_call 97; refine (HF.out _).mono ?_; rintro e w1 ⟨rfl, hb1⟩; have R1 := RV.keep hb1; obtain ⟨y0, y1, y2, y3⟩ := R1.four; have f0 := R1.free 0; have f1 := R1.free 1; have f2 := R1.free 2; have f3 := R1.free 3; have HBB := Lib.hid (bl_box2 (Below.refl _ w) hb1); have RP := R1.putz4 (.int .i64 k) (.int .i64 0) (.int .i64 0) (.string z))
  exact bodyPost_ret (v := vaV k 0 0 z) (results_cell_row (p := 2) (ty := 23) rfl _ _ (w.heap.size + 1) 23 #[.int .i64 k, .int .i64 0, .int .i64 0, .string z] (0, 0) _ rfl RP Tryz.underlying23 rfl size_va) rfl ⟨rfl, ((((HBB.out.setCell (by simp) _).setCell (by simp) _).setCell (by simp) _).setCell (by simp) _)⟩
end Go.Proofs.YtjdgefgdekanjaaGreatDoor
