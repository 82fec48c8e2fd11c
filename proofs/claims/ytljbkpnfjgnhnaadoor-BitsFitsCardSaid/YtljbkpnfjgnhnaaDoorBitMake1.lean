/- Package bits: Reverse, Join. -/
import Derived.Test.YtljbkpnfjgnhnaaDoorBitBool1
import Derived.Test.YtljbkpnfjgnhnaaDoorBitAlike
import Derived.IntWalk
namespace Go.Proofs.YtljbkpnfjgnhnaaDoor
open Go.RowKit

def strE (a : Vl) : Int := if a.ok then 0 else 1
theorem strE_ok {a : Vl} (h : strE a = 0) : a.ok = true := by
  cases ho : a.ok with
  | true => rfl
  | false => simp [strE, ho] at h
theorem demStr1_any (a : Vl) (bl cap : Nat) (w : World) (hs : a.s.size ≤ maxLen) (hA : VlsAt w bl 0 [a]) (hb : bl < w.heap.size) :
    Calls Tryd.prog 33 #[.slice (some ⟨bl, 0, none⟩) 1 cap] w fun e w' => e = outE (strE a) (.tuple #[]) ∧ Below w.heap.size w w' := by
  cases ho : a.ok with
  | false =>
    have e : strE a = 1 := by rw [strE, ho]; rfl
    rw [e]; exact demStr_no [a] bl 0 cap w hA (by simp) hb (vl1 hs) (by simp [ho])
  | true =>
    have e : strE a = 0 := by rw [strE, ho]; rfl
    rw [e]; exact demStr_ok [a] bl 0 cap w hA (by simp) hb (vl1 hs) (vl1 ho)

theorem rev_tell (s : ByteArray) : s.data.toList.reverse = tellL s.size (fun i => s.data.toList.getD (s.size - 1 - i) 0) := by
  apply tell_eq (by rw [List.length_reverse, lsz])
  intro i hi
  rw [List.length_reverse, lsz] at hi
  rw [List.getElem_reverse, List.getD, List.getElem?_eq_getElem (by rw [lsz]; omega)]
  simp only [lsz, Option.getD_some]
theorem app_tell (s t : ByteArray) : s.data.toList ++ t.data.toList = tellL (s.size + t.size) (fun i => (s.data.toList ++ t.data.toList).getD i 0) := by
  apply tell_eq (by rw [List.length_append, lsz, lsz])
  intro i hi
  rw [List.getD, List.getElem?_eq_getElem hi]
  rfl
set_option maxRecDepth 100000 in
set_option maxHeartbeats 4000000 in
theorem cRev_any (a : Vl) (bs : Nat) (w : World) (hS : Row w bs (vlC a.k a.n a.q a.s) 23) (hs : a.s.size ≤ maxLen) :
    Calls Tryd.prog 32 #[ptr bs] w fun e w' => e = outE (strE a) (vlV a.k 0 0 (bsz (a.s.data.toList.reverse))) ∧ Below w.heap.size w w' := by
  obtain ⟨x0, x1, x2, x3⟩ := hS.four
  have ls := hS.lt
  have RZ := Row.new w (vlC 0 0 0 ⟨#[]⟩) 23
  have RS := hS.alloc (.cells (vlC 0 0 0 ⟨#[]⟩) 23)
  have H1 := Lib.hid hs
  clear hs
  by_cases h0 : strE a = 0
  · have oa := strE_ok h0
    have la := vl_le oa
    have HE := Lib.hid h0
    rw [h0, rev_tell]
    clear oa h0
    have n1 : ¬ bs = w.heap.size := by omega
    have n2 : ¬ w.heap.size = bs := by omega
    show Calls _ _ _ _ fun e w' => e = .returned (vlV a.k 0 0 (bsz (tellL a.s.size (fun i => a.s.data.toList.getD (a.s.size - 1 - i) 0)))) ∧ Below w.heap.size w w'
    go_enter Tryd.func32, Tryd.ntmps32
    go_wp2_with (go_at_call 33; refine (demStr1_any a (w.heap.size + 1) 1 _ H1.out (VlsAt.one (Row.new2 _ _ _ _)) (by simp)).mono ?_; rw [HE.out, outE_ok]; rintro e w1 ⟨rfl, hb1⟩; have B1 := Lib.hid (bl_box2 (Below.refl _ w) hb1); have S1 := (RS.alloc _).keep hb1; have Z1 := (RZ.alloc _).keep hb1; obtain ⟨x0, x1, x2, x3⟩ := S1.four; have ls := S1.lt; clear hb1)
    go_region_held3 (fun w' => w'.cell? ⟨bs, 0, none⟩ = some (.int .i64 a.k) ∧ w'.cell? ⟨bs, 1, none⟩ = some (.int .i64 a.n) ∧ w'.cell? ⟨bs, 2, none⟩ = some (.int .i64 a.q) ∧ w'.cell? ⟨bs, 3, none⟩ = some (.string a.s))
      (first | go_keep | exact S3.four | exact S2.four)
      (first
        | (go_at_call 35; refine (backwards_any _ _ _ _ _ la).mono ?_; rintro e w2 ⟨fn, cap, rfl, HT, hb2⟩; have S2 := S1.keep (bl_drew hb2); have Z2 := Z1.keep (bl_drew hb2))
        | (go_at_call 34; refine (like_any _ _ _ _ a.s.size fn cap _ _ la HT).mono ?_; rintro e w3 ⟨rfl, hb3⟩; have S3 := S2.keep hb3; have Z3 := Z2.keep hb3; obtain ⟨z0, z1, z2, z3⟩ := Z3.four; have f0 := Z3.free 0; have f1 := Z3.free 1; have f2 := Z3.free 2; have f3 := Z3.free 3))
    go_wp2
    refine bodyPost_ret (v := vlV a.k 0 0 (bsz (tellL a.s.size (fun i => a.s.data.toList.getD (a.s.size - 1 - i) 0)))) (by simp [results, Tryd.results32, go_sem, z0, z1, z2, z3]) rfl ⟨rfl, ?_⟩
    (repeat refine Below.setCell ?_ (by simp <;> omega) _)
    exact bl_then B1.out (bl_then (bl_drew hb2) hb3)
  · have HE := Lib.hid (outE_no (.tuple #[]) h0)
    rw [outE_no _ h0]
    clear h0
    go_enter Tryd.func32, Tryd.ntmps32
    go_wp2_with (go_at_call 33; refine (demStr1_any a (w.heap.size + 1) 1 _ H1.out (VlsAt.one (Row.new2 _ _ _ _)) (by simp)).mono ?_; rw [HE.out]; rintro e w1 ⟨rfl, hb1⟩; have B1 := Lib.hid (bl_box2 (Below.refl _ w) hb1))
    exact ⟨rfl, rfl, B1.out⟩

set_option maxRecDepth 100000 in
set_option maxHeartbeats 2000000 in
theorem bRev_any (a : Vl) (w : World) (hs : a.s.size ≤ maxLen) :
    Calls Tryd.prog 14 #[a.v] w fun e w' => e = .returned (.tuple #[orV (strE a) a.k (a.s.data.toList.reverse), .int .i64 (strE a)]) ∧ Below w.heap.size w w' := by
  have hmf : ∀ (fn : Fn) (first cap : Array Value) (w : World), (Instr.makeFunc fn first cap).run Tryd.prog w = .ok (.func fn first cap) w := fun _ _ _ _ => rfl
  have H1 := Lib.hid hs
  clear hs
  have HC : Hid (∀ W, Below ((w.alloc (.cells (vlC a.k a.n a.q a.s) 23)).alloc (.cells (vlC 0 0 0 ⟨#[]⟩) 23)).heap.size ((w.alloc (.cells (vlC a.k a.n a.q a.s) 23)).alloc (.cells (vlC 0 0 0 ⟨#[]⟩) 23)) W → Calls Tryd.prog 32 #[ptr w.heap.size] W fun e w' => e = outE (strE a) (vlV a.k 0 0 (bsz (a.s.data.toList.reverse))) ∧ Below W.heap.size W w') := by
    show ∀ _, _
    intro W hW
    exact cRev_any a _ W (((Row.new _ _ _).alloc _).keep hW) H1.out
  have RZ := Row.new2 w (.cells (vlC a.k a.n a.q a.s) 23) (vlC 0 0 0 ⟨#[]⟩) 23
  generalize strE a = E at HC ⊢
  have HR : Hid ((if E = 0 then vlV a.k 0 0 (bsz (a.s.data.toList.reverse)) else vlV 0 0 0 ⟨#[]⟩) = vlV (if E = 0 then a.k else 0) 0 0 (if E = 0 then bsz (a.s.data.toList.reverse) else ⟨#[]⟩)) := by
    show _ = _
    split <;> rfl
  unfold orV
  generalize (if E = 0 then a.k else 0) = K at HR ⊢
  generalize (if E = 0 then bsz (a.s.data.toList.reverse) else ⟨#[]⟩) = L at HR ⊢
  go_enter Tryd.func14, Tryd.ntmps14
  go_wp2_with (go_at_call 26; refine (bAnsV_any 32 _ E a.k 0 0 _ _ (fun W => by kernel_rfl) HC.out).mono ?_; rw [HR.out]; rintro e w1 ⟨rfl, hb1⟩; have Z1 := RZ.keep hb1; obtain ⟨z0, z1, z2, z3⟩ := Z1.four; have f0 := Z1.free 0; have f1 := Z1.free 1; have f2 := Z1.free 2; have f3 := Z1.free 3; have lz := Z1.lt)
  refine bodyPost_ret (v := .tuple #[vlV K 0 0 L, .int .i64 E]) (by simp [results, Tryd.results14, go_sem, z0, z1, z2, z3]) rfl ⟨rfl, ?_⟩
  (repeat refine Below.setCell ?_ (by simp <;> omega) _)
  exact below_then (by go_grown) hb1 (by simp <;> omega)

def joinE (a b : Vl) : Int := if alikeE a b = 0 then (if a.s.size + b.s.size ≤ 250 then 0 else 3) else alikeE a b
theorem joinE_no {a b : Vl} (h : alikeE a b ≠ 0) : joinE a b = alikeE a b := if_neg h
theorem joinE_long {a b : Vl} (h : alikeE a b = 0) (hl : ¬ a.s.size + b.s.size ≤ 250) : joinE a b = 3 := by rw [joinE, if_pos h, if_neg hl]
theorem joinE_of {a b : Vl} (h : alikeE a b = 0) (hl : a.s.size + b.s.size ≤ 250) : joinE a b = 0 := by rw [joinE, if_pos h, if_pos hl]
theorem room1_yes {n : Nat} (h : n ≤ 250) : roomB n 1 = true := by
  unfold roomB
  rcases Nat.eq_zero_or_pos n with rfl | hp
  · rfl
  · have : (1 : Int) ≤ 250 / (n : Int) := Int.le_ediv_of_mul_le (by omega) (by omega)
    simp [this]
theorem room1_no {n : Nat} (h : ¬ n ≤ 250) : roomB n 1 = false := by
  unfold roomB
  have h1 : (n == 0) = false := by simp; omega
  have h2 : (250 : Int) / (n : Int) < 1 := Int.ediv_lt_of_lt_mul (by omega) (by omega)
  rw [h1, Bool.false_or, decide_eq_false (by omega)]

end Go.Proofs.YtljbkpnfjgnhnaaDoor
