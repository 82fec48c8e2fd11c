/- Package bits: a part that is set. -/
import Derived.Test.YtljbkpnfjgnhnaaDoorBitFitP
import Derived.Laws.EntriesVeiled
namespace Go.Proofs.YtljbkpnfjgnhnaaDoor
open Go.RowKit

theorem Tells.any {w : World} {fn : Nat} {cap : Array Value} {f : Nat → UInt8} (h : ∀ n, Tells w fn cap n f) (i : Nat) (W : World) (hB : Below w.heap.size w W) :
    Calls Tryd.prog fn (#[.int .i64 i] ++ cap) W fun e w' => e = .returned (.int .u8 (f i).toNat) ∧ Below W.heap.size W w' := (h (i + 1)).2 i W (Nat.lt_succ_self i) hB

set_option maxRecDepth 100000 in
set_option maxHeartbeats 2000000 in
theorem set1 (a v : Vl) (i m : Int) (bb be bs bsrc bp : Nat) (fn : Nat) (cap : Array Value) (j : Nat) (w : World)
    (hBg : Row w bb #[.int .i64 (begN a.s.data.toList i)] 3) (hEn : Row w be #[.int .i64 (endN a.s.data.toList i m)] 3) (hS : Row w bs (vlC a.k a.n a.q a.s) 23) (hF : Row w bsrc #[fnC fn cap] 66) (hP : Row w bp (ptC i m) 71)
    (hT : Tells w fn cap 4000000000 (getF a.k v.s.data.toList)) (la : a.s.size ≤ 1000) (hj : j < a.s.size) (h1 : -2000000000 ≤ i) (h2 : i ≤ 2000000000) :
    Calls Tryd.prog 56 #[.int .i64 j, ptr bb, ptr be, ptr bs, ptr bsrc, ptr bp] w fun e w' => e = .returned (.int .u8 (setF a.k a.s.data.toList i m v.s.data.toList j).toNat) ∧ Below w.heap.size w w' := by
  have y0 := hBg.one
  have u0 := hEn.one
  obtain ⟨x0, x1, x2, x3⟩ := hS.four
  have v0 := hF.one
  obtain ⟨p0, p1⟩ := hP.two
  have hcf := hT.1
  have HT := Lib.hid hT
  have hin := set_in a.s.data.toList i m j (by rw [lsz]; exact hj)
  have hbl := begN_le a.s.data.toList i
  have hel := endN_le a.s.data.toList i m
  rw [lsz] at hbl hel
  by_cases hc : begN a.s.data.toList i ≤ j ∧ j < endN a.s.data.toList i m
  · have hr := hin.1 hc
    have HR : Hid (setF a.k a.s.data.toList i m v.s.data.toList j = getF a.k v.s.data.toList ((j : Int) - (i - 1)).toNat) := Lib.hid (if_pos hr)
    obtain ⟨N, hN⟩ := Int.eq_ofNat_of_zero_le hr.1
    have HN := Lib.hid hN
    have hNl : N < 4000000000 := by omega
    obtain ⟨c1, c2⟩ := hc
    have d1 : decide ((j : Int) < begN a.s.data.toList i) = false := by simp only [decide_eq_false_iff_not]; omega
    have d1' : decide (j < begN a.s.data.toList i) = false := by simp only [decide_eq_false_iff_not]; omega
    have d2 : decide ((endN a.s.data.toList i m : Int) ≤ j) = false := by simp only [decide_eq_false_iff_not]; omega
    have d2' : decide (endN a.s.data.toList i m ≤ j) = false := by simp only [decide_eq_false_iff_not]; omega
    clear hin hr hN hT
    go_enter Tryd.func56, Tryd.ntmps56
    go_wp2_with (rw [HN.out]; refine (HT.out.2 N _ hNl (Below.refl _ _)).mono ?_; rintro e w2 ⟨rfl, hb2⟩)
    go_ret
    exact ⟨ret_u8 (by rw [HR.out, HN.out]; rfl), hb2⟩
  · have HR : Hid (setF a.k a.s.data.toList i m v.s.data.toList j = a.s[j]) := by
      show _ = _
      rw [setF, if_neg (fun e => hc (hin.2 e)), getF_b a.k a.s j hj]
    have hj' : (j : Int) < a.s.size := by omega
    by_cases h3 : j < begN a.s.data.toList i
    · have d1 : decide ((j : Int) < begN a.s.data.toList i) = true := by simp only [decide_eq_true_eq]; omega
      have d1' : decide (j < begN a.s.data.toList i) = true := by simp only [decide_eq_true_eq]; omega
      clear hin hc hT
      go_enter Tryd.func56, Tryd.ntmps56
      go_wp2
      go_ret
      exact ⟨ret_u8 (by rw [HR.out]), Below.refl _ _⟩
    · have h4 : endN a.s.data.toList i m ≤ j := by omega
      have d1 : decide ((j : Int) < begN a.s.data.toList i) = false := by simp only [decide_eq_false_iff_not]; omega
      have d1' : decide (j < begN a.s.data.toList i) = false := by simp only [decide_eq_false_iff_not]; omega
      have d2 : decide ((endN a.s.data.toList i m : Int) ≤ j) = true := by simp only [decide_eq_true_eq]; omega
      have d2' : decide (endN a.s.data.toList i m ≤ j) = true := decide_eq_true h4
      clear hin hc hT h3
      go_enter Tryd.func56, Tryd.ntmps56
      go_wp2
      go_ret
      exact ⟨ret_u8 (by rw [HR.out]), Below.refl _ _⟩

set_option maxRecDepth 100000 in
set_option maxHeartbeats 4000000 in
theorem set_any (a v : Vl) (i m : Int) (w : World) (la : a.s.size ≤ 1000) (lv : v.s.size ≤ 1000) (hk : a.k = 4 ∨ a.k = 5) (hkv : v.k = a.k) (h1 : -2000000000 ≤ i) (h2 : i ≤ 2000000000) (h3 : -4000000000 ≤ m) (h4 : m ≤ 4000000000) :
    Calls Tryd.prog 39 #[ptV i m, a.v, v.v] w fun e w' => e = .returned (tkV a.k 0 0 (bsz (setL a.k a.s.data.toList i m v.s.data.toList)) (partC a.s.data.toList i m)) ∧ Below w.heap.size w w' := by
  have hmf : ∀ (fn : Fn) (first cap : Array Value) (w : World), (Instr.makeFunc fn first cap).run Tryd.prog w = .ok (.func fn first cap) w := fun _ _ _ _ => rfl
  have HK : Hid (v.k = 4 ∨ v.k = 5) := Lib.hid (by rw [hkv]; exact hk)
  have HV := Lib.hid hkv
  have la' : a.s.size ≤ 100000 := by omega
  have lv' : v.s.size ≤ 100000 := by omega
  have hl : a.s.data.toList.length = a.s.size := lsz _
  have HL := Lib.hid hl
  clear hk hkv hl
  have RP := (((Row.new w (ptC i m) 71).alloc (.cells (vlC a.k a.n a.q a.s) 23)).alloc (.cells (vlC v.k v.n v.q v.s) 23)).alloc (.cells (tkC 0 0 0 ⟨#[]⟩ 0) 40)
  have RS := ((Row.new2 w (.cells (ptC i m) 71) (vlC a.k a.n a.q a.s) 23).alloc (.cells (vlC v.k v.n v.q v.s) 23)).alloc (.cells (tkC 0 0 0 ⟨#[]⟩ 0) 40)
  have RV := (Row.new3 w (.cells (ptC i m) 71) (.cells (vlC a.k a.n a.q a.s) 23) (vlC v.k v.n v.q v.s) 23).alloc (.cells (tkC 0 0 0 ⟨#[]⟩ 0) 40)
  have RZ : Row ((((w.alloc (.cells (ptC i m) 71)).alloc (.cells (vlC a.k a.n a.q a.s) 23)).alloc (.cells (vlC v.k v.n v.q v.s) 23)).alloc (.cells (tkC 0 0 0 ⟨#[]⟩ 0) 40)) (w.heap.size + 1 + 1 + 1) (tkC 0 0 0 ⟨#[]⟩ 0) 40 := by
    have := Row.new (((w.alloc (.cells (ptC i m) 71)).alloc (.cells (vlC a.k a.n a.q a.s) 23)).alloc (.cells (vlC v.k v.n v.q v.s) 23)) (tkC 0 0 0 ⟨#[]⟩ 0) 40
    rwa [World.size_alloc, World.size_alloc, World.size_alloc] at this
  have HSL : Hid (setL a.k a.s.data.toList i m v.s.data.toList = tellL a.s.size (setF a.k a.s.data.toList i m v.s.data.toList)) := by show _ = _; unfold setL; rw [HL.out]
  rw [HSL.out]
  go_enter Tryd.func39, Tryd.ntmps39
  go_wp2_with (first
    | (go_at_call 55; refine (ends_any i m _ _ _ _ _ la' h1 h2 h3 h4).mono ?_; rintro e w2 ⟨rfl, hb2⟩; have B2 : Below w.heap.size w w2 := below_then (by go_grown) hb2 (by simp <;> omega); have P2 := RP.keep hb2; have S2 := RS.keep hb2; have V2 := RV.keep hb2; have Z2 := RZ.keep hb2; obtain ⟨v0, v1, v2, v3⟩ := V2.four; have lp2 := P2.lt; have ls2 := S2.lt; have lv2 := V2.lt; have lz2 := Z2.lt)
    | (go_at_call 42; refine (filled_any _ _ _ _ 4000000000 _ HK.out lv').mono ?_; rintro e w3 ⟨fn, cap, rfl, HT, hb3⟩; have BB := ((Row.new w2 #[.int .i64 (begN a.s.data.toList i)] 3).alloc _).keep hb3; have BE := (Row.new2 w2 (.cells #[.int .i64 (begN a.s.data.toList i)] 3) #[.int .i64 (endN a.s.data.toList i m)] 3).keep hb3; have P3 := ((P2.alloc _).alloc _).keep hb3; have S3 := ((S2.alloc _).alloc _).keep hb3; have Z3 := ((Z2.alloc _).alloc _).keep hb3; have B3 := bl_box2 B2 hb3; have hcf := HT.1))
  have RS4 := Row.new w3 #[fnC fn cap] 66
  have BB4 := BB.alloc (.cells #[fnC fn cap] 66)
  have BE4 := BE.alloc (.cells #[fnC fn cap] 66)
  have P4 := P3.alloc (.cells #[fnC fn cap] 66)
  have S4 := S3.alloc (.cells #[fnC fn cap] 66)
  have Z4 := Z3.alloc (.cells #[fnC fn cap] 66)
  have B4 := B3.alloc B3.size (.cells #[fnC fn cap] 66)
  have HT4 : Tells (w3.alloc (.cells #[fnC fn cap] 66)) fn cap 4000000000 (getF a.k v.s.data.toList) := by
    rw [← HV.out]; exact HT.later ((Below.refl _ w3).alloc (Nat.le_refl _) _)
  generalize w3.alloc (.cells #[fnC fn cap] 66) = W at *
  have TS : Tells W 56 #[ptr w2.heap.size, ptr (w2.heap.size + 1), ptr (w.heap.size + 1), ptr w3.heap.size, ptr w.heap.size] a.s.size (setF a.k a.s.data.toList i m v.s.data.toList) :=
    ⟨fun _ _ => by kernel_rfl, fun j W' hj hB => set1 a v i m _ _ _ _ _ fn cap j W' (BB4.keep hB) (BE4.keep hB) (S4.keep hB) (RS4.keep hB) (P4.keep hB) (HT4.later hB) la hj h1 h2⟩
  have B4' := Lib.hid B4
  have lz4 := Z4.lt
  clear RP RS RV RZ P2 S2 V2 Z2 P3 S3 Z3 BB BE B3 B4 B2 HT BB4 BE4 RS4 HT4 hcf hb3 hb2 v0 v1 v2 v3
  obtain ⟨x0, x1, x2, x3⟩ := S4.four
  obtain ⟨p0, p1⟩ := P4.two
  have n1 : ¬ w.heap.size + 1 + 1 + 1 = w.heap.size := by omega
  have n2 : ¬ w.heap.size = w.heap.size + 1 + 1 + 1 := by omega
  have n3 : ¬ w.heap.size + 1 + 1 + 1 = w.heap.size + 1 := by omega
  have n4 : ¬ w.heap.size + 1 = w.heap.size + 1 + 1 + 1 := by omega
  have n5 : ¬ w.heap.size + 1 + 1 = w.heap.size := by omega
  have n6 : ¬ w.heap.size = w.heap.size + 1 + 1 := by omega
  go_region_held3 (fun w' => (w'.cell? ⟨w.heap.size, 0, none⟩ = some (.int .i64 i) ∧ w'.cell? ⟨w.heap.size, 1, none⟩ = some (.int .i64 m)) ∧ (w'.cell? ⟨w.heap.size + 1, 0, none⟩ = some (.int .i64 a.k) ∧ w'.cell? ⟨w.heap.size + 1, 1, none⟩ = some (.int .i64 a.n) ∧ w'.cell? ⟨w.heap.size + 1, 2, none⟩ = some (.int .i64 a.q) ∧ w'.cell? ⟨w.heap.size + 1, 3, none⟩ = some (.string a.s)))
    (first | go_keep | exact ⟨P6.two, S6.four⟩ | exact ⟨P5.two, S5.four⟩)
    (first
      | (go_at_call 34; refine (like_any _ _ _ _ a.s.size _ _ _ _ la' (TS.later ((Below.refl _ W).drew))).mono ?_; rintro e w5 ⟨rfl, hb5⟩; have P5 := P4.keep (bl_drew hb5); have S5 := S4.keep (bl_drew hb5); have Z5 := Z4.keep (bl_drew hb5))
      | (go_at_call 57; refine (cond_any i m _ _ _ _ _ la' h1 h2 h3 h4).mono ?_; rintro e w6 ⟨rfl, hb6⟩; have P6 := P5.keep hb6; have S6 := S5.keep hb6; have Z6 := Z5.keep hb6; obtain ⟨z0, z1, z2, z3, z4⟩ := Z6.five; have f0 := Z6.free 0; have f1 := Z6.free 1; have f2 := Z6.free 2; have f3 := Z6.free 3; have f4 := Z6.free 4))
  go_wp2
  refine bodyPost_ret (v := tkV a.k 0 0 (bsz (tellL a.s.size (setF a.k a.s.data.toList i m v.s.data.toList))) (partC a.s.data.toList i m)) (by simp [results, Tryd.results39, go_sem, z0, z1, z2, z3, z4]) rfl ⟨rfl, ?_⟩
  (repeat refine Below.setCell ?_ (by simp <;> omega) _)
  exact bl_then B4'.out (bl_then (bl_drew hb5) hb6)
end Go.Proofs.YtljbkpnfjgnhnaaDoor
