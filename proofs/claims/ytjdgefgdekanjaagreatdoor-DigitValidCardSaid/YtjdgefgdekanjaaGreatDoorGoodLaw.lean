/- The law DigitValid, for any value and type. -/
import Derived.Test.YtjdgefgdekanjaaGreatDoorGoodHasD
import Derived.Test.YtjdgefgdekanjaaGreatDoorGoodZero2
import Derived.Test.YtjdgefgdekanjaaGreatDoorGoodZeroR
import Derived.Test.YtjdgefgdekanjaaGreatDoorWrdAwake
namespace Go.Proofs.YtjdgefgdekanjaaGreatDoor
open Go.RowKit

theorem vaEq (k n q k' n' q' : Int) (s s' : ByteArray) (w : World) :
    (Op.equalIn 10000 23 (vaV k n q s) (vaV k' n' q' s')).run Tryz.prog w = .ok (k == k' && n == n' && q == q' && s.toList == s'.toList) w := by
  have hS : Tryz.prog.underlying 23 = some (.struct (Tryz.prog.fieldsOf 23)) := by kernel_rfl
  have hp : Tryz.prog.stoodInHeld 23 = false := by kernel_rfl
  rw [show (10000 : Nat) = 9999 + 1 from rfl, run_equalIn_agg w 9999 23 _ _ hS hp]
  simp only [Program.fieldsOf, Tryz.underlying23]
  go_simp
  by_cases h1 : k = k' <;> by_cases h2 : n = n' <;> by_cases h3 : q = q' <;> by_cases h4 : s.toList = s'.toList <;> simp [h1, h2, h3, h4]

/-- A Zero is of its type. -/
theorem hasZero {k p q n : Int} {vy : Bool} {pic : ByteArray} (hv : validS k p q n vy pic = true) (hk : k ≤ 5) : HasG k p q n vy pic k 0 (zScale k q true) (zText k n vy true) := by
  have hk' := validS_kind hv
  have en : (⟨#[]⟩ : ByteArray).toList = [] := by rw [ByteArray.toList_eq]
  have es : ((⟨#[]⟩ : ByteArray).size : Int) = 0 := rfl
  obtain rfl | rfl | rfl | rfl | rfl : k = 1 ∨ k = 2 ∨ k = 3 ∨ k = 4 ∨ k = 5 := by omega
  · obtain ⟨h1, h2, _⟩ := valid_1_of hv
    refine ⟨hv, ?_, rfl, ?_⟩
    · rw [good_1]; exact ⟨by omega, by omega, h2.1, h2.2, en⟩
    · rw [hold_1]; exact ⟨rfl, Nat.pow_pos (by decide)⟩
  · obtain ⟨h1, h2, _⟩ := valid_2_of hv
    refine ⟨hv, ?_, rfl, ?_⟩
    · rw [good_2]; exact ⟨by omega, by omega, h2.1, h2.2, en⟩
    · rw [hold_2]; exact ⟨rfl, Nat.pow_pos (by decide)⟩
  · have hv' := hv
    have h : validFloatS 3 p q n vy pic = true := hv'
    simp only [validFloatS, Bool.and_eq_true, decide_eq_true_eq] at h
    refine ⟨hv, ?_, rfl, ?_⟩
    · rw [good_3]; exact ⟨.inl ⟨rfl, rfl⟩, en⟩
    · rw [hold_3]
      have e0 : (digs (0 : Int).natAbs).length = 0 := by simp [digs]
      rw [e0]
      have := h.1.1
      omega
  · obtain ⟨h1, h2⟩ := valid_4_of hv
    refine ⟨hv, ?_, rfl, ?_⟩
    · rw [good_4]
      refine ⟨rfl, rfl, ?_⟩
      cases vy
      · show ((zrs 32 n.toNat).size : Int) ≤ 250
        rw [zrs_size]; omega
      · show ((⟨#[]⟩ : ByteArray).size : Int) ≤ 250
        omega
    · rw [hold_s _ _ _ _ _ _ _ _ (by omega)]
      cases vy
      · left
        show ((zrs 32 n.toNat).size : Int) = n
        rw [zrs_size]; omega
      · show ((⟨#[]⟩ : ByteArray).size : Int) = n ∨ true = true ∧ ((⟨#[]⟩ : ByteArray).size : Int) < n
        by_cases h : n = 0
        · left; omega
        · right; exact ⟨rfl, by omega⟩
  · obtain ⟨h1, h2⟩ := valid_5_of hv
    have e1 : (48 : UInt8) ≠ 32 := by decide
    refine ⟨hv, ?_, rfl, ?_⟩
    · rw [good_5]
      cases vy
      · refine ⟨⟨rfl, rfl, ?_⟩, ?_⟩
        · show ((zrs 48 n.toNat).size : Int) ≤ 250
          rw [zrs_size]; omega
        · show all01 (zrs 48 n.toNat) = true
          rw [all01, zrs_list, List.all_eq_true]
          intro c hc
          rw [List.eq_of_mem_replicate hc]
          decide
      · refine ⟨⟨rfl, rfl, ?_⟩, ?_⟩
        · show ((⟨#[]⟩ : ByteArray).size : Int) ≤ 250
          omega
        · show all01 ⟨#[]⟩ = true
          rfl
    · rw [hold_s _ _ _ _ _ _ _ _ (by omega)]
      cases vy
      · left
        show ((zrs 48 n.toNat).size : Int) = n
        rw [zrs_size]; omega
      · show ((⟨#[]⟩ : ByteArray).size : Int) = n ∨ true = true ∧ ((⟨#[]⟩ : ByteArray).size : Int) < n
        by_cases h : n = 0
        · left; omega
        · right; exact ⟨rfl, by omega⟩

set_option maxHeartbeats 1000000 in
theorem light_any (vk vn vq : Int) (s : ByteArray) (k p q n : Int) (vy : Bool) (pic : ByteArray) (w : World) (_hs : s.size ≤ maxLen) (_hp : pic.size ≤ maxLen) :
    Calls Tryz.prog 4 #[vaV vk vn vq s, tyV k p q n vy pic] w (SomeD True w) := by
  unfold maxLen at _hs _hp
  by_cases h : (s.size : Int) ≤ 600
  all_goals
    go_enter Tryz.func4, Tryz.ntmps4
    go_wp2
    all_goals
      go_ret
      exact SomeD.of _ (fun _ => trivial) (by go_grown)

set_option maxRecDepth 100000 in
set_option maxHeartbeats 8000000 in
/-- The law DigitValid, for any value and type. -/
theorem valid_va (vk vn vq : Int) (s : ByteArray) (k p q n : Int) (vy : Bool) (pic : ByteArray) (w : World) (hs : s.size ≤ maxLen) (hp : pic.size ≤ maxLen) :
    Calls Tryz.prog 3 #[vaV vk vn vq s, tyV k p q n vy pic] w fun e w' => e = .returned (.bool true) ∧ Below w.heap.size w w' := by
  have HL : Hid (∀ W, Calls Tryz.prog 4 #[vaV vk vn vq s, tyV k p q n vy pic] W (SomeD True W)) := Lib.hid fun W => light_any _ _ _ _ _ _ _ _ _ _ W hs hp
  have HAW : Hid (∀ W, Calls Tryz.prog 5 #[] W fun e w' => e = .returned (.bool true) ∧ Below W.heap.size W w') := Lib.hid awake_1
  obtain ⟨bV, hbV⟩ : ∃ b : Bool, b = validS k p q n vy pic := ⟨_, rfl⟩
  obtain ⟨bR, hbR⟩ : ∃ b : Bool, b = true ↔ GoodP vk vn vq s := (by by_cases h : GoodP vk vn vq s; exact ⟨true, by simp [h]⟩; exact ⟨false, by simp [h]⟩)
  obtain ⟨bH, hbH⟩ : ∃ b : Bool, b = true ↔ HasG k p q n vy pic vk vn vq s := (by by_cases h : HasG k p q n vy pic vk vn vq s; exact ⟨true, by simp [h]⟩; exact ⟨false, by simp [h]⟩)
  have HV : Hid (∀ W, Calls Tryz.prog 8 #[tyV k p q n vy pic] W fun e w' => e = .returned (.bool bV) ∧ Below W.heap.size W w') := Lib.hid fun W => by rw [hbV]; exact valid_any k p q n vy pic W hp
  have HVR : Hid (∀ W, Calls Tryz.prog 9 #[tyV k p q n vy pic] W fun e w' => e = .returned (.bool bV) ∧ Below W.heap.size W w') := Lib.hid fun W => by rw [hbV]; exact refValid_any k p q n vy pic W hp
  have HR : Hid (∀ W, Calls Tryz.prog 10 #[vaV vk vn vq s] W fun e w' => e = .returned (.bool bR) ∧ Below W.heap.size W w') := Lib.hid fun W => (gDig vk vn vq s W).mono fun e w' ⟨r, he, hr, hb⟩ => ⟨he.trans (ret_bool (Bool.eq_iff_iff.2 (hr.trans hbR.symm))), hb⟩
  have HRR : Hid (∀ W, Calls Tryz.prog 11 #[vaV vk vn vq s] W fun e w' => e = .returned (.bool bR) ∧ Below W.heap.size W w') := Lib.hid fun W => (gRef vk vn vq s W hs).mono fun e w' ⟨r, he, hr, hb⟩ => ⟨he.trans (ret_bool (Bool.eq_iff_iff.2 (hr.trans hbR.symm))), hb⟩
  have HH : Hid (∀ W, Calls Tryz.prog 12 #[tyV k p q n vy pic, vaV vk vn vq s] W fun e w' => e = .returned (.bool bH) ∧ Below W.heap.size W w') := Lib.hid fun W => (hDig k p q n vy pic vk vn vq s W hs hp).mono fun e w' ⟨r, he, hr, hb⟩ => ⟨he.trans (ret_bool (Bool.eq_iff_iff.2 (hr.trans hbH.symm))), hb⟩
  have HHR : Hid (∀ W, Calls Tryz.prog 13 #[tyV k p q n vy pic, vaV vk vn vq s] W fun e w' => e = .returned (.bool bH) ∧ Below W.heap.size W w') := Lib.hid fun W => (hRef k p q n vy pic vk vn vq s W hs hp).mono fun e w' ⟨r, he, hr, hb⟩ => ⟨he.trans (ret_bool (Bool.eq_iff_iff.2 (hr.trans hbH.symm))), hb⟩
  have HZ : Hid (∀ W, Calls Tryz.prog 6 #[tyV k p q n vy pic] W fun e w' => e = .returned (.tuple #[vaV (zKind k (validS k p q n vy pic)) 0 (zScale k q (validS k p q n vy pic)) (zText k n vy (validS k p q n vy pic)), .int .i64 (zErr k (validS k p q n vy pic))]) ∧ Below W.heap.size W w') := Lib.hid fun W => zeroDig k p q n vy pic W hp
  have HZR : Hid (∀ W, Calls Tryz.prog 7 #[tyV k p q n vy pic] W fun e w' => e = .returned (.tuple #[vaV (zKind k (validS k p q n vy pic)) 0 (zScale k q (validS k p q n vy pic)) (zText k n vy (validS k p q n vy pic)), .int .i64 (zErr k (validS k p q n vy pic))]) ∧ Below W.heap.size W w') := Lib.hid fun W => zeroRef k p q n vy pic W hp
  have HHZ : Hid (zErr k (validS k p q n vy pic) = 0 → ∀ W, Calls Tryz.prog 12 #[tyV k p q n vy pic, vaV (zKind k (validS k p q n vy pic)) 0 (zScale k q (validS k p q n vy pic)) (zText k n vy (validS k p q n vy pic))] W fun e w' => e = .returned (.bool true) ∧ Below W.heap.size W w') := Lib.hid fun h W => by
    cases hv : validS k p q n vy pic
    · rw [hv] at h; exact absurd h (by unfold zErr; rw [if_pos rfl]; decide)
    · rw [hv] at h
      by_cases hk : k ≤ 5
      · have e1 : zKind k true = k := by unfold zKind; rw [if_pos ⟨rfl, hk⟩]
        have hz : (zText k n vy true).size ≤ maxLen := by
          unfold maxLen zText
          split
          · rename_i hh
            obtain ⟨_, rfl, _⟩ := hh
            have := valid_4_of hv
            rw [zrs_size]; omega
          · split
            · rename_i hh
              obtain ⟨_, rfl, _⟩ := hh
              have := valid_5_of hv
              rw [zrs_size]; omega
            · exact Nat.zero_le _
        rw [e1]
        exact (hDig k p q n vy pic k 0 (zScale k q true) (zText k n vy true) W hz hp).mono fun e w' ⟨r, he, hr, hb⟩ => ⟨he.trans (ret_bool (hr.2 (hasZero hv hk))), hb⟩
      · exact absurd h (by unfold zErr; rw [if_neg (by decide), if_neg hk]; decide)
  generalize zKind k (validS k p q n vy pic) = zk at *
  generalize zScale k q (validS k p q n vy pic) = zq at *
  generalize zText k n vy (validS k p q n vy pic) = zs at *
  generalize zErr k (validS k p q n vy pic) = ze at *
  clear hbV hbR hbH hs hp
  have eV : (bV != bV) = false := by simp
  have eR : (bR != bR) = false := by simp
  have eH : (bH != bH) = false := by simp
  have hE := vaEq
  have hG : Tryz.prog.eqGuardType Tryz.prog.depth 23 = false := by kernel_rfl
  have RV := (Row.new w (vaC vk vn vq s) 23).alloc (.cells #[.int .i64 k, .int .i64 p, .int .i64 q, .int .i64 n, .bool vy, .string pic] 25)
  have RT := Row.new2 w (.cells (vaC vk vn vq s) 23) #[.int .i64 k, .int .i64 p, .int .i64 q, .int .i64 n, .bool vy, .string pic] 25
  go_enter Tryz.func3, Tryz.ntmps3
  go_wp2_with (first
    | (go_at_call 4; refine (HL.out _).mono ?_; rintro e w1 ⟨bl, rfl, _, hb⟩; have V1 := RV.keep hb; have T1 := RT.keep hb; have B1 := Lib.hid (bl_box2 (Below.refl _ w) hb); clear hb; obtain ⟨v0, v1, v2, v3⟩ := V1.four; obtain ⟨t0, t1, t2, t3, t4, t5⟩ := T1.six; cases bl)
    | (go_at_call 5; (with_reducible refine (HAW.out _).mono ?_); rintro e w9 ⟨rfl, hb⟩; have B9 := Lib.hid (bl_then B1.out hb); clear hb)
    | (go_at_call 6; refine (HZ.out _).mono ?_; rintro e w2 ⟨rfl, hb⟩; clear v0 v1 v2 v3 t0 t1 t2 t3 t4 t5; have V2 := V1.keep hb; have T2 := T1.keep hb; have B2 := Lib.hid (bl_then B1.out hb); have Z2 := Row.new w2 (vaC zk 0 zq zs) 23; have V3 := V2.alloc (.cells (vaC zk 0 zq zs) 23); have T3 := T2.alloc (.cells (vaC zk 0 zq zs) 23); have B3 := Lib.hid (B2.out.alloc B2.out.size (.cells (vaC zk 0 zq zs) 23)); clear hb; obtain ⟨t0, t1, t2, t3, t4, t5⟩ := T3.six)
    | (go_at_call 7; refine (HZR.out _).mono ?_; rintro e w4 ⟨rfl, hb⟩; clear t0 t1 t2 t3 t4 t5; have V4 := V3.keep hb; have T4 := T3.keep hb; have Z4 := Z2.keep hb; have B4 := Lib.hid (bl_then B3.out hb); have Y4 := Row.new w4 (vaC zk 0 zq zs) 23; have V5 := V4.alloc (.cells (vaC zk 0 zq zs) 23); have T5 := T4.alloc (.cells (vaC zk 0 zq zs) 23); have Z5 := Z4.alloc (.cells (vaC zk 0 zq zs) 23); have B5 := Lib.hid (B4.out.alloc B4.out.size (.cells (vaC zk 0 zq zs) 23)); clear hb))
  · go_ret
    exact ⟨rfl, B9.out⟩
  generalize w4.alloc (.cells (vaC zk 0 zq zs) 23) = W0 at *
  generalize w4.heap.size = bw at *
  generalize w2.heap.size = bz at *
  have lv := V5.lt
  have lt := T5.lt
  have lz := Z5.lt
  have ly := Y4.lt
  clear V1 V2 V3 V4 T1 T2 T3 T4 Z2 Z4 B1 B2 B3 B4
  obtain ⟨v0, v1, v2, v3⟩ := V5.four
  obtain ⟨t0, t1, t2, t3, t4, t5⟩ := T5.six
  obtain ⟨z0, z1, z2, z3⟩ := Z5.four
  obtain ⟨y0, y1, y2, y3⟩ := Y4.four
  refine wp_region_held_drew (S := fun w' => (w'.cell? ⟨w.heap.size, 0, none⟩ = some (.int .i64 vk) ∧ w'.cell? ⟨w.heap.size, 1, none⟩ = some (.int .i64 vn) ∧ w'.cell? ⟨w.heap.size, 2, none⟩ = some (.int .i64 vq) ∧ w'.cell? ⟨w.heap.size, 3, none⟩ = some (.string s)) ∧ (w'.cell? ⟨w.heap.size + 1, 0, none⟩ = some (.int .i64 k) ∧ w'.cell? ⟨w.heap.size + 1, 1, none⟩ = some (.int .i64 p) ∧ w'.cell? ⟨w.heap.size + 1, 2, none⟩ = some (.int .i64 q) ∧ w'.cell? ⟨w.heap.size + 1, 3, none⟩ = some (.int .i64 n) ∧ w'.cell? ⟨w.heap.size + 1, 4, none⟩ = some (.bool vy) ∧ w'.cell? ⟨w.heap.size + 1, 5, none⟩ = some (.string pic)) ∧ (w'.cell? ⟨bz, 0, none⟩ = some (.int .i64 zk) ∧ w'.cell? ⟨bz, 1, none⟩ = some (.int .i64 0) ∧ w'.cell? ⟨bz, 2, none⟩ = some (.int .i64 zq) ∧ w'.cell? ⟨bz, 3, none⟩ = some (.string zs)) ∧ (w'.cell? ⟨bw, 0, none⟩ = some (.int .i64 zk) ∧ w'.cell? ⟨bw, 1, none⟩ = some (.int .i64 0) ∧ w'.cell? ⟨bw, 2, none⟩ = some (.int .i64 zq) ∧ w'.cell? ⟨bw, 3, none⟩ = some (.string zs))) (by kernel_rfl) ?_ (fun hHeld => ?_)
  · (first | go_keep | (refine ⟨⟨?_, ?_, ?_, ?_⟩, ⟨?_, ?_, ?_, ?_, ?_, ?_⟩, ⟨?_, ?_, ?_, ?_⟩, ⟨?_, ?_, ?_, ?_⟩⟩ <;> first | assumption))
  first
    | (refine wpAnyH_take (i := 0) (v := undef) rfl (by kernel_rfl) (by kernel_rfl) (by kernel_rfl) (fun _ _ _ h => h) (Or.inr ⟨by rfl, rfl⟩) (by assumption) ?_)
    | (refine wpAnyH_take (i := 0) (v := ?_) rfl (by kernel_rfl) (by kernel_rfl) (by kernel_rfl) (fun _ _ _ h => h) (Or.inl ⟨by rfl, ?_⟩) (by assumption) ?_; rotate_left; (· intro w hSw; (try dsimp only at hSw); go_simp; (try with_reducible rfl)))
    | fail "TK 0"
  try simp only [Act.put, List.setIfInBounds_toArray, List.set_cons_zero, List.set_cons_succ, List.getElem_toArray, List.getElem_cons_zero]
  first
    | (refine wpAnyH_take (i := 1) (v := undef) rfl (by kernel_rfl) (by kernel_rfl) (by kernel_rfl) (fun _ _ _ h => h) (Or.inr ⟨by rfl, rfl⟩) (by assumption) ?_)
    | (refine wpAnyH_take (i := 1) (v := ?_) rfl (by kernel_rfl) (by kernel_rfl) (by kernel_rfl) (fun _ _ _ h => h) (Or.inl ⟨by rfl, ?_⟩) (by assumption) ?_; rotate_left; (· intro w hSw; (try dsimp only at hSw); go_simp; (try with_reducible rfl)))
    | fail "TK 1"
  try simp only [Act.put, List.setIfInBounds_toArray, List.set_cons_zero, List.set_cons_succ, List.getElem_toArray, List.getElem_cons_succ, List.getElem_cons_zero]
  first
    | (refine wpAnyH_take (i := 2) (v := undef) rfl (by kernel_rfl) (by kernel_rfl) (by kernel_rfl) (fun _ _ _ h => h) (Or.inr ⟨by rfl, rfl⟩) (by assumption) ?_)
    | (refine wpAnyH_take (i := 2) (v := ?_) rfl (by kernel_rfl) (by kernel_rfl) (by kernel_rfl) (fun _ _ _ h => h) (Or.inl ⟨by rfl, ?_⟩) (by assumption) ?_; rotate_left; (· intro w hSw; (try dsimp only at hSw); go_simp; (try with_reducible rfl)))
    | fail "TK 2"
  try simp only [Act.put, List.setIfInBounds_toArray, List.set_cons_zero, List.set_cons_succ, List.getElem_toArray, List.getElem_cons_succ, List.getElem_cons_zero]
  first
    | (refine wpAnyH_take (i := 3) (v := undef) rfl (by kernel_rfl) (by kernel_rfl) (by kernel_rfl) (fun _ _ _ h => h) (Or.inr ⟨by rfl, rfl⟩) (by assumption) ?_)
    | (refine wpAnyH_take (i := 3) (v := ?_) rfl (by kernel_rfl) (by kernel_rfl) (by kernel_rfl) (fun _ _ _ h => h) (Or.inl ⟨by rfl, ?_⟩) (by assumption) ?_; rotate_left; (· intro w hSw; (try dsimp only at hSw); go_simp; (try with_reducible rfl)))
    | fail "TK 3"
  try simp only [Act.put, List.setIfInBounds_toArray, List.set_cons_zero, List.set_cons_succ, List.getElem_toArray, List.getElem_cons_succ, List.getElem_cons_zero]
  first
    | (refine wpAnyH_take (i := 4) (v := undef) rfl (by kernel_rfl) (by kernel_rfl) (by kernel_rfl) (fun _ _ _ h => h) (Or.inr ⟨by rfl, rfl⟩) (by assumption) ?_)
    | (refine wpAnyH_take (i := 4) (v := ?_) rfl (by kernel_rfl) (by kernel_rfl) (by kernel_rfl) (fun _ _ _ h => h) (Or.inl ⟨by rfl, ?_⟩) (by assumption) ?_; rotate_left; (· intro w hSw; (try dsimp only at hSw); go_simp; (try with_reducible rfl)))
    | fail "TK 4"
  try simp only [Act.put, List.setIfInBounds_toArray, List.set_cons_zero, List.set_cons_succ, List.getElem_toArray, List.getElem_cons_succ, List.getElem_cons_zero]
  first
    | (refine wpAnyH_take (i := 5) (v := undef) rfl (by kernel_rfl) (by kernel_rfl) (by kernel_rfl) (fun _ _ _ h => h) (Or.inr ⟨by rfl, rfl⟩) (by assumption) ?_)
    | (refine wpAnyH_take (i := 5) (v := ?_) rfl (by kernel_rfl) (by kernel_rfl) (by kernel_rfl) (fun _ _ _ h => h) (Or.inl ⟨by rfl, ?_⟩) (by assumption) ?_; rotate_left; (· intro w hSw; (try dsimp only at hSw); go_simp; (try with_reducible rfl)))
    | fail "TK 5"
  try simp only [Act.put, List.setIfInBounds_toArray, List.set_cons_zero, List.set_cons_succ, List.getElem_toArray, List.getElem_cons_succ, List.getElem_cons_zero]
  first
    | (refine wpAnyH_take (i := 6) (v := undef) rfl (by kernel_rfl) (by kernel_rfl) (by kernel_rfl) (fun _ _ _ h => h) (Or.inr ⟨by rfl, rfl⟩) (by assumption) ?_)
    | (refine wpAnyH_take (i := 6) (v := ?_) rfl (by kernel_rfl) (by kernel_rfl) (by kernel_rfl) (fun _ _ _ h => h) (Or.inl ⟨by rfl, ?_⟩) (by assumption) ?_; rotate_left; (· intro w hSw; (try dsimp only at hSw); go_simp; (try with_reducible rfl)))
    | fail "TK 6"
  try simp only [Act.put, List.setIfInBounds_toArray, List.set_cons_zero, List.set_cons_succ, List.getElem_toArray, List.getElem_cons_succ, List.getElem_cons_zero]
  first
    | (refine wpAnyH_take (i := 7) (v := undef) rfl (by kernel_rfl) (by kernel_rfl) (by kernel_rfl) (fun _ _ _ h => h) (Or.inr ⟨by rfl, rfl⟩) (by assumption) ?_)
    | (refine wpAnyH_take (i := 7) (v := ?_) rfl (by kernel_rfl) (by kernel_rfl) (by kernel_rfl) (fun _ _ _ h => h) (Or.inl ⟨by rfl, ?_⟩) (by assumption) ?_; rotate_left; (· intro w hSw; (try dsimp only at hSw); go_simp; (try with_reducible rfl)))
    | fail "TK 7"
  try simp only [Act.put, List.setIfInBounds_toArray, List.set_cons_zero, List.set_cons_succ, List.getElem_toArray, List.getElem_cons_succ, List.getElem_cons_zero]
  first
    | (refine wpAnyH_take (i := 8) (v := undef) rfl (by kernel_rfl) (by kernel_rfl) (by kernel_rfl) (fun _ _ _ h => h) (Or.inr ⟨by rfl, rfl⟩) (by assumption) ?_)
    | (refine wpAnyH_take (i := 8) (v := ?_) rfl (by kernel_rfl) (by kernel_rfl) (by kernel_rfl) (fun _ _ _ h => h) (Or.inl ⟨by rfl, ?_⟩) (by assumption) ?_; rotate_left; (· intro w hSw; (try dsimp only at hSw); go_simp; (try with_reducible rfl)))
    | fail "TK 8"
  try simp only [Act.put, List.setIfInBounds_toArray, List.set_cons_zero, List.set_cons_succ, List.getElem_toArray, List.getElem_cons_succ, List.getElem_cons_zero]
  first
    | (refine wpAnyH_take (i := 9) (v := undef) rfl (by kernel_rfl) (by kernel_rfl) (by kernel_rfl) (fun _ _ _ h => h) (Or.inr ⟨by rfl, rfl⟩) (by assumption) ?_)
    | (refine wpAnyH_take (i := 9) (v := ?_) rfl (by kernel_rfl) (by kernel_rfl) (by kernel_rfl) (fun _ _ _ h => h) (Or.inl ⟨by rfl, ?_⟩) (by assumption) ?_; rotate_left; (· intro w hSw; (try dsimp only at hSw); go_simp; (try with_reducible rfl)))
    | fail "TK 9"
  try simp only [Act.put, List.setIfInBounds_toArray, List.set_cons_zero, List.set_cons_succ, List.getElem_toArray, List.getElem_cons_succ, List.getElem_cons_zero]
  first
    | (refine wpAnyH_take (i := 11) (v := undef) rfl (by kernel_rfl) (by kernel_rfl) (by kernel_rfl) (fun _ _ _ h => h) (Or.inr ⟨by rfl, rfl⟩) (by assumption) ?_)
    | (refine wpAnyH_take (i := 11) (v := ?_) rfl (by kernel_rfl) (by kernel_rfl) (by kernel_rfl) (fun _ _ _ h => h) (Or.inl ⟨by rfl, ?_⟩) (by assumption) ?_; rotate_left; (· intro w hSw; (try dsimp only at hSw); go_simp; (try with_reducible rfl)))
    | fail "TK 11"
  try simp only [Act.put, List.setIfInBounds_toArray, List.set_cons_zero, List.set_cons_succ, List.getElem_toArray, List.getElem_cons_succ, List.getElem_cons_zero]
  refine wpAnyH_ready (rs := [10]) (by kernel_rfl) (by simp) ?_
  refine AllReadyH.cons rfl (fun K hK => ?_) AllReadyH.nil
  try simp only [List.getElem_toArray, List.getElem_cons_succ, List.getElem_cons_zero]
  first
    | (go_at_call 8; refine (HV.out _).mono ?_; rintro e w1 ⟨rfl, hb⟩; have b1 := undrew hb; clear hb)
    | (go_simp; (go_at_call 8; refine (HV.out _).mono ?_; rintro e w1 ⟨rfl, hb⟩; have b1 := undrew hb; clear hb))
    | fail "CALL 10"
  try go_wp2_with fail
  refine hK.out _ _ ?_ (fun hHeld2 => ?_)
  · (first | go_keep | (refine ⟨⟨?_, ?_, ?_, ?_⟩, ⟨?_, ?_, ?_, ?_, ?_, ?_⟩, ⟨?_, ?_, ?_, ?_⟩, ⟨?_, ?_, ?_, ?_⟩⟩ <;> first | assumption | (rw [b1.cell (by simp <;> omega)]; assumption)))
  clear hK K hHeld
  have hHeld := hHeld2
  clear hHeld2
  try simp only [Act.put, List.setIfInBounds_toArray, List.set_cons_zero, List.set_cons_succ, List.getElem_toArray, List.getElem_cons_succ, List.getElem_cons_zero]
  refine wpAnyH_ready (rs := [12]) (by kernel_rfl) (by simp) ?_
  refine AllReadyH.cons rfl (fun K hK => ?_) AllReadyH.nil
  try simp only [List.getElem_toArray, List.getElem_cons_succ, List.getElem_cons_zero]
  first
    | (go_at_call 9; refine (HVR.out _).mono ?_; rintro e w2 ⟨rfl, hb⟩; have b2 := b1.trans (hb.mono b1.size); clear hb)
    | (go_simp; (go_at_call 9; refine (HVR.out _).mono ?_; rintro e w2 ⟨rfl, hb⟩; have b2 := b1.trans (hb.mono b1.size); clear hb))
    | fail "CALL 12"
  try go_wp2_with fail
  refine hK.out _ _ ?_ (fun hHeld2 => ?_)
  · (first | go_keep | (refine ⟨⟨?_, ?_, ?_, ?_⟩, ⟨?_, ?_, ?_, ?_, ?_, ?_⟩, ⟨?_, ?_, ?_, ?_⟩, ⟨?_, ?_, ?_, ?_⟩⟩ <;> first | assumption | (rw [b2.cell (by simp <;> omega)]; assumption)))
  clear hK K hHeld
  have hHeld := hHeld2
  clear hHeld2
  try simp only [Act.put, List.setIfInBounds_toArray, List.set_cons_zero, List.set_cons_succ, List.getElem_toArray, List.getElem_cons_succ, List.getElem_cons_zero]
  first
    | (refine wpAnyH_take (i := 13) (v := undef) rfl (by kernel_rfl) (by kernel_rfl) (by kernel_rfl) (fun _ _ _ h => h) (Or.inr ⟨by rfl, rfl⟩) (by assumption) ?_)
    | (refine wpAnyH_take (i := 13) (v := ?_) rfl (by kernel_rfl) (by kernel_rfl) (by kernel_rfl) (fun _ _ _ h => h) (Or.inl ⟨by rfl, ?_⟩) (by assumption) ?_; rotate_left; (· intro w hSw; (try dsimp only at hSw); go_simp; (try with_reducible rfl)))
    | fail "TK 13"
  try simp only [Act.put, List.setIfInBounds_toArray, List.set_cons_zero, List.set_cons_succ, List.getElem_toArray, List.getElem_cons_succ, List.getElem_cons_zero]
  first
    | (refine wpAnyH_take (i := 14) (v := undef) rfl (by kernel_rfl) (by kernel_rfl) (by kernel_rfl) (fun _ _ _ h => h) (Or.inr ⟨by rfl, rfl⟩) (by assumption) ?_)
    | (refine wpAnyH_take (i := 14) (v := ?_) rfl (by kernel_rfl) (by kernel_rfl) (by kernel_rfl) (fun _ _ _ h => h) (Or.inl ⟨by rfl, ?_⟩) (by assumption) ?_; rotate_left; (· intro w hSw; (try dsimp only at hSw); go_simp; (try with_reducible rfl)))
    | fail "TK 14"
  try simp only [Act.put, List.setIfInBounds_toArray, List.set_cons_zero, List.set_cons_succ, List.getElem_toArray, List.getElem_cons_succ, List.getElem_cons_zero]
  first
    | (refine wpAnyH_take (i := 15) (v := undef) rfl (by kernel_rfl) (by kernel_rfl) (by kernel_rfl) (fun _ _ _ h => h) (Or.inr ⟨by rfl, rfl⟩) (by assumption) ?_)
    | (refine wpAnyH_take (i := 15) (v := ?_) rfl (by kernel_rfl) (by kernel_rfl) (by kernel_rfl) (fun _ _ _ h => h) (Or.inl ⟨by rfl, ?_⟩) (by assumption) ?_; rotate_left; (· intro w hSw; (try dsimp only at hSw); go_simp; (try with_reducible rfl)))
    | fail "TK 15"
  try simp only [Act.put, List.setIfInBounds_toArray, List.set_cons_zero, List.set_cons_succ, List.getElem_toArray, List.getElem_cons_succ, List.getElem_cons_zero]
  first
    | (refine wpAnyH_take (i := 16) (v := undef) rfl (by kernel_rfl) (by kernel_rfl) (by kernel_rfl) (fun _ _ _ h => h) (Or.inr ⟨by rfl, rfl⟩) (by assumption) ?_)
    | (refine wpAnyH_take (i := 16) (v := ?_) rfl (by kernel_rfl) (by kernel_rfl) (by kernel_rfl) (fun _ _ _ h => h) (Or.inl ⟨by rfl, ?_⟩) (by assumption) ?_; rotate_left; (· intro w hSw; (try dsimp only at hSw); go_simp; (try with_reducible rfl)))
    | fail "TK 16"
  try simp only [Act.put, List.setIfInBounds_toArray, List.set_cons_zero, List.set_cons_succ, List.getElem_toArray, List.getElem_cons_succ, List.getElem_cons_zero]
  first
    | (refine wpAnyH_take (i := 18) (v := undef) rfl (by kernel_rfl) (by kernel_rfl) (by kernel_rfl) (fun _ _ _ h => h) (Or.inr ⟨by rfl, rfl⟩) (by assumption) ?_)
    | (refine wpAnyH_take (i := 18) (v := ?_) rfl (by kernel_rfl) (by kernel_rfl) (by kernel_rfl) (fun _ _ _ h => h) (Or.inl ⟨by rfl, ?_⟩) (by assumption) ?_; rotate_left; (· intro w hSw; (try dsimp only at hSw); go_simp; (try with_reducible rfl)))
    | fail "TK 18"
  try simp only [Act.put, List.setIfInBounds_toArray, List.set_cons_zero, List.set_cons_succ, List.getElem_toArray, List.getElem_cons_succ, List.getElem_cons_zero]
  refine wpAnyH_ready (rs := [17]) (by kernel_rfl) (by simp) ?_
  refine AllReadyH.cons rfl (fun K hK => ?_) AllReadyH.nil
  try simp only [List.getElem_toArray, List.getElem_cons_succ, List.getElem_cons_zero]
  first
    | (go_at_call 10; refine (HR.out _).mono ?_; rintro e w3 ⟨rfl, hb⟩; have b3 := b2.trans (hb.mono b2.size); clear hb)
    | (go_simp; (go_at_call 10; refine (HR.out _).mono ?_; rintro e w3 ⟨rfl, hb⟩; have b3 := b2.trans (hb.mono b2.size); clear hb))
    | fail "CALL 17"
  try go_wp2_with fail
  refine hK.out _ _ ?_ (fun hHeld2 => ?_)
  · (first | go_keep | (refine ⟨⟨?_, ?_, ?_, ?_⟩, ⟨?_, ?_, ?_, ?_, ?_, ?_⟩, ⟨?_, ?_, ?_, ?_⟩, ⟨?_, ?_, ?_, ?_⟩⟩ <;> first | assumption | (rw [b3.cell (by simp <;> omega)]; assumption)))
  clear hK K hHeld
  have hHeld := hHeld2
  clear hHeld2
  try simp only [Act.put, List.setIfInBounds_toArray, List.set_cons_zero, List.set_cons_succ, List.getElem_toArray, List.getElem_cons_succ, List.getElem_cons_zero]
  refine wpAnyH_ready (rs := [19]) (by kernel_rfl) (by simp) ?_
  refine AllReadyH.cons rfl (fun K hK => ?_) AllReadyH.nil
  try simp only [List.getElem_toArray, List.getElem_cons_succ, List.getElem_cons_zero]
  first
    | (go_at_call 11; refine (HRR.out _).mono ?_; rintro e w4 ⟨rfl, hb⟩; have b4 := b3.trans (hb.mono b3.size); clear hb)
    | (go_simp; (go_at_call 11; refine (HRR.out _).mono ?_; rintro e w4 ⟨rfl, hb⟩; have b4 := b3.trans (hb.mono b3.size); clear hb))
    | fail "CALL 19"
  try go_wp2_with fail
  refine hK.out _ _ ?_ (fun hHeld2 => ?_)
  · (first | go_keep | (refine ⟨⟨?_, ?_, ?_, ?_⟩, ⟨?_, ?_, ?_, ?_, ?_, ?_⟩, ⟨?_, ?_, ?_, ?_⟩, ⟨?_, ?_, ?_, ?_⟩⟩ <;> first | assumption | (rw [b4.cell (by simp <;> omega)]; assumption)))
  clear hK K hHeld
  have hHeld := hHeld2
  clear hHeld2
  try simp only [Act.put, List.setIfInBounds_toArray, List.set_cons_zero, List.set_cons_succ, List.getElem_toArray, List.getElem_cons_succ, List.getElem_cons_zero]
  first
    | (refine wpAnyH_take (i := 20) (v := undef) rfl (by kernel_rfl) (by kernel_rfl) (by kernel_rfl) (fun _ _ _ h => h) (Or.inr ⟨by rfl, rfl⟩) (by assumption) ?_)
    | (refine wpAnyH_take (i := 20) (v := ?_) rfl (by kernel_rfl) (by kernel_rfl) (by kernel_rfl) (fun _ _ _ h => h) (Or.inl ⟨by rfl, ?_⟩) (by assumption) ?_; rotate_left; (· intro w hSw; (try dsimp only at hSw); go_simp; (try with_reducible rfl)))
    | fail "TK 20"
  try simp only [Act.put, List.setIfInBounds_toArray, List.set_cons_zero, List.set_cons_succ, List.getElem_toArray, List.getElem_cons_succ, List.getElem_cons_zero]
  first
    | (refine wpAnyH_take (i := 21) (v := undef) rfl (by kernel_rfl) (by kernel_rfl) (by kernel_rfl) (fun _ _ _ h => h) (Or.inr ⟨by rfl, rfl⟩) (by assumption) ?_)
    | (refine wpAnyH_take (i := 21) (v := ?_) rfl (by kernel_rfl) (by kernel_rfl) (by kernel_rfl) (fun _ _ _ h => h) (Or.inl ⟨by rfl, ?_⟩) (by assumption) ?_; rotate_left; (· intro w hSw; (try dsimp only at hSw); go_simp; (try with_reducible rfl)))
    | fail "TK 21"
  try simp only [Act.put, List.setIfInBounds_toArray, List.set_cons_zero, List.set_cons_succ, List.getElem_toArray, List.getElem_cons_succ, List.getElem_cons_zero]
  first
    | (refine wpAnyH_take (i := 22) (v := undef) rfl (by kernel_rfl) (by kernel_rfl) (by kernel_rfl) (fun _ _ _ h => h) (Or.inr ⟨by rfl, rfl⟩) (by assumption) ?_)
    | (refine wpAnyH_take (i := 22) (v := ?_) rfl (by kernel_rfl) (by kernel_rfl) (by kernel_rfl) (fun _ _ _ h => h) (Or.inl ⟨by rfl, ?_⟩) (by assumption) ?_; rotate_left; (· intro w hSw; (try dsimp only at hSw); go_simp; (try with_reducible rfl)))
    | fail "TK 22"
  try simp only [Act.put, List.setIfInBounds_toArray, List.set_cons_zero, List.set_cons_succ, List.getElem_toArray, List.getElem_cons_succ, List.getElem_cons_zero]
  first
    | (refine wpAnyH_take (i := 23) (v := undef) rfl (by kernel_rfl) (by kernel_rfl) (by kernel_rfl) (fun _ _ _ h => h) (Or.inr ⟨by rfl, rfl⟩) (by assumption) ?_)
    | (refine wpAnyH_take (i := 23) (v := ?_) rfl (by kernel_rfl) (by kernel_rfl) (by kernel_rfl) (fun _ _ _ h => h) (Or.inl ⟨by rfl, ?_⟩) (by assumption) ?_; rotate_left; (· intro w hSw; (try dsimp only at hSw); go_simp; (try with_reducible rfl)))
    | fail "TK 23"
  try simp only [Act.put, List.setIfInBounds_toArray, List.set_cons_zero, List.set_cons_succ, List.getElem_toArray, List.getElem_cons_succ, List.getElem_cons_zero]
  first
    | (refine wpAnyH_take (i := 24) (v := undef) rfl (by kernel_rfl) (by kernel_rfl) (by kernel_rfl) (fun _ _ _ h => h) (Or.inr ⟨by rfl, rfl⟩) (by assumption) ?_)
    | (refine wpAnyH_take (i := 24) (v := ?_) rfl (by kernel_rfl) (by kernel_rfl) (by kernel_rfl) (fun _ _ _ h => h) (Or.inl ⟨by rfl, ?_⟩) (by assumption) ?_; rotate_left; (· intro w hSw; (try dsimp only at hSw); go_simp; (try with_reducible rfl)))
    | fail "TK 24"
  try simp only [Act.put, List.setIfInBounds_toArray, List.set_cons_zero, List.set_cons_succ, List.getElem_toArray, List.getElem_cons_succ, List.getElem_cons_zero]
  first
    | (refine wpAnyH_take (i := 26) (v := undef) rfl (by kernel_rfl) (by kernel_rfl) (by kernel_rfl) (fun _ _ _ h => h) (Or.inr ⟨by rfl, rfl⟩) (by assumption) ?_)
    | (refine wpAnyH_take (i := 26) (v := ?_) rfl (by kernel_rfl) (by kernel_rfl) (by kernel_rfl) (fun _ _ _ h => h) (Or.inl ⟨by rfl, ?_⟩) (by assumption) ?_; rotate_left; (· intro w hSw; (try dsimp only at hSw); go_simp; (try with_reducible rfl)))
    | fail "TK 26"
  try simp only [Act.put, List.setIfInBounds_toArray, List.set_cons_zero, List.set_cons_succ, List.getElem_toArray, List.getElem_cons_succ, List.getElem_cons_zero]
  first
    | (refine wpAnyH_take (i := 27) (v := undef) rfl (by kernel_rfl) (by kernel_rfl) (by kernel_rfl) (fun _ _ _ h => h) (Or.inr ⟨by rfl, rfl⟩) (by assumption) ?_)
    | (refine wpAnyH_take (i := 27) (v := ?_) rfl (by kernel_rfl) (by kernel_rfl) (by kernel_rfl) (fun _ _ _ h => h) (Or.inl ⟨by rfl, ?_⟩) (by assumption) ?_; rotate_left; (· intro w hSw; (try dsimp only at hSw); go_simp; (try with_reducible rfl)))
    | fail "TK 27"
  try simp only [Act.put, List.setIfInBounds_toArray, List.set_cons_zero, List.set_cons_succ, List.getElem_toArray, List.getElem_cons_succ, List.getElem_cons_zero]
  refine wpAnyH_ready (rs := [25]) (by kernel_rfl) (by simp) ?_
  refine AllReadyH.cons rfl (fun K hK => ?_) AllReadyH.nil
  try simp only [List.getElem_toArray, List.getElem_cons_succ, List.getElem_cons_zero]
  first
    | (go_at_call 12; refine (HH.out _).mono ?_; rintro e w5 ⟨rfl, hb⟩; have b5 := b4.trans (hb.mono b4.size); clear hb)
    | (go_simp; (go_at_call 12; refine (HH.out _).mono ?_; rintro e w5 ⟨rfl, hb⟩; have b5 := b4.trans (hb.mono b4.size); clear hb))
    | fail "CALL 25"
  try go_wp2_with fail
  refine hK.out _ _ ?_ (fun hHeld2 => ?_)
  · (first | go_keep | (refine ⟨⟨?_, ?_, ?_, ?_⟩, ⟨?_, ?_, ?_, ?_, ?_, ?_⟩, ⟨?_, ?_, ?_, ?_⟩, ⟨?_, ?_, ?_, ?_⟩⟩ <;> first | assumption | (rw [b5.cell (by simp <;> omega)]; assumption)))
  clear hK K hHeld
  have hHeld := hHeld2
  clear hHeld2
  try simp only [Act.put, List.setIfInBounds_toArray, List.set_cons_zero, List.set_cons_succ, List.getElem_toArray, List.getElem_cons_succ, List.getElem_cons_zero]
  refine wpAnyH_ready (rs := [28]) (by kernel_rfl) (by simp) ?_
  refine AllReadyH.cons rfl (fun K hK => ?_) AllReadyH.nil
  try simp only [List.getElem_toArray, List.getElem_cons_succ, List.getElem_cons_zero]
  first
    | (go_at_call 13; refine (HHR.out _).mono ?_; rintro e w6 ⟨rfl, hb⟩; have b6 := b5.trans (hb.mono b5.size); clear hb)
    | (go_simp; (go_at_call 13; refine (HHR.out _).mono ?_; rintro e w6 ⟨rfl, hb⟩; have b6 := b5.trans (hb.mono b5.size); clear hb))
    | fail "CALL 28"
  try go_wp2_with fail
  refine hK.out _ _ ?_ (fun hHeld2 => ?_)
  · (first | go_keep | (refine ⟨⟨?_, ?_, ?_, ?_⟩, ⟨?_, ?_, ?_, ?_, ?_, ?_⟩, ⟨?_, ?_, ?_, ?_⟩, ⟨?_, ?_, ?_, ?_⟩⟩ <;> first | assumption | (rw [b6.cell (by simp <;> omega)]; assumption)))
  clear hK K hHeld
  have hHeld := hHeld2
  clear hHeld2
  try simp only [Act.put, List.setIfInBounds_toArray, List.set_cons_zero, List.set_cons_succ, List.getElem_toArray, List.getElem_cons_succ, List.getElem_cons_zero]
  first
    | (refine wpAnyH_take (i := 29) (v := undef) rfl (by kernel_rfl) (by kernel_rfl) (by kernel_rfl) (fun _ _ _ h => h) (Or.inr ⟨by rfl, rfl⟩) (by assumption) ?_)
    | (refine wpAnyH_take (i := 29) (v := ?_) rfl (by kernel_rfl) (by kernel_rfl) (by kernel_rfl) (fun _ _ _ h => h) (Or.inl ⟨by rfl, ?_⟩) (by assumption) ?_; rotate_left; (· intro w hSw; (try dsimp only at hSw); go_simp; (try with_reducible rfl)))
    | fail "TK 29"
  try simp only [Act.put, List.setIfInBounds_toArray, List.set_cons_zero, List.set_cons_succ, List.getElem_toArray, List.getElem_cons_succ, List.getElem_cons_zero]
  first
    | (refine wpAnyH_take (i := 30) (v := undef) rfl (by kernel_rfl) (by kernel_rfl) (by kernel_rfl) (fun _ _ _ h => h) (Or.inr ⟨by rfl, rfl⟩) (by assumption) ?_)
    | (refine wpAnyH_take (i := 30) (v := ?_) rfl (by kernel_rfl) (by kernel_rfl) (by kernel_rfl) (fun _ _ _ h => h) (Or.inl ⟨by rfl, ?_⟩) (by assumption) ?_; rotate_left; (· intro w hSw; (try dsimp only at hSw); go_simp; (try with_reducible rfl)))
    | fail "TK 30"
  try simp only [Act.put, List.setIfInBounds_toArray, List.set_cons_zero, List.set_cons_succ, List.getElem_toArray, List.getElem_cons_succ, List.getElem_cons_zero]
  refine wpAnyH_done (by kernel_rfl) ?_ _
  clear v0 v1 v2 v3 t0 t1 t2 t3 t4 t5 z0 z1 z2 z3 y0 y1 y2 y3
  have ZZ := Z5.keep b6
  have TT := T5.keep b6
  have BB := Lib.hid (bl_then B5.out b6)
  obtain ⟨t0, t1, t2, t3, t4, t5⟩ := TT.six
  obtain ⟨z0, z1, z2, z3⟩ := ZZ.four
  clear hHeld V5 T5 Z5 Y4 b1 b2 b3 b4 b5 b6
  by_cases h0 : ze = 0
  · have HZ0 := Lib.hid (HHZ.out h0)
    subst h0
    go_wp2_with (first
      | (go_at_call 12; (with_reducible refine (HZ0.out _).mono ?_); rintro e w8 ⟨rfl, hb⟩; have B8 := Lib.hid (bl_then BB.out hb); clear hb)
      | (go_at_call 5; (with_reducible refine (HAW.out _).mono ?_); rintro e w9 ⟨rfl, hb⟩; have B9 := Lib.hid (bl_then B8.out hb); clear hb))
    go_ret
    exact ⟨rfl, B9.out⟩
  · have h1 : (ze != 0) = true := by simpa using h0
    go_wp2_with (first
      | (go_at_call 5; (with_reducible refine (HAW.out _).mono ?_); rintro e w9 ⟨rfl, hb⟩; have B9 := Lib.hid (bl_then BB.out hb); clear hb))
    go_ret
    exact ⟨rfl, B9.out⟩
end Go.Proofs.YtjdgefgdekanjaaGreatDoor
