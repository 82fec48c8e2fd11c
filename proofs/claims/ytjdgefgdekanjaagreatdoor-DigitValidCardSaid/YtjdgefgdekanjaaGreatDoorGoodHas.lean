/- What a value of a type is, exactly; ironbarkref01.Has, of any type and value. -/
import Derived.Test.YtjdgefgdekanjaaGreatDoorGood
import Derived.Test.YtjdgefgdekanjaaGreatDoorExFit0
namespace Go.Proofs.YtjdgefgdekanjaaGreatDoor
open Go.RowKit

/-- A right value of a valid type's kind has room in it. -/
def HoldG (tk tp tq tn : Int) (vy : Bool) (n q : Int) (s : ByteArray) : Prop :=
  if tk = 1 then q = tq ∧ n.natAbs < 2 ^ tp.toNat else if tk = 2 then q = tq ∧ n.natAbs < 10 ^ tp.toNat
  else if tk = 3 then ((digs n.natAbs).length : Int) ≤ tp else if tk = 4 ∨ tk = 5 then (s.size : Int) = tn ∨ vy = true ∧ (s.size : Int) < tn else True
theorem hold_1 (tp tq tn : Int) (vy : Bool) (n q : Int) (s : ByteArray) : HoldG 1 tp tq tn vy n q s = (q = tq ∧ n.natAbs < 2 ^ tp.toNat) := if_pos rfl
theorem hold_2 (tp tq tn : Int) (vy : Bool) (n q : Int) (s : ByteArray) : HoldG 2 tp tq tn vy n q s = (q = tq ∧ n.natAbs < 10 ^ tp.toNat) := by unfold HoldG; rw [if_neg (by decide), if_pos rfl]
theorem hold_3 (tp tq tn : Int) (vy : Bool) (n q : Int) (s : ByteArray) : HoldG 3 tp tq tn vy n q s = (((digs n.natAbs).length : Int) ≤ tp) := by unfold HoldG; rw [if_neg (by decide), if_neg (by decide), if_pos rfl]
theorem hold_s (tk tp tq tn : Int) (vy : Bool) (n q : Int) (s : ByteArray) (hk : tk = 4 ∨ tk = 5) : HoldG tk tp tq tn vy n q s = ((s.size : Int) = tn ∨ vy = true ∧ (s.size : Int) < tn) := by
  unfold HoldG; rw [if_neg (by omega), if_neg (by omega), if_neg (by omega), if_pos hk]
theorem hold_any (tk tp tq tn : Int) (vy : Bool) (n q : Int) (s : ByteArray) (hk : tk < 1 ∨ 6 ≤ tk) : HoldG tk tp tq tn vy n q s = True := by
  unfold HoldG; rw [if_neg (by omega), if_neg (by omega), if_neg (by omega), if_neg (by omega)]
/-- A value is of a type (1.1). -/
def HasG (tk tp tq tn : Int) (vy : Bool) (pic : ByteArray) (vk n q : Int) (s : ByteArray) : Prop :=
  validS tk tp tq tn vy pic = true ∧ GoodP vk n q s ∧ tk = vk ∧ HoldG tk tp tq tn vy n q s

theorem gvalidB (b : Bool) (k p q n : Int) (vy : Bool) (pic : ByteArray) (w : World) (hs : pic.size ≤ maxLen) (h : validS k p q n vy pic = b) :
    Calls Tryz.prog 9 #[tyV k p q n vy pic] w fun e w' => e = .returned (.bool b) ∧ Below w.heap.size w w' := by subst h; exact refValid_any k p q n vy pic w hs
theorem gtwo {w w1 : World} {A B : Obj} (hb : Below ((w.alloc A).alloc B).heap.size ((w.alloc A).alloc B) w1) :
    w1.heap[w.heap.size]? = some A ∧ w1.heap[w.heap.size + 1]? = some B ∧ w.heap.size + 1 < w1.heap.size ∧ Below w.heap.size w w1 := by
  have hs := hb.size
  exact ⟨hx_keep (hx_old (hx_last w A _ rfl)) hb, hx_keep (hx_last (w.alloc A) B _ (by simp)) hb, by simp at hs; omega,
    (((Below.refl _ w).alloc (Nat.le_refl _) _).alloc (by simp <;> omega) _).trans (hb.mono (by simp <;> omega))⟩
theorem ord_iff (a b : Nat) : ord a b < 0 ↔ a < b := by unfold ord; split <;> (try split) <;> constructor <;> intro h <;> omega
theorem gfld_ex (a b c : Value) (w : World) : (Instr.field 55 (.agg #[a, b, c]) 1).run Tryz.prog w = .ok b w := by kernel_rfl
theorem nil_of {s : ByteArray} (h : s.toList = []) : s = ⟨#[]⟩ := empty_of s h
theorem fixS_of {m k p q n : Int} {vy : Bool} {pic : ByteArray} (h : validFixedS m k p q n vy pic = true) : (1 ≤ p ∧ p ≤ m) ∧ (0 ≤ q ∧ q ≤ 31) ∧ n = 0 ∧ vy = false ∧ pic = ⟨#[]⟩ := by
  simp only [validFixedS, Bool.and_eq_true, decide_eq_true_eq, beq_iff_eq] at h
  exact ⟨h.1.1, h.1.2, h.2.1.1, h.2.1.2, nil_of h.2.2⟩
theorem valid_1_of {p q n : Int} {vy : Bool} {pic : ByteArray} (h : validS 1 p q n vy pic = true) : (1 ≤ p ∧ p ≤ 31) ∧ (0 ≤ q ∧ q ≤ 31) ∧ n = 0 ∧ vy = false ∧ pic = ⟨#[]⟩ :=
  fixS_of (m := 31) (k := 1) h
theorem valid_2_of {p q n : Int} {vy : Bool} {pic : ByteArray} (h : validS 2 p q n vy pic = true) : (1 ≤ p ∧ p ≤ 15) ∧ (0 ≤ q ∧ q ≤ 31) ∧ n = 0 ∧ vy = false ∧ pic = ⟨#[]⟩ :=
  fixS_of (m := 15) (k := 2) (show validFixedS 15 2 p q n vy pic = true from h)

set_option maxRecDepth 100000 in
set_option maxHeartbeats 1000000 in
theorem hRef_bad (tk tp tq tn : Int) (vy : Bool) (pic : ByteArray) (vk n q : Int) (s : ByteArray) (w : World) (hp : pic.size ≤ maxLen) (hok : validS tk tp tq tn vy pic = false) :
    Calls Tryz.prog 13 #[tyV tk tp tq tn vy pic, valV vk n q s] w (IffB False w) := by
  have HP := Lib.hid hp
  have HO := Lib.hid hok
  clear hp hok
  go_enter Tryz.func13, Tryz.ntmps13
  go_wp2_with fail
  go_at_call 9
  refine (gvalidB false _ _ _ _ _ _ _ HP.out HO.out).mono ?_
  rintro e w1 ⟨rfl, hb1⟩
  obtain ⟨HT, HV, hz, hw1⟩ := gtwo hb1
  go_wp2_with fail
  go_ret
  exact iffB false (by simp) hw1

set_option maxRecDepth 100000 in
set_option maxHeartbeats 4000000 in
theorem hRef_1 (P Q : Nat) (vk n q : Int) (s : ByteArray) (w : World) (hs : s.size ≤ maxLen) (hP1 : 1 ≤ P) (hP : P ≤ 31) (_hQ : Q ≤ 31) (hok : validS 1 (P : Int) (Q : Int) 0 false ⟨#[]⟩ = true) :
    Calls Tryz.prog 13 #[tyV 1 (P : Int) (Q : Int) 0 false ⟨#[]⟩, valV vk n q s] w (IffB (GoodP vk n q s ∧ 1 = vk ∧ HoldG 1 (P : Int) (Q : Int) 0 false n q s) w) := by
  have HS := Lib.hid hs
  have hs' := hs
  unfold maxLen at hs'
  have HO := Lib.hid hok
  clear hs hok
  go_enter Tryz.func13, Tryz.ntmps13
  go_wp2_with fail
  go_at_call 9
  refine (gvalidB true _ _ _ _ _ _ _ (by decide) HO.out).mono ?_
  rintro e w1 ⟨rfl, hb1⟩
  obtain ⟨HT, HV, hz, hw1⟩ := gtwo hb1
  obtain ⟨t0, t1, t2, t3, t4, t5, tf⟩ := tcells HT
  obtain ⟨v0, v1, v2, v3, vf⟩ := vcells' HV
  have KT := Lib.hid HT
  have KV := Lib.hid HV
  clear HT HV hb1
  go_wp2_with fail
  go_at_call 11
  refine (gRef _ _ _ _ _ HS.out).mono ?_
  rintro e w2 ⟨r, rfl, hR, hb2⟩
  have hw2 := hw1.trans (hb2.mono hw1.size)
  have hz2 : w.heap.size + 1 < w2.heap.size := by have := hb2.size; omega
  have KT2 := Lib.hid (hx_keep KT.out hb2)
  have KV2 := Lib.hid (hx_keep KV.out hb2)
  clear t0 t1 t2 t3 t4 t5 tf v0 v1 v2 v3 vf KT KV hz hw1 hb2
  obtain ⟨t0, t1, t2, t3, t4, t5, tf⟩ := tcells KT2.out
  obtain ⟨v0, v1, v2, v3, vf⟩ := vcells' KV2.out
  have HR := Lib.hid hR
  clear hR
  cases r
  · go_wp2_with fail
    go_ret
    exact iffB false ⟨fun h => (by cases h), fun h => (by have := HR.out.2 h.1; cases this)⟩ hw2
  · by_cases hk : vk = 1
    · subst hk
      have hg := HR.out.1 rfl
      rw [good_1] at hg
      have HG := Lib.hid hg
      obtain ⟨f1, f2, f3, f4, f5⟩ := hg
      go_wp2_with fail
      go_region_held3 (fun w' => (w'.cell? ⟨w.heap.size, 0, none⟩ = some (.int .i64 1) ∧ w'.cell? ⟨w.heap.size, 1, none⟩ = some (.int .i64 (P : Int)) ∧ w'.cell? ⟨w.heap.size, 2, none⟩ = some (.int .i64 (Q : Int)) ∧ w'.cell? ⟨w.heap.size, 3, none⟩ = some (.int .i64 0) ∧ w'.cell? ⟨w.heap.size, 4, none⟩ = some (.bool false) ∧ w'.cell? ⟨w.heap.size, 5, none⟩ = some (.string ⟨#[]⟩)))
        (first | go_keep | (go_split_ands; refine ⟨?_, ?_, ?_, ?_, ?_, ?_⟩ <;> first | assumption | (rw [b4.cell (by simp <;> omega)]; assumption) | (rw [b3.cell (by simp <;> omega)]; assumption)))
        (first
          | (go_at_call 25; refine (base_1 _ _ _ _ _ _).mono ?_; rintro e w3 ⟨rfl, hb3⟩; have b3 := undrew hb3; clear hb3)
          | (go_at_call 24; refine (pow2_d P _ (by omega)).mono ?_; rintro e w4 ⟨v4, rfl, D4, hb4⟩; obtain ⟨p4, k4, rfl⟩ := D4.slice; have b4 := b3.trans (hb4.mono b3.size); clear hb4))
      have hz6 : w.heap.size + 1 < w4.heap.size := by have := b4.size; omega
      have KV4 := Lib.hid (hx_keep KV2.out b4)
      have hw4 := hw2.trans (b4.mono hw2.size)
      have D4 := Lib.hid D4
      clear t0 t1 t2 t3 t4 t5 tf v0 v1 v2 v3 vf b3 b4 KT2 KV2
      obtain ⟨v0, v1, v2, v3, vf⟩ := vcells' KV4.out
      have LP := digs_len_pow2 P
      have hfl := gfld_ex
      by_cases hq : q = (Q : Int)
      · subst hq
        have hq0 : ((Q : Int) == (Q : Int)) = true := by simp
        have HW := Lib.hid hw4
        clear hw4
        go_wp2_with (first
          | (go_at_call 27; refine (whole_d n _ (by omega) (by omega)).mono ?_; rintro e w5 ⟨v5, rfl, ⟨vn, vd, rfl, Dn, Dd⟩, hb5⟩; obtain ⟨pn, kn, rfl⟩ := Dn.slice; obtain ⟨pd, kd, rfl⟩ := Dd.slice; have DN := Lib.hid Dn; clear Dn Dd; have HW5 := Lib.hid (HW.out.trans (hb5.mono HW.out.size)); have C5 := Lib.hid (cmp_d DN.out (D4.out.keep hb5 (Nat.le_refl _)) (Nat.le_trans (digs_length n.natAbs 19 (by omega)) (by decide)) (by omega)); clear hb5)
          | (go_at_call 26; refine C5.out.mono ?_; rintro e w6 ⟨rfl, hb6⟩; have HW6 := Lib.hid (HW5.out.trans (hb6.mono HW5.out.size)); clear hb6))
        go_ret
        refine iffB _ ?_ HW6.out
        have e1 := ord_iff n.natAbs (2 ^ P)
        rw [hold_1, good_1]
        have hg := HG.out
        constructor
        · intro h
          have h2 : ord n.natAbs (2 ^ P) < 0 := by simpa using h
          exact ⟨hg, (by first | trivial | rfl), rfl, by simpa using e1.1 h2⟩
        · intro h
          have h2 := e1.2 (by simpa using h.2.2.2)
          simpa using h2
      · have hq0 : (q == (Q : Int)) = false := by simpa using hq
        go_wp2_with fail
        go_ret
        exact iffB false ⟨fun h => (by cases h), fun h => (by have h3 := h.2.2; rw [hold_1] at h3; exact absurd h3.1 hq)⟩ hw4
    · have hk' : ((1 : Int) != vk) = true := by rw [bne_iff_ne]; omega
      go_wp2_with fail
      go_ret
      exact iffB false ⟨fun h => (by cases h), fun h => absurd h.2.1.symm hk⟩ hw2

set_option maxRecDepth 100000 in
set_option maxHeartbeats 4000000 in
theorem hRef_2 (P Q : Nat) (vk n q : Int) (s : ByteArray) (w : World) (hs : s.size ≤ maxLen) (hP1 : 1 ≤ P) (hP : P ≤ 15) (_hQ : Q ≤ 31) (hok : validS 2 (P : Int) (Q : Int) 0 false ⟨#[]⟩ = true) :
    Calls Tryz.prog 13 #[tyV 2 (P : Int) (Q : Int) 0 false ⟨#[]⟩, valV vk n q s] w (IffB (GoodP vk n q s ∧ 2 = vk ∧ HoldG 2 (P : Int) (Q : Int) 0 false n q s) w) := by
  have HS := Lib.hid hs
  have hs' := hs
  unfold maxLen at hs'
  have HO := Lib.hid hok
  clear hs hok
  go_enter Tryz.func13, Tryz.ntmps13
  go_wp2_with fail
  go_at_call 9
  refine (gvalidB true _ _ _ _ _ _ _ (by decide) HO.out).mono ?_
  rintro e w1 ⟨rfl, hb1⟩
  obtain ⟨HT, HV, hz, hw1⟩ := gtwo hb1
  obtain ⟨t0, t1, t2, t3, t4, t5, tf⟩ := tcells HT
  obtain ⟨v0, v1, v2, v3, vf⟩ := vcells' HV
  have KT := Lib.hid HT
  have KV := Lib.hid HV
  clear HT HV hb1
  go_wp2_with fail
  go_at_call 11
  refine (gRef _ _ _ _ _ HS.out).mono ?_
  rintro e w2 ⟨r, rfl, hR, hb2⟩
  have hw2 := hw1.trans (hb2.mono hw1.size)
  have hz2 : w.heap.size + 1 < w2.heap.size := by have := hb2.size; omega
  have KT2 := Lib.hid (hx_keep KT.out hb2)
  have KV2 := Lib.hid (hx_keep KV.out hb2)
  clear t0 t1 t2 t3 t4 t5 tf v0 v1 v2 v3 vf KT KV hz hw1 hb2
  obtain ⟨t0, t1, t2, t3, t4, t5, tf⟩ := tcells KT2.out
  obtain ⟨v0, v1, v2, v3, vf⟩ := vcells' KV2.out
  have HR := Lib.hid hR
  clear hR
  cases r
  · go_wp2_with fail
    go_ret
    exact iffB false ⟨fun h => (by cases h), fun h => (by have := HR.out.2 h.1; cases this)⟩ hw2
  · by_cases hk : vk = 2
    · subst hk
      have hg := HR.out.1 rfl
      rw [good_2] at hg
      have HG := Lib.hid hg
      obtain ⟨f1, f2, f3, f4, f5⟩ := hg
      go_wp2_with fail
      go_region_held3 (fun w' => (w'.cell? ⟨w.heap.size, 0, none⟩ = some (.int .i64 2) ∧ w'.cell? ⟨w.heap.size, 1, none⟩ = some (.int .i64 (P : Int)) ∧ w'.cell? ⟨w.heap.size, 2, none⟩ = some (.int .i64 (Q : Int)) ∧ w'.cell? ⟨w.heap.size, 3, none⟩ = some (.int .i64 0) ∧ w'.cell? ⟨w.heap.size, 4, none⟩ = some (.bool false) ∧ w'.cell? ⟨w.heap.size, 5, none⟩ = some (.string ⟨#[]⟩)))
        (first | go_keep | (go_split_ands; refine ⟨?_, ?_, ?_, ?_, ?_, ?_⟩ <;> first | assumption | (rw [b4.cell (by simp <;> omega)]; assumption) | (rw [b3.cell (by simp <;> omega)]; assumption)))
        (first
          | (go_at_call 25; refine (base_2 _ _ _ _ _ _).mono ?_; rintro e w3 ⟨rfl, hb3⟩; have b3 := undrew hb3; clear hb3)
          | (go_at_call 24; refine (pow10_d P _ (by omega)).mono ?_; rintro e w4 ⟨v4, rfl, D4, hb4⟩; obtain ⟨p4, k4, rfl⟩ := D4.slice; have b4 := b3.trans (hb4.mono b3.size); clear hb4))
      have hz6 : w.heap.size + 1 < w4.heap.size := by have := b4.size; omega
      have KV4 := Lib.hid (hx_keep KV2.out b4)
      have hw4 := hw2.trans (b4.mono hw2.size)
      have D4 := Lib.hid D4
      clear t0 t1 t2 t3 t4 t5 tf v0 v1 v2 v3 vf b3 b4 KT2 KV2
      obtain ⟨v0, v1, v2, v3, vf⟩ := vcells' KV4.out
      have LP := Nat.le_of_eq (digs_len_pow10 P)
      have hfl := gfld_ex
      by_cases hq : q = (Q : Int)
      · subst hq
        have hq0 : ((Q : Int) == (Q : Int)) = true := by simp
        have HW := Lib.hid hw4
        clear hw4
        go_wp2_with (first
          | (go_at_call 27; refine (whole_d n _ (by omega) (by omega)).mono ?_; rintro e w5 ⟨v5, rfl, ⟨vn, vd, rfl, Dn, Dd⟩, hb5⟩; obtain ⟨pn, kn, rfl⟩ := Dn.slice; obtain ⟨pd, kd, rfl⟩ := Dd.slice; have DN := Lib.hid Dn; clear Dn Dd; have HW5 := Lib.hid (HW.out.trans (hb5.mono HW.out.size)); have C5 := Lib.hid (cmp_d DN.out (D4.out.keep hb5 (Nat.le_refl _)) (Nat.le_trans (digs_length n.natAbs 19 (by omega)) (by decide)) (by omega)); clear hb5)
          | (go_at_call 26; refine C5.out.mono ?_; rintro e w6 ⟨rfl, hb6⟩; have HW6 := Lib.hid (HW5.out.trans (hb6.mono HW5.out.size)); clear hb6))
        go_ret
        refine iffB _ ?_ HW6.out
        have e1 := ord_iff n.natAbs (10 ^ P)
        rw [hold_2, good_2]
        have hg := HG.out
        constructor
        · intro h
          have h2 : ord n.natAbs (10 ^ P) < 0 := by simpa using h
          exact ⟨hg, (by first | trivial | rfl), rfl, by simpa using e1.1 h2⟩
        · intro h
          have h2 := e1.2 (by simpa using h.2.2.2)
          simpa using h2
      · have hq0 : (q == (Q : Int)) = false := by simpa using hq
        go_wp2_with fail
        go_ret
        exact iffB false ⟨fun h => (by cases h), fun h => (by have h3 := h.2.2; rw [hold_2] at h3; exact absurd h3.1 hq)⟩ hw4
    · have hk' : ((2 : Int) != vk) = true := by rw [bne_iff_ne]; omega
      go_wp2_with fail
      go_ret
      exact iffB false ⟨fun h => (by cases h), fun h => absurd h.2.1.symm hk⟩ hw2

set_option maxRecDepth 100000 in
set_option maxHeartbeats 4000000 in
theorem hRef_3 (tp tq tn : Int) (vy : Bool) (pic : ByteArray) (vk n q : Int) (s : ByteArray) (w : World) (hs : s.size ≤ maxLen) (hp : pic.size ≤ maxLen) (hok : validS 3 tp tq tn vy pic = true) :
    Calls Tryz.prog 13 #[tyV 3 tp tq tn vy pic, valV vk n q s] w (IffB (GoodP vk n q s ∧ 3 = vk ∧ HoldG 3 tp tq tn vy n q s) w) := by
  have HS := Lib.hid hs
  have hs' := hs
  unfold maxLen at hs'
  have HO := Lib.hid hok
  clear hs hok
  go_enter Tryz.func13, Tryz.ntmps13
  go_wp2_with fail
  go_at_call 9
  refine (gvalidB true _ _ _ _ _ _ _ hp HO.out).mono ?_
  rintro e w1 ⟨rfl, hb1⟩
  obtain ⟨HT, HV, hz, hw1⟩ := gtwo hb1
  obtain ⟨t0, t1, t2, t3, t4, t5, tf⟩ := tcells HT
  obtain ⟨v0, v1, v2, v3, vf⟩ := vcells' HV
  have KT := Lib.hid HT
  have KV := Lib.hid HV
  clear HT HV hb1
  go_wp2_with fail
  go_at_call 11
  refine (gRef _ _ _ _ _ HS.out).mono ?_
  rintro e w2 ⟨r, rfl, hR, hb2⟩
  have hw2 := hw1.trans (hb2.mono hw1.size)
  have hz2 : w.heap.size + 1 < w2.heap.size := by have := hb2.size; omega
  have KT2 := Lib.hid (hx_keep KT.out hb2)
  have KV2 := Lib.hid (hx_keep KV.out hb2)
  clear t0 t1 t2 t3 t4 t5 tf v0 v1 v2 v3 vf KT KV hz hw1 hb2
  obtain ⟨t0, t1, t2, t3, t4, t5, tf⟩ := tcells KT2.out
  obtain ⟨v0, v1, v2, v3, vf⟩ := vcells' KV2.out
  have HR := Lib.hid hR
  clear hR
  cases r
  · go_wp2_with fail
    go_ret
    exact iffB false ⟨fun h => (by cases h), fun h => (by have := HR.out.2 h.1; cases this)⟩ hw2
  · by_cases hk : vk = 3
    · subst hk
      have hg := HR.out.1 rfl
      rw [good_3] at hg
      have HG := Lib.hid hg
      have fb : -1000000000000000 < n ∧ n < 1000000000000000 := by rcases hg.1 with h | h <;> omega
      go_wp2_with fail
      go_region_held3 (fun w' => w'.cell? ⟨w.heap.size + 1, 1, none⟩ = some (.int .i64 n) ∧ w'.cell? ⟨w.heap.size, 1, none⟩ = some (.int .i64 tp))
        (first | go_keep | (go_split_ands; refine ⟨?_, ?_⟩ <;> first | assumption | (rw [b3.cell (by simp <;> omega)]; assumption)))
        (first
          | (go_at_call 22; refine (size_any n _ (by omega) (by omega)).mono ?_; rintro e w3 ⟨rfl, hb3⟩; have b3 := undrew hb3; clear hb3))
      have hw3 := hw2.trans (b3.mono hw2.size)
      go_wp2_with fail
      go_ret
      refine iffB _ ?_ hw3
      rw [hold_3, good_3]
      have hg := HG.out
      constructor
      · intro h
        exact ⟨hg, (by first | trivial | rfl), by simpa using h⟩
      · intro h
        simpa using h.2.2
    · have hk' : ((3 : Int) != vk) = true := by rw [bne_iff_ne]; omega
      go_wp2_with fail
      go_ret
      exact iffB false ⟨fun h => (by cases h), fun h => absurd h.2.1.symm hk⟩ hw2

set_option maxRecDepth 100000 in
set_option maxHeartbeats 4000000 in
theorem hRef_4 (tp tq tn : Int) (vy : Bool) (pic : ByteArray) (vk n q : Int) (s : ByteArray) (w : World) (hs : s.size ≤ maxLen) (hp : pic.size ≤ maxLen) (hok : validS 4 tp tq tn vy pic = true) :
    Calls Tryz.prog 13 #[tyV 4 tp tq tn vy pic, valV vk n q s] w (IffB (GoodP vk n q s ∧ 4 = vk ∧ HoldG 4 tp tq tn vy n q s) w) := by
  have HS := Lib.hid hs
  have hs' := hs
  unfold maxLen at hs'
  have HO := Lib.hid hok
  clear hs hok
  go_enter Tryz.func13, Tryz.ntmps13
  go_wp2_with fail
  go_at_call 9
  refine (gvalidB true _ _ _ _ _ _ _ hp HO.out).mono ?_
  rintro e w1 ⟨rfl, hb1⟩
  obtain ⟨HT, HV, hz, hw1⟩ := gtwo hb1
  obtain ⟨t0, t1, t2, t3, t4, t5, tf⟩ := tcells HT
  obtain ⟨v0, v1, v2, v3, vf⟩ := vcells' HV
  have KT := Lib.hid HT
  have KV := Lib.hid HV
  clear HT HV hb1
  go_wp2_with fail
  go_at_call 11
  refine (gRef _ _ _ _ _ HS.out).mono ?_
  rintro e w2 ⟨r, rfl, hR, hb2⟩
  have hw2 := hw1.trans (hb2.mono hw1.size)
  have hz2 : w.heap.size + 1 < w2.heap.size := by have := hb2.size; omega
  have KT2 := Lib.hid (hx_keep KT.out hb2)
  have KV2 := Lib.hid (hx_keep KV.out hb2)
  clear t0 t1 t2 t3 t4 t5 tf v0 v1 v2 v3 vf KT KV hz hw1 hb2
  obtain ⟨t0, t1, t2, t3, t4, t5, tf⟩ := tcells KT2.out
  obtain ⟨v0, v1, v2, v3, vf⟩ := vcells' KV2.out
  have HR := Lib.hid hR
  clear hR
  cases r
  · go_wp2_with fail
    go_ret
    exact iffB false ⟨fun h => (by cases h), fun h => (by have := HR.out.2 h.1; cases this)⟩ hw2
  · by_cases hk : vk = 4
    · subst hk
      have hg := HR.out.1 rfl
      rw [good_4] at hg
      have HG := Lib.hid hg
      clear hg
      cases vy
      all_goals
        go_wp2_with fail
        all_goals
          go_ret
          refine iffB _ ?_ hw2
          rw [hold_s _ _ _ _ _ _ _ _ (by omega), good_4]
          have hg := HG.out
          constructor
          · intro h
            refine ⟨hg, (by first | trivial | rfl), ?_⟩
            simp_all
          · intro h
            have h3 := h.2.2
            simp_all
    · have hk' : ((4 : Int) != vk) = true := by rw [bne_iff_ne]; omega
      go_wp2_with fail
      go_ret
      exact iffB false ⟨fun h => (by cases h), fun h => absurd h.2.1.symm hk⟩ hw2

set_option maxRecDepth 100000 in
set_option maxHeartbeats 4000000 in
theorem hRef_5 (tp tq tn : Int) (vy : Bool) (pic : ByteArray) (vk n q : Int) (s : ByteArray) (w : World) (hs : s.size ≤ maxLen) (hp : pic.size ≤ maxLen) (hok : validS 5 tp tq tn vy pic = true) :
    Calls Tryz.prog 13 #[tyV 5 tp tq tn vy pic, valV vk n q s] w (IffB (GoodP vk n q s ∧ 5 = vk ∧ HoldG 5 tp tq tn vy n q s) w) := by
  have HS := Lib.hid hs
  have hs' := hs
  unfold maxLen at hs'
  have HO := Lib.hid hok
  clear hs hok
  go_enter Tryz.func13, Tryz.ntmps13
  go_wp2_with fail
  go_at_call 9
  refine (gvalidB true _ _ _ _ _ _ _ hp HO.out).mono ?_
  rintro e w1 ⟨rfl, hb1⟩
  obtain ⟨HT, HV, hz, hw1⟩ := gtwo hb1
  obtain ⟨t0, t1, t2, t3, t4, t5, tf⟩ := tcells HT
  obtain ⟨v0, v1, v2, v3, vf⟩ := vcells' HV
  have KT := Lib.hid HT
  have KV := Lib.hid HV
  clear HT HV hb1
  go_wp2_with fail
  go_at_call 11
  refine (gRef _ _ _ _ _ HS.out).mono ?_
  rintro e w2 ⟨r, rfl, hR, hb2⟩
  have hw2 := hw1.trans (hb2.mono hw1.size)
  have hz2 : w.heap.size + 1 < w2.heap.size := by have := hb2.size; omega
  have KT2 := Lib.hid (hx_keep KT.out hb2)
  have KV2 := Lib.hid (hx_keep KV.out hb2)
  clear t0 t1 t2 t3 t4 t5 tf v0 v1 v2 v3 vf KT KV hz hw1 hb2
  obtain ⟨t0, t1, t2, t3, t4, t5, tf⟩ := tcells KT2.out
  obtain ⟨v0, v1, v2, v3, vf⟩ := vcells' KV2.out
  have HR := Lib.hid hR
  clear hR
  cases r
  · go_wp2_with fail
    go_ret
    exact iffB false ⟨fun h => (by cases h), fun h => (by have := HR.out.2 h.1; cases this)⟩ hw2
  · by_cases hk : vk = 5
    · subst hk
      have hg := HR.out.1 rfl
      rw [good_5] at hg
      have HG := Lib.hid hg
      clear hg
      cases vy
      all_goals
        go_wp2_with fail
        all_goals
          go_ret
          refine iffB _ ?_ hw2
          rw [hold_s _ _ _ _ _ _ _ _ (by omega), good_5]
          have hg := HG.out
          constructor
          · intro h
            refine ⟨hg, (by first | trivial | rfl), ?_⟩
            simp_all
          · intro h
            have h3 := h.2.2
            simp_all
    · have hk' : ((5 : Int) != vk) = true := by rw [bne_iff_ne]; omega
      go_wp2_with fail
      go_ret
      exact iffB false ⟨fun h => (by cases h), fun h => absurd h.2.1.symm hk⟩ hw2

set_option maxRecDepth 100000 in
set_option maxHeartbeats 4000000 in
theorem hRef_6 (tp tq tn : Int) (vy : Bool) (pic : ByteArray) (vk n q : Int) (s : ByteArray) (w : World) (hs : s.size ≤ maxLen) (hp : pic.size ≤ maxLen) (hok : validS 6 tp tq tn vy pic = true) :
    Calls Tryz.prog 13 #[tyV 6 tp tq tn vy pic, valV vk n q s] w (IffB (GoodP vk n q s ∧ 6 = vk ∧ HoldG 6 tp tq tn vy n q s) w) := by
  have HS := Lib.hid hs
  have hs' := hs
  unfold maxLen at hs'
  have HO := Lib.hid hok
  clear hs hok
  go_enter Tryz.func13, Tryz.ntmps13
  go_wp2_with fail
  go_at_call 9
  refine (gvalidB true _ _ _ _ _ _ _ hp HO.out).mono ?_
  rintro e w1 ⟨rfl, hb1⟩
  obtain ⟨HT, HV, hz, hw1⟩ := gtwo hb1
  obtain ⟨t0, t1, t2, t3, t4, t5, tf⟩ := tcells HT
  obtain ⟨v0, v1, v2, v3, vf⟩ := vcells' HV
  have KT := Lib.hid HT
  have KV := Lib.hid HV
  clear HT HV hb1
  go_wp2_with fail
  go_at_call 11
  refine (gRef _ _ _ _ _ HS.out).mono ?_
  rintro e w2 ⟨r, rfl, hR, hb2⟩
  have hw2 := hw1.trans (hb2.mono hw1.size)
  have hz2 : w.heap.size + 1 < w2.heap.size := by have := hb2.size; omega
  have KT2 := Lib.hid (hx_keep KT.out hb2)
  have KV2 := Lib.hid (hx_keep KV.out hb2)
  clear t0 t1 t2 t3 t4 t5 tf v0 v1 v2 v3 vf KT KV hz hw1 hb2
  obtain ⟨t0, t1, t2, t3, t4, t5, tf⟩ := tcells KT2.out
  obtain ⟨v0, v1, v2, v3, vf⟩ := vcells' KV2.out
  have HR := Lib.hid hR
  clear hR
  cases r
  · go_wp2_with fail
    go_ret
    exact iffB false ⟨fun h => (by cases h), fun h => (by have := HR.out.2 h.1; cases this)⟩ hw2
  · by_cases hk : vk = 6
    · subst hk
      have hg := HR.out.1 rfl
      rw [good_6] at hg
      have HG := Lib.hid hg
      clear hg
      go_wp2_with fail
      go_ret
      refine iffB _ ?_ hw2
      rw [hold_any _ _ _ _ _ _ _ _ (by omega), good_6]
      exact ⟨fun _ => ⟨HG.out, (by first | trivial | rfl), trivial⟩, fun _ => rfl⟩
    · have hk' : ((6 : Int) != vk) = true := by rw [bne_iff_ne]; omega
      go_wp2_with fail
      go_ret
      exact iffB false ⟨fun h => (by cases h), fun h => absurd h.2.1.symm hk⟩ hw2

set_option maxRecDepth 100000 in
set_option maxHeartbeats 4000000 in
theorem hRef_7 (tp tq tn : Int) (vy : Bool) (pic : ByteArray) (vk n q : Int) (s : ByteArray) (w : World) (hs : s.size ≤ maxLen) (hp : pic.size ≤ maxLen) (hok : validS 7 tp tq tn vy pic = true) :
    Calls Tryz.prog 13 #[tyV 7 tp tq tn vy pic, valV vk n q s] w (IffB (GoodP vk n q s ∧ 7 = vk ∧ HoldG 7 tp tq tn vy n q s) w) := by
  have HS := Lib.hid hs
  have hs' := hs
  unfold maxLen at hs'
  have HO := Lib.hid hok
  clear hs hok
  go_enter Tryz.func13, Tryz.ntmps13
  go_wp2_with fail
  go_at_call 9
  refine (gvalidB true _ _ _ _ _ _ _ hp HO.out).mono ?_
  rintro e w1 ⟨rfl, hb1⟩
  obtain ⟨HT, HV, hz, hw1⟩ := gtwo hb1
  obtain ⟨t0, t1, t2, t3, t4, t5, tf⟩ := tcells HT
  obtain ⟨v0, v1, v2, v3, vf⟩ := vcells' HV
  have KT := Lib.hid HT
  have KV := Lib.hid HV
  clear HT HV hb1
  go_wp2_with fail
  go_at_call 11
  refine (gRef _ _ _ _ _ HS.out).mono ?_
  rintro e w2 ⟨r, rfl, hR, hb2⟩
  have hw2 := hw1.trans (hb2.mono hw1.size)
  have hz2 : w.heap.size + 1 < w2.heap.size := by have := hb2.size; omega
  have KT2 := Lib.hid (hx_keep KT.out hb2)
  have KV2 := Lib.hid (hx_keep KV.out hb2)
  clear t0 t1 t2 t3 t4 t5 tf v0 v1 v2 v3 vf KT KV hz hw1 hb2
  obtain ⟨t0, t1, t2, t3, t4, t5, tf⟩ := tcells KT2.out
  obtain ⟨v0, v1, v2, v3, vf⟩ := vcells' KV2.out
  have HR := Lib.hid hR
  clear hR
  cases r
  · go_wp2_with fail
    go_ret
    exact iffB false ⟨fun h => (by cases h), fun h => (by have := HR.out.2 h.1; cases this)⟩ hw2
  · by_cases hk : vk = 7
    · subst hk
      have hg := HR.out.1 rfl
      rw [good_7] at hg
      have HG := Lib.hid hg
      clear hg
      go_wp2_with fail
      go_ret
      refine iffB _ ?_ hw2
      rw [hold_any _ _ _ _ _ _ _ _ (by omega), good_7]
      exact ⟨fun _ => ⟨HG.out, (by first | trivial | rfl), trivial⟩, fun _ => rfl⟩
    · have hk' : ((7 : Int) != vk) = true := by rw [bne_iff_ne]; omega
      go_wp2_with fail
      go_ret
      exact iffB false ⟨fun h => (by cases h), fun h => absurd h.2.1.symm hk⟩ hw2

set_option maxRecDepth 100000 in
set_option maxHeartbeats 4000000 in
theorem hRef_8 (tp tq tn : Int) (vy : Bool) (pic : ByteArray) (vk n q : Int) (s : ByteArray) (w : World) (hs : s.size ≤ maxLen) (hp : pic.size ≤ maxLen) (hok : validS 8 tp tq tn vy pic = true) :
    Calls Tryz.prog 13 #[tyV 8 tp tq tn vy pic, valV vk n q s] w (IffB (GoodP vk n q s ∧ 8 = vk ∧ HoldG 8 tp tq tn vy n q s) w) := by
  have HS := Lib.hid hs
  have hs' := hs
  unfold maxLen at hs'
  have HO := Lib.hid hok
  clear hs hok
  go_enter Tryz.func13, Tryz.ntmps13
  go_wp2_with fail
  go_at_call 9
  refine (gvalidB true _ _ _ _ _ _ _ hp HO.out).mono ?_
  rintro e w1 ⟨rfl, hb1⟩
  obtain ⟨HT, HV, hz, hw1⟩ := gtwo hb1
  obtain ⟨t0, t1, t2, t3, t4, t5, tf⟩ := tcells HT
  obtain ⟨v0, v1, v2, v3, vf⟩ := vcells' HV
  have KT := Lib.hid HT
  have KV := Lib.hid HV
  clear HT HV hb1
  go_wp2_with fail
  go_at_call 11
  refine (gRef _ _ _ _ _ HS.out).mono ?_
  rintro e w2 ⟨r, rfl, hR, hb2⟩
  have hw2 := hw1.trans (hb2.mono hw1.size)
  have hz2 : w.heap.size + 1 < w2.heap.size := by have := hb2.size; omega
  have KT2 := Lib.hid (hx_keep KT.out hb2)
  have KV2 := Lib.hid (hx_keep KV.out hb2)
  clear t0 t1 t2 t3 t4 t5 tf v0 v1 v2 v3 vf KT KV hz hw1 hb2
  obtain ⟨t0, t1, t2, t3, t4, t5, tf⟩ := tcells KT2.out
  obtain ⟨v0, v1, v2, v3, vf⟩ := vcells' KV2.out
  have HR := Lib.hid hR
  clear hR
  cases r
  · go_wp2_with fail
    go_ret
    exact iffB false ⟨fun h => (by cases h), fun h => (by have := HR.out.2 h.1; cases this)⟩ hw2
  · by_cases hk : vk = 8
    · subst hk
      have hg := HR.out.1 rfl
      rw [good_8] at hg
      have HG := Lib.hid hg
      clear hg
      go_wp2_with fail
      go_ret
      refine iffB _ ?_ hw2
      rw [hold_any _ _ _ _ _ _ _ _ (by omega), good_8]
      exact ⟨fun _ => ⟨HG.out, (by first | trivial | rfl), trivial⟩, fun _ => rfl⟩
    · have hk' : ((8 : Int) != vk) = true := by rw [bne_iff_ne]; omega
      go_wp2_with fail
      go_ret
      exact iffB false ⟨fun h => (by cases h), fun h => absurd h.2.1.symm hk⟩ hw2

set_option maxRecDepth 100000 in
set_option maxHeartbeats 4000000 in
theorem hRef_9 (tp tq tn : Int) (vy : Bool) (pic : ByteArray) (vk n q : Int) (s : ByteArray) (w : World) (hs : s.size ≤ maxLen) (hp : pic.size ≤ maxLen) (hok : validS 9 tp tq tn vy pic = true) :
    Calls Tryz.prog 13 #[tyV 9 tp tq tn vy pic, valV vk n q s] w (IffB (GoodP vk n q s ∧ 9 = vk ∧ HoldG 9 tp tq tn vy n q s) w) := by
  have HS := Lib.hid hs
  have hs' := hs
  unfold maxLen at hs'
  have HO := Lib.hid hok
  clear hs hok
  go_enter Tryz.func13, Tryz.ntmps13
  go_wp2_with fail
  go_at_call 9
  refine (gvalidB true _ _ _ _ _ _ _ hp HO.out).mono ?_
  rintro e w1 ⟨rfl, hb1⟩
  obtain ⟨HT, HV, hz, hw1⟩ := gtwo hb1
  obtain ⟨t0, t1, t2, t3, t4, t5, tf⟩ := tcells HT
  obtain ⟨v0, v1, v2, v3, vf⟩ := vcells' HV
  have KT := Lib.hid HT
  have KV := Lib.hid HV
  clear HT HV hb1
  go_wp2_with fail
  go_at_call 11
  refine (gRef _ _ _ _ _ HS.out).mono ?_
  rintro e w2 ⟨r, rfl, hR, hb2⟩
  have hw2 := hw1.trans (hb2.mono hw1.size)
  have hz2 : w.heap.size + 1 < w2.heap.size := by have := hb2.size; omega
  have KT2 := Lib.hid (hx_keep KT.out hb2)
  have KV2 := Lib.hid (hx_keep KV.out hb2)
  clear t0 t1 t2 t3 t4 t5 tf v0 v1 v2 v3 vf KT KV hz hw1 hb2
  obtain ⟨t0, t1, t2, t3, t4, t5, tf⟩ := tcells KT2.out
  obtain ⟨v0, v1, v2, v3, vf⟩ := vcells' KV2.out
  have HR := Lib.hid hR
  clear hR
  cases r
  · go_wp2_with fail
    go_ret
    exact iffB false ⟨fun h => (by cases h), fun h => (by have := HR.out.2 h.1; cases this)⟩ hw2
  · by_cases hk : vk = 9
    · subst hk
      have hg := HR.out.1 rfl
      rw [good_9] at hg
      have HG := Lib.hid hg
      clear hg
      go_wp2_with fail
      go_ret
      refine iffB _ ?_ hw2
      rw [hold_any _ _ _ _ _ _ _ _ (by omega), good_9]
      exact ⟨fun _ => ⟨HG.out, (by first | trivial | rfl), trivial⟩, fun _ => rfl⟩
    · have hk' : ((9 : Int) != vk) = true := by rw [bne_iff_ne]; omega
      go_wp2_with fail
      go_ret
      exact iffB false ⟨fun h => (by cases h), fun h => absurd h.2.1.symm hk⟩ hw2

theorem validS_kind {k p q n : Int} {vy : Bool} {pic : ByteArray} (h : validS k p q n vy pic = true) : k = 1 ∨ k = 2 ∨ k = 3 ∨ k = 4 ∨ k = 5 ∨ k = 6 ∨ k = 7 ∨ k = 8 ∨ k = 9 := by
  by_cases hk : k < 1 ∨ 10 ≤ k
  · unfold validS at h
    repeat rw [if_neg (by omega)] at h
    cases h
  · omega
/-- ironbarkref01.Has, of any type and value. -/
theorem hRef (tk tp tq tn : Int) (vy : Bool) (pic : ByteArray) (vk n q : Int) (s : ByteArray) (w : World) (hs : s.size ≤ maxLen) (hp : pic.size ≤ maxLen) :
    Calls Tryz.prog 13 #[tyV tk tp tq tn vy pic, valV vk n q s] w (IffB (HasG tk tp tq tn vy pic vk n q s) w) := by
  cases hok : validS tk tp tq tn vy pic
  · exact (hRef_bad tk tp tq tn vy pic vk n q s w hp hok).mono fun e w' h => h.turn ⟨fun h => h.elim, fun h => by have := h.1; rw [hok] at this; cases this⟩
  · have lift : ∀ e w', IffB (GoodP vk n q s ∧ tk = vk ∧ HoldG tk tp tq tn vy n q s) w e w' → IffB (HasG tk tp tq tn vy pic vk n q s) w e w' := fun e w' h => h.turn ⟨fun h => ⟨hok, h⟩, fun h => h.2⟩
    obtain rfl | rfl | rfl | rfl | rfl | rfl | rfl | rfl | rfl := validS_kind hok
    · obtain ⟨⟨h1, h2⟩, ⟨h3, h4⟩, rfl, rfl, rfl⟩ := valid_1_of hok
      obtain ⟨P, rfl⟩ := Int.eq_ofNat_of_zero_le (show 0 ≤ tp by omega)
      obtain ⟨Q, rfl⟩ := Int.eq_ofNat_of_zero_le h3
      exact (hRef_1 P Q vk n q s w hs (by omega) (by omega) (by omega) hok).mono lift
    · obtain ⟨⟨h1, h2⟩, ⟨h3, h4⟩, rfl, rfl, rfl⟩ := valid_2_of hok
      obtain ⟨P, rfl⟩ := Int.eq_ofNat_of_zero_le (show 0 ≤ tp by omega)
      obtain ⟨Q, rfl⟩ := Int.eq_ofNat_of_zero_le h3
      exact (hRef_2 P Q vk n q s w hs (by omega) (by omega) (by omega) hok).mono lift
    · exact (hRef_3 tp tq tn vy pic vk n q s w hs hp hok).mono lift
    · exact (hRef_4 tp tq tn vy pic vk n q s w hs hp hok).mono lift
    · exact (hRef_5 tp tq tn vy pic vk n q s w hs hp hok).mono lift
    · exact (hRef_6 tp tq tn vy pic vk n q s w hs hp hok).mono lift
    · exact (hRef_7 tp tq tn vy pic vk n q s w hs hp hok).mono lift
    · exact (hRef_8 tp tq tn vy pic vk n q s w hs hp hok).mono lift
    · exact (hRef_9 tp tq tn vy pic vk n q s w hs hp hok).mono lift
end Go.Proofs.YtjdgefgdekanjaaGreatDoor
