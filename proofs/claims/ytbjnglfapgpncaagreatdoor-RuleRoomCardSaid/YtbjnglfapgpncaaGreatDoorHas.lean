/- ironbarkref01.Has, of a fixed type. ironbarkref01.Has, of a fixed decimal type. ironbarkref01.Has, of types that are not fixed: it answers. ironbarkref01.Has, of pictures, pointers, labels and entries: it answers. ironbarkref01.Has, of any type and value: it answers; what a fixed type has fits its digits. -/
import Derived.Test.YtbjnglfapgpncaaGreatDoorExFit0
import Derived.Test.YtbjnglfapgpncaaGreatDoorValS
import Derived.Test.YtbjnglfapgpncaaGreatDoorAwake1
namespace Go.Proofs.YtbjnglfapgpncaaGreatDoor
open Go.RowKit

/-- What a value of a type has. -/
def HasP (tk tp tq vk n q : Int) (s : ByteArray) : Prop := tk = vk ∧ (tk = 1 → q = tq ∧ s = ⟨#[]⟩ ∧ n.natAbs < 2 ^ tp.toNat) ∧ (tk = 2 → q = tq ∧ s = ⟨#[]⟩ ∧ n.natAbs < 10 ^ tp.toNat)

theorem validB (b : Bool) (k p q n : Int) (vy : Bool) (pic : ByteArray) (w : World) (hs : pic.size ≤ maxLen) (h : (Ty.mk k p q n vy pic).ok = b) :
    Calls Tryz.prog 13 #[tyV k p q n vy pic] w fun e w' => e = .returned (.bool b) ∧ Below w.heap.size w w' := by subst h; exact refValid_any k p q n vy pic w hs

theorem two {w w1 : World} {A B : Obj} (hb : Below ((w.alloc A).alloc B).heap.size ((w.alloc A).alloc B) w1) :
    w1.heap[w.heap.size]? = some A ∧ w1.heap[w.heap.size + 1]? = some B ∧ w.heap.size + 1 < w1.heap.size ∧ Below w.heap.size w w1 := by
  have hs := hb.size
  exact ⟨hx_keep (hx_old (hx_last w A _ rfl)) hb, hx_keep (hx_last (w.alloc A) B _ (by simp)) hb, by simp at hs; omega,
    (((Below.refl _ w).alloc (Nat.le_refl _) _).alloc (by simp <;> omega) _).trans (hb.mono (by simp <;> omega))⟩

theorem ord_neg {a b : Nat} (h : ord a b < 0) : a < b := by unfold ord at h; split at h <;> (try split at h) <;> omega

theorem fld_ex (a b c : Value) (w : World) : (Instr.field 35 (.agg #[a, b, c]) 1).run Tryz.prog w = .ok b w := by kernel_rfl

set_option maxRecDepth 100000 in
set_option maxHeartbeats 1000000 in
theorem has_bad (tk tp tq tn : Int) (vy : Bool) (pic : ByteArray) (vk n q : Int) (s : ByteArray) (w : World) (hp : pic.size ≤ maxLen) (hok : (Ty.mk tk tp tq tn vy pic).ok = false) :
    Calls Tryz.prog 4 #[tyV tk tp tq tn vy pic, valV vk n q s] w (SomeB False w) := by
  have HP := Lib.hid hp
  have HO := Lib.hid hok
  clear hp hok
  go_enter Tryz.func4, Tryz.ntmps4
  go_wp2_with fail
  go_at_call 13
  refine (validB false _ _ _ _ _ _ _ HP.out HO.out).mono ?_
  rintro e w1 ⟨rfl, hb1⟩
  obtain ⟨HT, HV, hz, hw1⟩ := two hb1
  go_wp2_with fail
  go_ret
  exact someB _ (fun h => by cases h) hw1

set_option maxRecDepth 100000 in
set_option maxHeartbeats 4000000 in
theorem has_1 (P Q : Nat) (vk n q : Int) (s : ByteArray) (w : World) (hs : s.size ≤ maxLen) (hP1 : 1 ≤ P) (hP : P ≤ 31) (hQ : Q ≤ 31) :
    Calls Tryz.prog 4 #[tyV 1 (P : Int) (Q : Int) 0 false ⟨#[]⟩, valV vk n q s] w (SomeB (HasP 1 (P : Int) (Q : Int) vk n q s) w) := by
  have HS := Lib.hid hs
  have HO : Hid ((Ty.mk 1 (P : Int) (Q : Int) 0 false ⟨#[]⟩).ok = true) := Lib.hid (ok_1 (by omega) (by omega) (by omega) (by omega))
  clear hs
  go_enter Tryz.func4, Tryz.ntmps4
  go_wp2_with fail
  go_at_call 13
  refine (validB true _ _ _ _ _ _ _ (by decide) HO.out).mono ?_
  rintro e w1 ⟨rfl, hb1⟩
  obtain ⟨HT, HV, hz, hw1⟩ := two hb1
  obtain ⟨t0, t1, t2, t3, t4, t5, tf⟩ := tcells HT
  obtain ⟨v0, v1, v2, v3, vf⟩ := vcells' HV
  have KT := Lib.hid HT
  have KV := Lib.hid HV
  clear HT HV hb1
  go_wp2_with fail
  go_at_call 14
  refine (right_any _ _ _ _ _ HS.out).mono ?_
  rintro e w2 ⟨r, rfl, hR, hb2⟩
  have hw2 := hw1.trans (hb2.mono hw1.size)
  have hz2 : w.heap.size + 1 < w2.heap.size := by have := hb2.size; omega
  have KT2 := Lib.hid (hx_keep KT.out hb2)
  have KV2 := Lib.hid (hx_keep KV.out hb2)
  clear t0 t1 t2 t3 t4 t5 tf v0 v1 v2 v3 vf KT KV hz hw1 hb2
  obtain ⟨t0, t1, t2, t3, t4, t5, tf⟩ := tcells KT2.out
  obtain ⟨v0, v1, v2, v3, vf⟩ := vcells' KV2.out
  have HR := Lib.hid hR
  clear hR
  cases r
  · go_wp2_with fail
    go_ret
    exact someB _ (fun h => by cases h) hw2
  · by_cases hk : vk = 1
    · subst hk
      obtain ⟨f1, f2, f3, f4, f5⟩ := (HR.out rfl).1 rfl
      go_wp2_with fail
      go_region_held3 (fun w' => (w'.cell? ⟨w.heap.size, 0, none⟩ = some (.int .i64 1) ∧ w'.cell? ⟨w.heap.size, 1, none⟩ = some (.int .i64 (P : Int)) ∧ w'.cell? ⟨w.heap.size, 2, none⟩ = some (.int .i64 (Q : Int)) ∧ w'.cell? ⟨w.heap.size, 3, none⟩ = some (.int .i64 0) ∧ w'.cell? ⟨w.heap.size, 4, none⟩ = some (.bool false) ∧ w'.cell? ⟨w.heap.size, 5, none⟩ = some (.string ⟨#[]⟩)))
        (first | go_keep | (go_split_ands; refine ⟨?_, ?_, ?_, ?_, ?_, ?_⟩ <;> first | assumption | (rw [b4.cell (by simp <;> omega)]; assumption) | (rw [b3.cell (by simp <;> omega)]; assumption)))
        (first
          | (go_at_call 16; refine (base_1 _ _ _ _ _ _).mono ?_; rintro e w3 ⟨rfl, hb3⟩; have b3 := undrew hb3; clear hb3)
          | (go_at_call 15; refine (pow2_d P _ (by omega)).mono ?_; rintro e w4 ⟨v4, rfl, D4, hb4⟩; obtain ⟨p4, k4, rfl⟩ := D4.slice; have b4 := b3.trans (hb4.mono b3.size); clear hb4))
      have hz6 : w.heap.size + 1 < w4.heap.size := by have := b4.size; omega
      have KV4 := Lib.hid (hx_keep KV2.out b4)
      have hw4 := hw2.trans (b4.mono hw2.size)
      have D4 := Lib.hid D4
      clear t0 t1 t2 t3 t4 t5 tf v0 v1 v2 v3 vf b3 b4 KT2 KV2
      obtain ⟨v0, v1, v2, v3, vf⟩ := vcells' KV4.out
      have LP := digs_len_pow2 P
      have hfl := fld_ex
      by_cases hq : q = (Q : Int)
      · subst hq
        have hq0 : ((Q : Int) == (Q : Int)) = true := by simp
        have HW := Lib.hid hw4
        clear hw4
        go_wp2_with (first
          | (go_at_call 18; refine (whole_d n _ (by omega) (by omega)).mono ?_; rintro e w5 ⟨v5, rfl, ⟨vn, vd, rfl, Dn, Dd⟩, hb5⟩; obtain ⟨pn, kn, rfl⟩ := Dn.slice; obtain ⟨pd, kd, rfl⟩ := Dd.slice; have DN := Lib.hid Dn; clear Dn Dd; have HW5 := Lib.hid (HW.out.trans (hb5.mono HW.out.size)); have C5 := Lib.hid (cmp_d DN.out (D4.out.keep hb5 (Nat.le_refl _)) (Nat.le_trans (digs_length n.natAbs 19 (by omega)) (by decide)) (by omega)); clear hb5)
          | (go_at_call 17; refine C5.out.mono ?_; rintro e w6 ⟨rfl, hb6⟩; have HW6 := Lib.hid (HW5.out.trans (hb6.mono HW5.out.size)); clear hb6))
        go_ret
        refine someB _ (fun h => ⟨rfl, fun _ => ⟨rfl, f5, ?_⟩, fun h' => by omega⟩) HW6.out
        have h2 : ord n.natAbs (2 ^ P) < 0 := by simpa using h
        have h3 : n.natAbs < 2 ^ P := ord_neg h2
        simpa using h3
      · have hq0 : (q == (Q : Int)) = false := by simpa using hq
        go_wp2_with fail
        go_ret
        exact someB _ (fun h => by cases h) hw4
    · have hk' : ((1 : Int) != vk) = true := by rw [bne_iff_ne]; omega
      go_wp2_with fail
      go_ret
      exact someB _ (fun h => by cases h) hw2
end Go.Proofs.YtbjnglfapgpncaaGreatDoor
namespace Go.Proofs.YtbjnglfapgpncaaGreatDoor
open Go.RowKit

set_option maxRecDepth 100000 in
set_option maxHeartbeats 4000000 in
theorem has_2 (P Q : Nat) (vk n q : Int) (s : ByteArray) (w : World) (hs : s.size ≤ maxLen) (hP1 : 1 ≤ P) (hP : P ≤ 15) (hQ : Q ≤ 31) :
    Calls Tryz.prog 4 #[tyV 2 (P : Int) (Q : Int) 0 false ⟨#[]⟩, valV vk n q s] w (SomeB (HasP 2 (P : Int) (Q : Int) vk n q s) w) := by
  have HS := Lib.hid hs
  have HO : Hid ((Ty.mk 2 (P : Int) (Q : Int) 0 false ⟨#[]⟩).ok = true) := Lib.hid (ok_2 (by omega) (by omega) (by omega) (by omega))
  clear hs
  go_enter Tryz.func4, Tryz.ntmps4
  go_wp2_with fail
  go_at_call 13
  refine (validB true _ _ _ _ _ _ _ (by decide) HO.out).mono ?_
  rintro e w1 ⟨rfl, hb1⟩
  obtain ⟨HT, HV, hz, hw1⟩ := two hb1
  obtain ⟨t0, t1, t2, t3, t4, t5, tf⟩ := tcells HT
  obtain ⟨v0, v1, v2, v3, vf⟩ := vcells' HV
  have KT := Lib.hid HT
  have KV := Lib.hid HV
  clear HT HV hb1
  go_wp2_with fail
  go_at_call 14
  refine (right_any _ _ _ _ _ HS.out).mono ?_
  rintro e w2 ⟨r, rfl, hR, hb2⟩
  have hw2 := hw1.trans (hb2.mono hw1.size)
  have hz2 : w.heap.size + 1 < w2.heap.size := by have := hb2.size; omega
  have KT2 := Lib.hid (hx_keep KT.out hb2)
  have KV2 := Lib.hid (hx_keep KV.out hb2)
  clear t0 t1 t2 t3 t4 t5 tf v0 v1 v2 v3 vf KT KV hz hw1 hb2
  obtain ⟨t0, t1, t2, t3, t4, t5, tf⟩ := tcells KT2.out
  obtain ⟨v0, v1, v2, v3, vf⟩ := vcells' KV2.out
  have HR := Lib.hid hR
  clear hR
  cases r
  · go_wp2_with fail
    go_ret
    exact someB _ (fun h => by cases h) hw2
  · by_cases hk : vk = 2
    · subst hk
      obtain ⟨f1, f2, f3, f4, f5⟩ := (HR.out rfl).2.1 rfl
      go_wp2_with fail
      go_region_held3 (fun w' => (w'.cell? ⟨w.heap.size, 0, none⟩ = some (.int .i64 2) ∧ w'.cell? ⟨w.heap.size, 1, none⟩ = some (.int .i64 (P : Int)) ∧ w'.cell? ⟨w.heap.size, 2, none⟩ = some (.int .i64 (Q : Int)) ∧ w'.cell? ⟨w.heap.size, 3, none⟩ = some (.int .i64 0) ∧ w'.cell? ⟨w.heap.size, 4, none⟩ = some (.bool false) ∧ w'.cell? ⟨w.heap.size, 5, none⟩ = some (.string ⟨#[]⟩)))
        (first | go_keep | (go_split_ands; refine ⟨?_, ?_, ?_, ?_, ?_, ?_⟩ <;> first | assumption | (rw [b4.cell (by simp <;> omega)]; assumption) | (rw [b3.cell (by simp <;> omega)]; assumption)))
        (first
          | (go_at_call 16; refine (base_2 _ _ _ _ _ _).mono ?_; rintro e w3 ⟨rfl, hb3⟩; have b3 := undrew hb3; clear hb3)
          | (go_at_call 15; refine (pow10_d P _ (by omega)).mono ?_; rintro e w4 ⟨v4, rfl, D4, hb4⟩; obtain ⟨p4, k4, rfl⟩ := D4.slice; have b4 := b3.trans (hb4.mono b3.size); clear hb4))
      have hz6 : w.heap.size + 1 < w4.heap.size := by have := b4.size; omega
      have KV4 := Lib.hid (hx_keep KV2.out b4)
      have hw4 := hw2.trans (b4.mono hw2.size)
      have D4 := Lib.hid D4
      clear t0 t1 t2 t3 t4 t5 tf v0 v1 v2 v3 vf b3 b4 KT2 KV2
      obtain ⟨v0, v1, v2, v3, vf⟩ := vcells' KV4.out
      have LP := Nat.le_of_eq (digs_len_pow10 P)
      have hfl := fld_ex
      by_cases hq : q = (Q : Int)
      · subst hq
        have hq0 : ((Q : Int) == (Q : Int)) = true := by simp
        have HW := Lib.hid hw4
        clear hw4
        go_wp2_with (first
          | (go_at_call 18; refine (whole_d n _ (by omega) (by omega)).mono ?_; rintro e w5 ⟨v5, rfl, ⟨vn, vd, rfl, Dn, Dd⟩, hb5⟩; obtain ⟨pn, kn, rfl⟩ := Dn.slice; obtain ⟨pd, kd, rfl⟩ := Dd.slice; have DN := Lib.hid Dn; clear Dn Dd; have HW5 := Lib.hid (HW.out.trans (hb5.mono HW.out.size)); have C5 := Lib.hid (cmp_d DN.out (D4.out.keep hb5 (Nat.le_refl _)) (Nat.le_trans (digs_length n.natAbs 19 (by omega)) (by decide)) (by omega)); clear hb5)
          | (go_at_call 17; refine C5.out.mono ?_; rintro e w6 ⟨rfl, hb6⟩; have HW6 := Lib.hid (HW5.out.trans (hb6.mono HW5.out.size)); clear hb6))
        go_ret
        refine someB _ (fun h => ⟨rfl, fun h' => by omega, fun _ => ⟨rfl, f5, ?_⟩⟩) HW6.out
        have h2 : ord n.natAbs (10 ^ P) < 0 := by simpa using h
        have h3 : n.natAbs < 10 ^ P := ord_neg h2
        simpa using h3
      · have hq0 : (q == (Q : Int)) = false := by simpa using hq
        go_wp2_with fail
        go_ret
        exact someB _ (fun h => by cases h) hw4
    · have hk' : ((2 : Int) != vk) = true := by rw [bne_iff_ne]; omega
      go_wp2_with fail
      go_ret
      exact someB _ (fun h => by cases h) hw2
end Go.Proofs.YtbjnglfapgpncaaGreatDoor
namespace Go.Proofs.YtbjnglfapgpncaaGreatDoor
open Go.RowKit

set_option maxRecDepth 100000 in
set_option maxHeartbeats 4000000 in
theorem has_3 (tp tq tn : Int) (vy : Bool) (pic : ByteArray) (vk n q : Int) (s : ByteArray) (w : World) (hs : s.size ≤ maxLen) (hp : pic.size ≤ maxLen) (hok : (Ty.mk 3 tp tq tn vy pic).ok = true) :
    Calls Tryz.prog 4 #[tyV 3 tp tq tn vy pic, valV vk n q s] w (SomeB (HasP 3 tp tq vk n q s) w) := by
  have HS := Lib.hid hs
  have HO := Lib.hid hok
  have HP := Lib.hid hp
  have hs' := hs
  unfold maxLen at hs'
  clear hs hok hp
  go_enter Tryz.func4, Tryz.ntmps4
  go_wp2_with fail
  go_at_call 13
  refine (validB true _ _ _ _ _ _ _ HP.out HO.out).mono ?_
  rintro e w1 ⟨rfl, hb1⟩
  obtain ⟨HT, HV, hz, hw1⟩ := two hb1
  obtain ⟨t0, t1, t2, t3, t4, t5, tf⟩ := tcells HT
  obtain ⟨v0, v1, v2, v3, vf⟩ := vcells' HV
  have KT := Lib.hid HT
  have KV := Lib.hid HV
  clear HT HV hb1
  go_wp2_with fail
  go_at_call 14
  refine (right_any _ _ _ _ _ HS.out).mono ?_
  rintro e w2 ⟨r, rfl, hR, hb2⟩
  have hw2 := hw1.trans (hb2.mono hw1.size)
  have hz2 : w.heap.size + 1 < w2.heap.size := by have := hb2.size; omega
  have KT2 := Lib.hid (hx_keep KT.out hb2)
  have KV2 := Lib.hid (hx_keep KV.out hb2)
  clear t0 t1 t2 t3 t4 t5 tf v0 v1 v2 v3 vf KT KV hz hw1 hb2
  obtain ⟨t0, t1, t2, t3, t4, t5, tf⟩ := tcells KT2.out
  obtain ⟨v0, v1, v2, v3, vf⟩ := vcells' KV2.out
  have HR := Lib.hid hR
  clear hR
  cases r
  · go_wp2_with fail
    go_ret
    exact someB _ (fun h => by cases h) hw2
  · by_cases hk : vk = 3
    · subst hk
      obtain ⟨f1, f2⟩ := (HR.out rfl).2.2 rfl
      go_wp2_with fail
      go_region_held3 (fun w' => w'.cell? ⟨w.heap.size + 1, 1, none⟩ = some (.int .i64 n) ∧ w'.cell? ⟨w.heap.size, 1, none⟩ = some (.int .i64 tp))
        (first | go_keep | (go_split_ands; refine ⟨?_, ?_⟩ <;> first | assumption | (rw [b3.cell (by simp <;> omega)]; assumption)))
        (first
          | (go_at_call 19; refine (size_any n _ (by omega) (by omega)).mono ?_; rintro e w3 ⟨rfl, hb3⟩; have b3 := undrew hb3; clear hb3))
      have hw3 := hw2.trans (b3.mono hw2.size)
      go_wp2_with fail
      go_ret
      exact someB _ (fun _ => ⟨rfl, fun h => by omega, fun h => by omega⟩) hw3
    · have hk' : ((3 : Int) != vk) = true := by rw [bne_iff_ne]; omega
      go_wp2_with fail
      go_ret
      exact someB _ (fun h => by cases h) hw2

set_option maxRecDepth 100000 in
set_option maxHeartbeats 4000000 in
theorem has_4 (tp tq tn : Int) (vy : Bool) (pic : ByteArray) (vk n q : Int) (s : ByteArray) (w : World) (hs : s.size ≤ maxLen) (hp : pic.size ≤ maxLen) (hok : (Ty.mk 4 tp tq tn vy pic).ok = true) :
    Calls Tryz.prog 4 #[tyV 4 tp tq tn vy pic, valV vk n q s] w (SomeB (HasP 4 tp tq vk n q s) w) := by
  have HS := Lib.hid hs
  have HO := Lib.hid hok
  have HP := Lib.hid hp
  have hs' := hs
  unfold maxLen at hs'
  clear hs hok hp
  go_enter Tryz.func4, Tryz.ntmps4
  go_wp2_with fail
  go_at_call 13
  refine (validB true _ _ _ _ _ _ _ HP.out HO.out).mono ?_
  rintro e w1 ⟨rfl, hb1⟩
  obtain ⟨HT, HV, hz, hw1⟩ := two hb1
  obtain ⟨t0, t1, t2, t3, t4, t5, tf⟩ := tcells HT
  obtain ⟨v0, v1, v2, v3, vf⟩ := vcells' HV
  have KT := Lib.hid HT
  have KV := Lib.hid HV
  clear HT HV hb1
  go_wp2_with fail
  go_at_call 14
  refine (right_any _ _ _ _ _ HS.out).mono ?_
  rintro e w2 ⟨r, rfl, hR, hb2⟩
  have hw2 := hw1.trans (hb2.mono hw1.size)
  have hz2 : w.heap.size + 1 < w2.heap.size := by have := hb2.size; omega
  have KT2 := Lib.hid (hx_keep KT.out hb2)
  have KV2 := Lib.hid (hx_keep KV.out hb2)
  clear t0 t1 t2 t3 t4 t5 tf v0 v1 v2 v3 vf KT KV hz hw1 hb2
  obtain ⟨t0, t1, t2, t3, t4, t5, tf⟩ := tcells KT2.out
  obtain ⟨v0, v1, v2, v3, vf⟩ := vcells' KV2.out
  have HR := Lib.hid hR
  clear hR
  cases r
  · go_wp2_with fail
    go_ret
    exact someB _ (fun h => by cases h) hw2
  · by_cases hk : vk = 4
    · subst hk
      cases vy
      all_goals
        go_wp2_with fail
        all_goals
          go_ret
          exact someB _ (fun _ => ⟨rfl, fun h => by omega, fun h => by omega⟩) hw2
    · have hk' : ((4 : Int) != vk) = true := by rw [bne_iff_ne]; omega
      go_wp2_with fail
      go_ret
      exact someB _ (fun h => by cases h) hw2

set_option maxRecDepth 100000 in
set_option maxHeartbeats 4000000 in
theorem has_5 (tp tq tn : Int) (vy : Bool) (pic : ByteArray) (vk n q : Int) (s : ByteArray) (w : World) (hs : s.size ≤ maxLen) (hp : pic.size ≤ maxLen) (hok : (Ty.mk 5 tp tq tn vy pic).ok = true) :
    Calls Tryz.prog 4 #[tyV 5 tp tq tn vy pic, valV vk n q s] w (SomeB (HasP 5 tp tq vk n q s) w) := by
  have HS := Lib.hid hs
  have HO := Lib.hid hok
  have HP := Lib.hid hp
  have hs' := hs
  unfold maxLen at hs'
  clear hs hok hp
  go_enter Tryz.func4, Tryz.ntmps4
  go_wp2_with fail
  go_at_call 13
  refine (validB true _ _ _ _ _ _ _ HP.out HO.out).mono ?_
  rintro e w1 ⟨rfl, hb1⟩
  obtain ⟨HT, HV, hz, hw1⟩ := two hb1
  obtain ⟨t0, t1, t2, t3, t4, t5, tf⟩ := tcells HT
  obtain ⟨v0, v1, v2, v3, vf⟩ := vcells' HV
  have KT := Lib.hid HT
  have KV := Lib.hid HV
  clear HT HV hb1
  go_wp2_with fail
  go_at_call 14
  refine (right_any _ _ _ _ _ HS.out).mono ?_
  rintro e w2 ⟨r, rfl, hR, hb2⟩
  have hw2 := hw1.trans (hb2.mono hw1.size)
  have hz2 : w.heap.size + 1 < w2.heap.size := by have := hb2.size; omega
  have KT2 := Lib.hid (hx_keep KT.out hb2)
  have KV2 := Lib.hid (hx_keep KV.out hb2)
  clear t0 t1 t2 t3 t4 t5 tf v0 v1 v2 v3 vf KT KV hz hw1 hb2
  obtain ⟨t0, t1, t2, t3, t4, t5, tf⟩ := tcells KT2.out
  obtain ⟨v0, v1, v2, v3, vf⟩ := vcells' KV2.out
  have HR := Lib.hid hR
  clear hR
  cases r
  · go_wp2_with fail
    go_ret
    exact someB _ (fun h => by cases h) hw2
  · by_cases hk : vk = 5
    · subst hk
      cases vy
      all_goals
        go_wp2_with fail
        all_goals
          go_ret
          exact someB _ (fun _ => ⟨rfl, fun h => by omega, fun h => by omega⟩) hw2
    · have hk' : ((5 : Int) != vk) = true := by rw [bne_iff_ne]; omega
      go_wp2_with fail
      go_ret
      exact someB _ (fun h => by cases h) hw2

end Go.Proofs.YtbjnglfapgpncaaGreatDoor
namespace Go.Proofs.YtbjnglfapgpncaaGreatDoor
open Go.RowKit

set_option maxRecDepth 100000 in
set_option maxHeartbeats 4000000 in
theorem has_6 (tp tq tn : Int) (vy : Bool) (pic : ByteArray) (vk n q : Int) (s : ByteArray) (w : World) (hs : s.size ≤ maxLen) (hp : pic.size ≤ maxLen) (hok : (Ty.mk 6 tp tq tn vy pic).ok = true) :
    Calls Tryz.prog 4 #[tyV 6 tp tq tn vy pic, valV vk n q s] w (SomeB (HasP 6 tp tq vk n q s) w) := by
  have HS := Lib.hid hs
  have HO := Lib.hid hok
  have HP := Lib.hid hp
  have hs' := hs
  unfold maxLen at hs'
  clear hs hok hp
  go_enter Tryz.func4, Tryz.ntmps4
  go_wp2_with fail
  go_at_call 13
  refine (validB true _ _ _ _ _ _ _ HP.out HO.out).mono ?_
  rintro e w1 ⟨rfl, hb1⟩
  obtain ⟨HT, HV, hz, hw1⟩ := two hb1
  obtain ⟨t0, t1, t2, t3, t4, t5, tf⟩ := tcells HT
  obtain ⟨v0, v1, v2, v3, vf⟩ := vcells' HV
  have KT := Lib.hid HT
  have KV := Lib.hid HV
  clear HT HV hb1
  go_wp2_with fail
  go_at_call 14
  refine (right_any _ _ _ _ _ HS.out).mono ?_
  rintro e w2 ⟨r, rfl, hR, hb2⟩
  have hw2 := hw1.trans (hb2.mono hw1.size)
  have hz2 : w.heap.size + 1 < w2.heap.size := by have := hb2.size; omega
  have KT2 := Lib.hid (hx_keep KT.out hb2)
  have KV2 := Lib.hid (hx_keep KV.out hb2)
  clear t0 t1 t2 t3 t4 t5 tf v0 v1 v2 v3 vf KT KV hz hw1 hb2
  obtain ⟨t0, t1, t2, t3, t4, t5, tf⟩ := tcells KT2.out
  obtain ⟨v0, v1, v2, v3, vf⟩ := vcells' KV2.out
  have HR := Lib.hid hR
  clear hR
  cases r
  · go_wp2_with fail
    go_ret
    exact someB _ (fun h => by cases h) hw2
  · by_cases hk : vk = 6
    · subst hk
      go_wp2_with fail
      go_ret
      exact someB _ (fun _ => ⟨rfl, fun h => by omega, fun h => by omega⟩) hw2
    · have hk' : ((6 : Int) != vk) = true := by rw [bne_iff_ne]; omega
      go_wp2_with fail
      go_ret
      exact someB _ (fun h => by cases h) hw2

set_option maxRecDepth 100000 in
set_option maxHeartbeats 4000000 in
theorem has_7 (tp tq tn : Int) (vy : Bool) (pic : ByteArray) (vk n q : Int) (s : ByteArray) (w : World) (hs : s.size ≤ maxLen) (hp : pic.size ≤ maxLen) (hok : (Ty.mk 7 tp tq tn vy pic).ok = true) :
    Calls Tryz.prog 4 #[tyV 7 tp tq tn vy pic, valV vk n q s] w (SomeB (HasP 7 tp tq vk n q s) w) := by
  have HS := Lib.hid hs
  have HO := Lib.hid hok
  have HP := Lib.hid hp
  have hs' := hs
  unfold maxLen at hs'
  clear hs hok hp
  go_enter Tryz.func4, Tryz.ntmps4
  go_wp2_with fail
  go_at_call 13
  refine (validB true _ _ _ _ _ _ _ HP.out HO.out).mono ?_
  rintro e w1 ⟨rfl, hb1⟩
  obtain ⟨HT, HV, hz, hw1⟩ := two hb1
  obtain ⟨t0, t1, t2, t3, t4, t5, tf⟩ := tcells HT
  obtain ⟨v0, v1, v2, v3, vf⟩ := vcells' HV
  have KT := Lib.hid HT
  have KV := Lib.hid HV
  clear HT HV hb1
  go_wp2_with fail
  go_at_call 14
  refine (right_any _ _ _ _ _ HS.out).mono ?_
  rintro e w2 ⟨r, rfl, hR, hb2⟩
  have hw2 := hw1.trans (hb2.mono hw1.size)
  have hz2 : w.heap.size + 1 < w2.heap.size := by have := hb2.size; omega
  have KT2 := Lib.hid (hx_keep KT.out hb2)
  have KV2 := Lib.hid (hx_keep KV.out hb2)
  clear t0 t1 t2 t3 t4 t5 tf v0 v1 v2 v3 vf KT KV hz hw1 hb2
  obtain ⟨t0, t1, t2, t3, t4, t5, tf⟩ := tcells KT2.out
  obtain ⟨v0, v1, v2, v3, vf⟩ := vcells' KV2.out
  have HR := Lib.hid hR
  clear hR
  cases r
  · go_wp2_with fail
    go_ret
    exact someB _ (fun h => by cases h) hw2
  · by_cases hk : vk = 7
    · subst hk
      go_wp2_with fail
      go_ret
      exact someB _ (fun _ => ⟨rfl, fun h => by omega, fun h => by omega⟩) hw2
    · have hk' : ((7 : Int) != vk) = true := by rw [bne_iff_ne]; omega
      go_wp2_with fail
      go_ret
      exact someB _ (fun h => by cases h) hw2

set_option maxRecDepth 100000 in
set_option maxHeartbeats 4000000 in
theorem has_8 (tp tq tn : Int) (vy : Bool) (pic : ByteArray) (vk n q : Int) (s : ByteArray) (w : World) (hs : s.size ≤ maxLen) (hp : pic.size ≤ maxLen) (hok : (Ty.mk 8 tp tq tn vy pic).ok = true) :
    Calls Tryz.prog 4 #[tyV 8 tp tq tn vy pic, valV vk n q s] w (SomeB (HasP 8 tp tq vk n q s) w) := by
  have HS := Lib.hid hs
  have HO := Lib.hid hok
  have HP := Lib.hid hp
  have hs' := hs
  unfold maxLen at hs'
  clear hs hok hp
  go_enter Tryz.func4, Tryz.ntmps4
  go_wp2_with fail
  go_at_call 13
  refine (validB true _ _ _ _ _ _ _ HP.out HO.out).mono ?_
  rintro e w1 ⟨rfl, hb1⟩
  obtain ⟨HT, HV, hz, hw1⟩ := two hb1
  obtain ⟨t0, t1, t2, t3, t4, t5, tf⟩ := tcells HT
  obtain ⟨v0, v1, v2, v3, vf⟩ := vcells' HV
  have KT := Lib.hid HT
  have KV := Lib.hid HV
  clear HT HV hb1
  go_wp2_with fail
  go_at_call 14
  refine (right_any _ _ _ _ _ HS.out).mono ?_
  rintro e w2 ⟨r, rfl, hR, hb2⟩
  have hw2 := hw1.trans (hb2.mono hw1.size)
  have hz2 : w.heap.size + 1 < w2.heap.size := by have := hb2.size; omega
  have KT2 := Lib.hid (hx_keep KT.out hb2)
  have KV2 := Lib.hid (hx_keep KV.out hb2)
  clear t0 t1 t2 t3 t4 t5 tf v0 v1 v2 v3 vf KT KV hz hw1 hb2
  obtain ⟨t0, t1, t2, t3, t4, t5, tf⟩ := tcells KT2.out
  obtain ⟨v0, v1, v2, v3, vf⟩ := vcells' KV2.out
  have HR := Lib.hid hR
  clear hR
  cases r
  · go_wp2_with fail
    go_ret
    exact someB _ (fun h => by cases h) hw2
  · by_cases hk : vk = 8
    · subst hk
      go_wp2_with fail
      go_ret
      exact someB _ (fun _ => ⟨rfl, fun h => by omega, fun h => by omega⟩) hw2
    · have hk' : ((8 : Int) != vk) = true := by rw [bne_iff_ne]; omega
      go_wp2_with fail
      go_ret
      exact someB _ (fun h => by cases h) hw2

set_option maxRecDepth 100000 in
set_option maxHeartbeats 4000000 in
theorem has_9 (tp tq tn : Int) (vy : Bool) (pic : ByteArray) (vk n q : Int) (s : ByteArray) (w : World) (hs : s.size ≤ maxLen) (hp : pic.size ≤ maxLen) (hok : (Ty.mk 9 tp tq tn vy pic).ok = true) :
    Calls Tryz.prog 4 #[tyV 9 tp tq tn vy pic, valV vk n q s] w (SomeB (HasP 9 tp tq vk n q s) w) := by
  have HS := Lib.hid hs
  have HO := Lib.hid hok
  have HP := Lib.hid hp
  have hs' := hs
  unfold maxLen at hs'
  clear hs hok hp
  go_enter Tryz.func4, Tryz.ntmps4
  go_wp2_with fail
  go_at_call 13
  refine (validB true _ _ _ _ _ _ _ HP.out HO.out).mono ?_
  rintro e w1 ⟨rfl, hb1⟩
  obtain ⟨HT, HV, hz, hw1⟩ := two hb1
  obtain ⟨t0, t1, t2, t3, t4, t5, tf⟩ := tcells HT
  obtain ⟨v0, v1, v2, v3, vf⟩ := vcells' HV
  have KT := Lib.hid HT
  have KV := Lib.hid HV
  clear HT HV hb1
  go_wp2_with fail
  go_at_call 14
  refine (right_any _ _ _ _ _ HS.out).mono ?_
  rintro e w2 ⟨r, rfl, hR, hb2⟩
  have hw2 := hw1.trans (hb2.mono hw1.size)
  have hz2 : w.heap.size + 1 < w2.heap.size := by have := hb2.size; omega
  have KT2 := Lib.hid (hx_keep KT.out hb2)
  have KV2 := Lib.hid (hx_keep KV.out hb2)
  clear t0 t1 t2 t3 t4 t5 tf v0 v1 v2 v3 vf KT KV hz hw1 hb2
  obtain ⟨t0, t1, t2, t3, t4, t5, tf⟩ := tcells KT2.out
  obtain ⟨v0, v1, v2, v3, vf⟩ := vcells' KV2.out
  have HR := Lib.hid hR
  clear hR
  cases r
  · go_wp2_with fail
    go_ret
    exact someB _ (fun h => by cases h) hw2
  · by_cases hk : vk = 9
    · subst hk
      go_wp2_with fail
      go_ret
      exact someB _ (fun _ => ⟨rfl, fun h => by omega, fun h => by omega⟩) hw2
    · have hk' : ((9 : Int) != vk) = true := by rw [bne_iff_ne]; omega
      go_wp2_with fail
      go_ret
      exact someB _ (fun h => by cases h) hw2

end Go.Proofs.YtbjnglfapgpncaaGreatDoor
namespace Go.Proofs.YtbjnglfapgpncaaGreatDoor
open Go.RowKit

theorem has_any (tk tp tq tn : Int) (vy : Bool) (pic : ByteArray) (vk n q : Int) (s : ByteArray) (w : World) (hs : s.size ≤ maxLen) (hp : pic.size ≤ maxLen) :
    Calls Tryz.prog 4 #[tyV tk tp tq tn vy pic, valV vk n q s] w (SomeB ((Ty.mk tk tp tq tn vy pic).ok = true ∧ HasP tk tp tq vk n q s) w) := by
  cases hok : (Ty.mk tk tp tq tn vy pic).ok
  · exact (has_bad tk tp tq tn vy pic vk n q s w hp hok).mono fun e w' h => h.weak fun h => h.elim
  · have lift : ∀ e w', SomeB (HasP tk tp tq vk n q s) w e w' → SomeB ((true = true) ∧ HasP tk tp tq vk n q s) w e w' := fun e w' h => h.weak fun h => ⟨rfl, h⟩
    obtain ⟨k1, k9⟩ := ok_kind hok
    obtain rfl | rfl | rfl | rfl | rfl | rfl | rfl | rfl | rfl : tk = 1 ∨ tk = 2 ∨ tk = 3 ∨ tk = 4 ∨ tk = 5 ∨ tk = 6 ∨ tk = 7 ∨ tk = 8 ∨ tk = 9 := by omega
    · obtain ⟨h1, h2, h3, h4, rfl, rfl, rfl⟩ := ok_1_of hok
      obtain ⟨P, rfl⟩ : ∃ P : Nat, tp = (P : Int) := ⟨tp.toNat, by omega⟩
      obtain ⟨Q, rfl⟩ : ∃ Q : Nat, tq = (Q : Int) := ⟨tq.toNat, by omega⟩
      exact (has_1 P Q vk n q s w hs (by omega) (by omega) (by omega)).mono lift
    · obtain ⟨h1, h2, h3, h4, rfl, rfl, rfl⟩ := ok_2_of hok
      obtain ⟨P, rfl⟩ : ∃ P : Nat, tp = (P : Int) := ⟨tp.toNat, by omega⟩
      obtain ⟨Q, rfl⟩ : ∃ Q : Nat, tq = (Q : Int) := ⟨tq.toNat, by omega⟩
      exact (has_2 P Q vk n q s w hs (by omega) (by omega) (by omega)).mono lift
    · exact (has_3 tp tq tn vy pic vk n q s w hs hp hok).mono lift
    · exact (has_4 tp tq tn vy pic vk n q s w hs hp hok).mono lift
    · exact (has_5 tp tq tn vy pic vk n q s w hs hp hok).mono lift
    · exact (has_6 tp tq tn vy pic vk n q s w hs hp hok).mono lift
    · exact (has_7 tp tq tn vy pic vk n q s w hs hp hok).mono lift
    · exact (has_8 tp tq tn vy pic vk n q s w hs hp hok).mono lift
    · exact (has_9 tp tq tn vy pic vk n q s w hs hp hok).mono lift
end Go.Proofs.YtbjnglfapgpncaaGreatDoor
