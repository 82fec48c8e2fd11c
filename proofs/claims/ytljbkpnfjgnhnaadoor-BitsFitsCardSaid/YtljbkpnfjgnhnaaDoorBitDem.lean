/- Package bits, what calls demand of their arguments: demandStrings, demandKind, demandAlike, demandFitting, demandWithin, demandCounts, demandRoom. -/
import Derived.Test.YtljbkpnfjgnhnaaDoorBitAns
import Derived.Test.YtljbkpnfjgnhnaaDoorBitVls
namespace Go.Proofs.YtljbkpnfjgnhnaaDoor
open Go.RowKit

theorem bValid_b (b : Bool) (k n q : Int) (s : ByteArray) (w : World) (hs : s.size ≤ maxLen) (h : okV k n q s.data.toList = b) :
    Calls Tryd.prog 8 #[vlV k n q s] w fun e w' => e = .returned (.bool b) ∧ Below w.heap.size w w' := by
  subst h; exact bValid_any k n q s w hs

set_option maxHeartbeats 1000000 in
theorem demStr_ok (vs : List Vl) (b o cap : Nat) (w : World) (hA : VlsAt w b o vs) (hlen : vs.length ≤ 4000000000) (hb : b < w.heap.size) (hpic : ∀ v ∈ vs, v.s.size ≤ maxLen) (hv : ∀ v ∈ vs, v.ok = true) :
    Calls Tryd.prog 33 #[.slice (some ⟨b, o, none⟩) vs.length cap] w fun e w' => e = .returned (.tuple #[]) ∧ Below w.heap.size w w' := by
  have HA := Lib.hid hA
  have HV := Lib.hid hv
  have HP := Lib.hid hpic
  clear hA hv hpic
  go_enter Tryd.func33, Tryd.ntmps33
  go_wp2
  go_loopw [6] (fun i wr => ∃ k : Nat, k ≤ vs.length ∧ i = .int .i64 k ∧ Below w.heap.size w wr) (fun i _ => vs.length - (intOf i).toNat)
  case atStart => exact ⟨0, Nat.zero_le _, rfl, Below.refl _ _⟩
  case round =>
    obtain ⟨k, hk, rfl, hB⟩ := hrel
    by_cases hlt : k < vs.length
    · obtain ⟨kd, n, q, s, ht, c0, c1, c2, c3⟩ := (HA.out.below hb hB).at k hlt
      have hmem : vs[k] ∈ vs := List.getElem_mem hlt
      have HT := Lib.hid ht
      have HM := Lib.hid hmem
      have HB := Lib.hid hB
      clear ht hmem hB
      go_wp2_with (go_at_call 8; refine (bValid_b true _ _ _ _ _ (by have := HP.out _ HM.out; rwa [HT.out] at this) (by have := HV.out _ HM.out; rwa [HT.out] at this)).mono ?_; rintro e w2 ⟨rfl, hb2⟩)
      go_roundw
      case rel => exact ⟨k + 1, by omega, by go_num, bl_box HB.out hb2⟩
      case measure => simp [intOf]; omega
    · have HB := Lib.hid hB
      clear hB
      go_wp2
      go_end0
      exact ⟨rfl, HB.out⟩

set_option maxHeartbeats 1000000 in
theorem demStr_no (vs : List Vl) (b o cap : Nat) (w : World) (hA : VlsAt w b o vs) (hlen : vs.length ≤ 4000000000) (hb : b < w.heap.size) (hpic : ∀ v ∈ vs, v.s.size ≤ maxLen) (hv : ¬ ∀ v ∈ vs, v.ok = true) :
    Calls Tryd.prog 33 #[.slice (some ⟨b, o, none⟩) vs.length cap] w fun e w' => e = bRef 1 ∧ Below w.heap.size w w' := by
  have HA := Lib.hid hA
  have HV := Lib.hid hv
  have HP := Lib.hid hpic
  clear hA hv hpic
  go_enter Tryd.func33, Tryd.ntmps33
  go_wp2
  go_loopw [6] (fun i wr => ∃ k : Nat, k ≤ vs.length ∧ i = .int .i64 k ∧ Below w.heap.size w wr ∧ Hid (∀ (j : Nat) (h : j < vs.length), j < k → (vs[j]).ok = true)) (fun i _ => vs.length - (intOf i).toNat)
  case atStart => exact ⟨0, Nat.zero_le _, rfl, Below.refl _ _, fun j h hj => absurd hj (Nat.not_lt_zero _)⟩
  case round =>
    obtain ⟨k, hk, rfl, hB, HF⟩ := hrel
    have hlt : k < vs.length := vls_fails HV.out k HF.out
    obtain ⟨kd, n, q, s, ht, c0, c1, c2, c3⟩ := (HA.out.below hb hB).at k hlt
    have hmem : vs[k] ∈ vs := List.getElem_mem hlt
    have HT := Lib.hid ht
    have HM := Lib.hid hmem
    have HB := Lib.hid hB
    clear ht hmem hB
    by_cases hok : (vs[k]).ok = true
    · have HO := Lib.hid hok
      clear hok
      go_wp2_with (go_at_call 8; refine (bValid_b true _ _ _ _ _ (by have := HP.out _ HM.out; rwa [HT.out] at this) (by have := HO.out; rwa [HT.out] at this)).mono ?_; rintro e w2 ⟨rfl, hb2⟩)
      go_roundw
      case rel => exact ⟨k + 1, by omega, by go_num, bl_box HB.out hb2, vls_step HF.out hlt HO.out⟩
      case measure => simp [intOf]; omega
    · have HO := Lib.hid hok
      clear hok
      go_wp2_with (first
        | (go_at_call 8; refine (bValid_b false _ _ _ _ _ (by have := HP.out _ HM.out; rwa [HT.out] at this) (by have := HO.out; rw [HT.out] at this; simpa [Vl.ok] using this)).mono ?_; rintro e w2 ⟨rfl, hb2⟩)
        | (go_at_call 41; refine (bRefuse _ _).mono ?_; rintro e w3 ⟨rfl, rfl⟩))
      exact ⟨rfl, rfl, bl_box HB.out hb2⟩

/-- Whether a value is of a kind. -/
def Vl.is (k : Int) (v : Vl) : Bool := v.k == k

theorem number_k (k : Int) (h : k = 4 ∨ k = 5) : ∃ te fn, kdV k = .iface te (.agg #[]) ∧ (∀ w : World, Calls Tryd.prog fn #[.agg #[]] w fun e w' => e = .returned (.int .i64 k) ∧ Below w.heap.size w w') := by
  rcases h with rfl | rfl
  · exact ⟨_, 88, kdV_4, fun w => number_c w⟩
  · exact ⟨_, 89, kdV_5, fun w => number_d w⟩

set_option maxHeartbeats 1000000 in
theorem demKind_1 (k : Int) (vs : List Vl) (b o cap : Nat) (w : World) (hA : VlsAt w b o vs) (hlen : vs.length ≤ 4000000000) (hb : b < w.heap.size) (hpic : ∀ v ∈ vs, v.s.size ≤ maxLen) (hv : ¬ ∀ v ∈ vs, v.ok = true) :
    Calls Tryd.prog 28 #[kdV k, .slice (some ⟨b, o, none⟩) vs.length cap] w fun e w' => e = bRef 1 ∧ Below w.heap.size w w' := by
  have HA := Lib.hid hA
  have HV := Lib.hid hv
  have HP := Lib.hid hpic
  clear hA hv hpic
  go_enter Tryd.func28, Tryd.ntmps28
  go_wp2_with (go_at_call 33; refine (demStr_no vs b o cap _ HA.out hlen hb HP.out HV.out).mono ?_; rintro e w1 ⟨rfl, hb1⟩)
  exact ⟨rfl, rfl, hb1⟩

set_option maxHeartbeats 1000000 in
theorem demKind_ok (vs : List Vl) (b o cap : Nat) (w : World) (hA : VlsAt w b o vs) (hlen : vs.length ≤ 4000000000) (hb : b < w.heap.size) (hpic : ∀ v ∈ vs, v.s.size ≤ maxLen) (hv : ∀ v ∈ vs, v.ok = true) (hn : ∀ v ∈ vs, v.is 4 = true) :
    Calls Tryd.prog 28 #[kdV 4, .slice (some ⟨b, o, none⟩) vs.length cap] w fun e w' => e = .returned (.tuple #[]) ∧ Below w.heap.size w w' := by
  rw [kdV_4]
  have HA := Lib.hid hA
  have HV := Lib.hid hv
  have HN := Lib.hid hn
  have HP := Lib.hid hpic
  clear hA hv hn hpic
  go_enter Tryd.func28, Tryd.ntmps28
  go_wp2_with (go_at_call 33; refine (demStr_ok vs b o cap _ HA.out hlen hb HP.out HV.out).mono ?_; rintro e w1 ⟨rfl, hb1⟩)
  go_loopw [10] (fun i wr => ∃ k : Nat, k ≤ vs.length ∧ i = .int .i64 k ∧ Below w.heap.size w wr) (fun i _ => vs.length - (intOf i).toNat)
  case atStart => exact ⟨0, Nat.zero_le _, rfl, hb1⟩
  case round =>
    obtain ⟨k, hk, rfl, hB⟩ := hrel
    by_cases hlt : k < vs.length
    · obtain ⟨kd, n, q, s, ht, c0, c1, c2, c3⟩ := (HA.out.below hb hB).at k hlt
      have hmem : vs[k] ∈ vs := List.getElem_mem hlt
      have hkd : kd = 4 := by have := HN.out _ hmem; rw [ht] at this; simpa [Vl.is] using this
      subst hkd
      have HT := Lib.hid ht
      have HM := Lib.hid hmem
      have HB := Lib.hid hB
      clear ht hmem hB
      go_wp2
      generalize hwo : wr.alloc (.cells #[.int .i64 4, .int .i64 n, .int .i64 q, .string s] 23) = wo
      have R := (Row.new wr #[.int .i64 4, .int .i64 n, .int .i64 q, .string s] 23)
      rw [hwo] at R
      have x0 := R.four.1
      have l0 := R.lt
      have HW := Lib.hid hwo
      clear hwo R
      go_region_held3 (fun w' => w'.cell? ⟨wr.heap.size, 0, none⟩ = some (.int .i64 4))
        (first | go_keep | (rw [hb2.cell (by simp <;> omega)]; assumption))
        (first | (go_at_call 88; refine (number_c _).mono ?_; rintro e w2 ⟨rfl, hb2⟩))
      have hb3 : Below wo.heap.size wo w2 := below_then ((Below.refl _ _).drew) hb2 (by simp)
      have HB3 := Lib.hid hb3
      clear hb2 hb3
      go_wp2
      go_roundw
      case rel => exact ⟨k + 1, by omega, by go_num, by have := HB3.out; rw [← HW.out] at this; exact bl_box HB.out this⟩
      case measure => simp [intOf]; omega
    · have HB := Lib.hid hB
      clear hB
      go_wp2
      go_end0
      exact ⟨rfl, HB.out⟩
set_option maxHeartbeats 1000000 in
theorem demKind_ok5 (vs : List Vl) (b o cap : Nat) (w : World) (hA : VlsAt w b o vs) (hlen : vs.length ≤ 4000000000) (hb : b < w.heap.size) (hpic : ∀ v ∈ vs, v.s.size ≤ maxLen) (hv : ∀ v ∈ vs, v.ok = true) (hn : ∀ v ∈ vs, v.is 5 = true) :
    Calls Tryd.prog 28 #[kdV 5, .slice (some ⟨b, o, none⟩) vs.length cap] w fun e w' => e = .returned (.tuple #[]) ∧ Below w.heap.size w w' := by
  rw [kdV_5]
  have HA := Lib.hid hA
  have HV := Lib.hid hv
  have HN := Lib.hid hn
  have HP := Lib.hid hpic
  clear hA hv hn hpic
  go_enter Tryd.func28, Tryd.ntmps28
  go_wp2_with (go_at_call 33; refine (demStr_ok vs b o cap _ HA.out hlen hb HP.out HV.out).mono ?_; rintro e w1 ⟨rfl, hb1⟩)
  go_loopw [10] (fun i wr => ∃ k : Nat, k ≤ vs.length ∧ i = .int .i64 k ∧ Below w.heap.size w wr) (fun i _ => vs.length - (intOf i).toNat)
  case atStart => exact ⟨0, Nat.zero_le _, rfl, hb1⟩
  case round =>
    obtain ⟨k, hk, rfl, hB⟩ := hrel
    by_cases hlt : k < vs.length
    · obtain ⟨kd, n, q, s, ht, c0, c1, c2, c3⟩ := (HA.out.below hb hB).at k hlt
      have hmem : vs[k] ∈ vs := List.getElem_mem hlt
      have hkd : kd = 5 := by have := HN.out _ hmem; rw [ht] at this; simpa [Vl.is] using this
      subst hkd
      have HT := Lib.hid ht
      have HM := Lib.hid hmem
      have HB := Lib.hid hB
      clear ht hmem hB
      go_wp2
      generalize hwo : wr.alloc (.cells #[.int .i64 5, .int .i64 n, .int .i64 q, .string s] 23) = wo
      have R := (Row.new wr #[.int .i64 5, .int .i64 n, .int .i64 q, .string s] 23)
      rw [hwo] at R
      have x0 := R.four.1
      have l0 := R.lt
      have HW := Lib.hid hwo
      clear hwo R
      go_region_held3 (fun w' => w'.cell? ⟨wr.heap.size, 0, none⟩ = some (.int .i64 5))
        (first | go_keep | (rw [hb2.cell (by simp <;> omega)]; assumption))
        (first | (go_at_call 89; refine (number_d _).mono ?_; rintro e w2 ⟨rfl, hb2⟩))
      have hb3 : Below wo.heap.size wo w2 := below_then ((Below.refl _ _).drew) hb2 (by simp)
      have HB3 := Lib.hid hb3
      clear hb2 hb3
      go_wp2
      go_roundw
      case rel => exact ⟨k + 1, by omega, by go_num, by have := HB3.out; rw [← HW.out] at this; exact bl_box HB.out this⟩
      case measure => simp [intOf]; omega
    · have HB := Lib.hid hB
      clear hB
      go_wp2
      go_end0
      exact ⟨rfl, HB.out⟩
set_option maxHeartbeats 1000000 in
theorem demKind_no (vs : List Vl) (b o cap : Nat) (w : World) (hA : VlsAt w b o vs) (hlen : vs.length ≤ 4000000000) (hb : b < w.heap.size) (hpic : ∀ v ∈ vs, v.s.size ≤ maxLen) (hv : ∀ v ∈ vs, v.ok = true) (hn : ¬ ∀ v ∈ vs, v.is 4 = true) :
    Calls Tryd.prog 28 #[kdV 4, .slice (some ⟨b, o, none⟩) vs.length cap] w fun e w' => e = bRef 10 ∧ Below w.heap.size w w' := by
  rw [kdV_4]
  have HA := Lib.hid hA
  have HV := Lib.hid hv
  have HN := Lib.hid hn
  have HP := Lib.hid hpic
  clear hA hv hn hpic
  go_enter Tryd.func28, Tryd.ntmps28
  go_wp2_with (go_at_call 33; refine (demStr_ok vs b o cap _ HA.out hlen hb HP.out HV.out).mono ?_; rintro e w1 ⟨rfl, hb1⟩)
  go_loopw [10] (fun i wr => ∃ k : Nat, k ≤ vs.length ∧ i = .int .i64 k ∧ Below w.heap.size w wr ∧ Hid (∀ (j : Nat) (h : j < vs.length), j < k → (vs[j]).is 4 = true)) (fun i _ => vs.length - (intOf i).toNat)
  case atStart => exact ⟨0, Nat.zero_le _, rfl, hb1, fun j h hj => absurd hj (Nat.not_lt_zero _)⟩
  case round =>
    obtain ⟨k, hk, rfl, hB, HF⟩ := hrel
    have hlt : k < vs.length := vls_fails HN.out k HF.out
    obtain ⟨kd, n, q, s, ht, c0, c1, c2, c3⟩ := (HA.out.below hb hB).at k hlt
    have HT := Lib.hid ht
    have HB := Lib.hid hB
    clear ht hB
    by_cases hkd : kd = 4
    · subst hkd
      go_wp2
      generalize hwo : wr.alloc (.cells #[.int .i64 4, .int .i64 n, .int .i64 q, .string s] 23) = wo
      have R := (Row.new wr #[.int .i64 4, .int .i64 n, .int .i64 q, .string s] 23)
      rw [hwo] at R
      have x0 := R.four.1
      have l0 := R.lt
      have HW := Lib.hid hwo
      clear hwo R
      go_region_held3 (fun w' => w'.cell? ⟨wr.heap.size, 0, none⟩ = some (.int .i64 4))
        (first | go_keep | (rw [hb2.cell (by simp <;> omega)]; assumption))
        (first | (go_at_call 88; refine (number_c _).mono ?_; rintro e w2 ⟨rfl, hb2⟩))
      have hb3 : Below wo.heap.size wo w2 := below_then ((Below.refl _ _).drew) hb2 (by simp)
      have HB3 := Lib.hid hb3
      clear hb2 hb3
      go_wp2
      go_roundw
      case rel => exact ⟨k + 1, by omega, by go_num, by have := HB3.out; rw [← HW.out] at this; exact bl_box HB.out this, vls_step HF.out hlt (by rw [HT.out]; rfl)⟩
      case measure => simp [intOf]; omega
    · have e1 : (kd != 4) = true := by simpa using hkd
      have e2 : (kd == 4) = false := by simpa using hkd
      have HD := Lib.hid hkd
      clear hkd
      go_wp2
      generalize hwo : wr.alloc (.cells #[.int .i64 kd, .int .i64 n, .int .i64 q, .string s] 23) = wo
      have R := (Row.new wr #[.int .i64 kd, .int .i64 n, .int .i64 q, .string s] 23)
      rw [hwo] at R
      have x0 := R.four.1
      have l0 := R.lt
      have HW := Lib.hid hwo
      clear hwo R
      go_region_held3 (fun w' => w'.cell? ⟨wr.heap.size, 0, none⟩ = some (.int .i64 kd))
        (first | go_keep | (rw [hb2.cell (by simp <;> omega)]; assumption))
        (first | (go_at_call 88; refine (number_c _).mono ?_; rintro e w2 ⟨rfl, hb2⟩))
      have hb3 : Below wo.heap.size wo w2 := below_then ((Below.refl _ _).drew) hb2 (by simp)
      have HB3 := Lib.hid hb3
      clear hb2 hb3
      go_wp2_with (go_at_call 41; refine (bRefuse _ _).mono ?_; rintro e w3 ⟨rfl, rfl⟩)
      exact ⟨rfl, rfl, by have := HB3.out; rw [← HW.out] at this; exact bl_box HB.out this⟩
set_option maxHeartbeats 1000000 in
theorem demKind_no5 (vs : List Vl) (b o cap : Nat) (w : World) (hA : VlsAt w b o vs) (hlen : vs.length ≤ 4000000000) (hb : b < w.heap.size) (hpic : ∀ v ∈ vs, v.s.size ≤ maxLen) (hv : ∀ v ∈ vs, v.ok = true) (hn : ¬ ∀ v ∈ vs, v.is 5 = true) :
    Calls Tryd.prog 28 #[kdV 5, .slice (some ⟨b, o, none⟩) vs.length cap] w fun e w' => e = bRef 10 ∧ Below w.heap.size w w' := by
  rw [kdV_5]
  have HA := Lib.hid hA
  have HV := Lib.hid hv
  have HN := Lib.hid hn
  have HP := Lib.hid hpic
  clear hA hv hn hpic
  go_enter Tryd.func28, Tryd.ntmps28
  go_wp2_with (go_at_call 33; refine (demStr_ok vs b o cap _ HA.out hlen hb HP.out HV.out).mono ?_; rintro e w1 ⟨rfl, hb1⟩)
  go_loopw [10] (fun i wr => ∃ k : Nat, k ≤ vs.length ∧ i = .int .i64 k ∧ Below w.heap.size w wr ∧ Hid (∀ (j : Nat) (h : j < vs.length), j < k → (vs[j]).is 5 = true)) (fun i _ => vs.length - (intOf i).toNat)
  case atStart => exact ⟨0, Nat.zero_le _, rfl, hb1, fun j h hj => absurd hj (Nat.not_lt_zero _)⟩
  case round =>
    obtain ⟨k, hk, rfl, hB, HF⟩ := hrel
    have hlt : k < vs.length := vls_fails HN.out k HF.out
    obtain ⟨kd, n, q, s, ht, c0, c1, c2, c3⟩ := (HA.out.below hb hB).at k hlt
    have HT := Lib.hid ht
    have HB := Lib.hid hB
    clear ht hB
    by_cases hkd : kd = 5
    · subst hkd
      go_wp2
      generalize hwo : wr.alloc (.cells #[.int .i64 5, .int .i64 n, .int .i64 q, .string s] 23) = wo
      have R := (Row.new wr #[.int .i64 5, .int .i64 n, .int .i64 q, .string s] 23)
      rw [hwo] at R
      have x0 := R.four.1
      have l0 := R.lt
      have HW := Lib.hid hwo
      clear hwo R
      go_region_held3 (fun w' => w'.cell? ⟨wr.heap.size, 0, none⟩ = some (.int .i64 5))
        (first | go_keep | (rw [hb2.cell (by simp <;> omega)]; assumption))
        (first | (go_at_call 89; refine (number_d _).mono ?_; rintro e w2 ⟨rfl, hb2⟩))
      have hb3 : Below wo.heap.size wo w2 := below_then ((Below.refl _ _).drew) hb2 (by simp)
      have HB3 := Lib.hid hb3
      clear hb2 hb3
      go_wp2
      go_roundw
      case rel => exact ⟨k + 1, by omega, by go_num, by have := HB3.out; rw [← HW.out] at this; exact bl_box HB.out this, vls_step HF.out hlt (by rw [HT.out]; rfl)⟩
      case measure => simp [intOf]; omega
    · have e1 : (kd != 5) = true := by simpa using hkd
      have e2 : (kd == 5) = false := by simpa using hkd
      have HD := Lib.hid hkd
      clear hkd
      go_wp2
      generalize hwo : wr.alloc (.cells #[.int .i64 kd, .int .i64 n, .int .i64 q, .string s] 23) = wo
      have R := (Row.new wr #[.int .i64 kd, .int .i64 n, .int .i64 q, .string s] 23)
      rw [hwo] at R
      have x0 := R.four.1
      have l0 := R.lt
      have HW := Lib.hid hwo
      clear hwo R
      go_region_held3 (fun w' => w'.cell? ⟨wr.heap.size, 0, none⟩ = some (.int .i64 kd))
        (first | go_keep | (rw [hb2.cell (by simp <;> omega)]; assumption))
        (first | (go_at_call 89; refine (number_d _).mono ?_; rintro e w2 ⟨rfl, hb2⟩))
      have hb3 : Below wo.heap.size wo w2 := below_then ((Below.refl _ _).drew) hb2 (by simp)
      have HB3 := Lib.hid hb3
      clear hb2 hb3
      go_wp2_with (go_at_call 41; refine (bRefuse _ _).mono ?_; rintro e w3 ⟨rfl, rfl⟩)
      exact ⟨rfl, rfl, by have := HB3.out; rw [← HW.out] at this; exact bl_box HB.out this⟩

theorem demKind_yes (k : Int) (hk : k = 4 ∨ k = 5) (vs : List Vl) (b o cap : Nat) (w : World) (hA : VlsAt w b o vs) (hlen : vs.length ≤ 4000000000) (hb : b < w.heap.size) (hpic : ∀ v ∈ vs, v.s.size ≤ maxLen) (hv : ∀ v ∈ vs, v.ok = true) (hn : ∀ v ∈ vs, v.is k = true) :
    Calls Tryd.prog 28 #[kdV k, .slice (some ⟨b, o, none⟩) vs.length cap] w fun e w' => e = .returned (.tuple #[]) ∧ Below w.heap.size w w' := by
  rcases hk with rfl | rfl
  · exact demKind_ok vs b o cap w hA hlen hb hpic hv hn
  · exact demKind_ok5 vs b o cap w hA hlen hb hpic hv hn
theorem demKind_10 (k : Int) (hk : k = 4 ∨ k = 5) (vs : List Vl) (b o cap : Nat) (w : World) (hA : VlsAt w b o vs) (hlen : vs.length ≤ 4000000000) (hb : b < w.heap.size) (hpic : ∀ v ∈ vs, v.s.size ≤ maxLen) (hv : ∀ v ∈ vs, v.ok = true) (hn : ¬ ∀ v ∈ vs, v.is k = true) :
    Calls Tryd.prog 28 #[kdV k, .slice (some ⟨b, o, none⟩) vs.length cap] w fun e w' => e = bRef 10 ∧ Below w.heap.size w w' := by
  rcases hk with rfl | rfl
  · exact demKind_no vs b o cap w hA hlen hb hpic hv hn
  · exact demKind_no5 vs b o cap w hA hlen hb hpic hv hn
end Go.Proofs.YtljbkpnfjgnhnaaDoor
