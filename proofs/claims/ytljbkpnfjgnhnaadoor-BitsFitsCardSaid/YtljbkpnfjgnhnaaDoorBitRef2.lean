/- The document's demands of layer 5: plain, strings. -/
import Derived.Test.YtljbkpnfjgnhnaaDoorBitRef1
import Derived.Test.YtljbkpnfjgnhnaaDoorBitDem3
namespace Go.Proofs.YtljbkpnfjgnhnaaDoor
open Go.RowKit

/-- Alike the first one, and of a kind (0: of any one). -/
def Vl.alike (k0 kind : Int) (v : Vl) : Bool := v.k == k0 && (kind == 0 || v.k == kind)
set_option maxHeartbeats 1000000 in
theorem strs_1 (kind : Int) (vs : List Vl) (b o cap : Nat) (w : World) (hA : VlsAt w b o vs) (hlen : vs.length ≤ 4000000000) (hb : b < w.heap.size) (hpic : ∀ v ∈ vs, v.s.size ≤ maxLen) (hv : ¬ ∀ v ∈ vs, v.ok = true) :
    Calls Tryd.prog 30 #[.slice (some ⟨b, o, none⟩) vs.length cap, .int .i64 kind] w fun e w' => e = .returned (.int .i64 1) ∧ Below w.heap.size w w' := by
  have HA := Lib.hid hA
  have HV := Lib.hid hv
  have HP := Lib.hid hpic
  clear hA hv hpic
  go_enter Tryd.func30, Tryd.ntmps30
  go_wp2
  go_loopw [5] (fun i wr => ∃ k : Nat, k ≤ vs.length ∧ i = .int .i64 k ∧ Below w.heap.size w wr ∧ Hid (∀ (j : Nat) (h : j < vs.length), j < k → (vs[j]).ok = true)) (fun i _ => vs.length - (intOf i).toNat)
  case atStart => exact ⟨0, Nat.zero_le _, rfl, Below.refl _ _, fun j h hj => absurd hj (Nat.not_lt_zero _)⟩
  case round =>
    obtain ⟨k, hk, rfl, hB, HF⟩ := hrel
    have hlt : k < vs.length := vls_fails HV.out k HF.out
    obtain ⟨kd, n, q, s, ht, c0, c1, c2, c3⟩ := (HA.out.below hb hB).at k hlt
    have hmem : vs[k] ∈ vs := List.getElem_mem hlt
    have HT := Lib.hid ht
    have HM := Lib.hid hmem
    have HB := Lib.hid hB
    clear ht hmem hB
    by_cases hok : (vs[k]).ok = true
    · have HO := Lib.hid hok
      clear hok
      go_wp2_with (go_at_call 9; refine (rValid_b true _ _ _ _ _ (by have := HP.out _ HM.out; rwa [HT.out] at this) (by have := HO.out; rwa [HT.out] at this)).mono ?_; rintro e w2 ⟨rfl, hb2⟩)
      go_roundw
      case rel => exact ⟨k + 1, by omega, by go_num, bl_then HB.out hb2, vls_step HF.out hlt HO.out⟩
      case measure => simp [intOf]; omega
    · have HO := Lib.hid hok
      clear hok
      go_wp2_with (go_at_call 9; refine (rValid_b false _ _ _ _ _ (by have := HP.out _ HM.out; rwa [HT.out] at this) (by have := HO.out; rw [HT.out] at this; simpa [Vl.ok] using this)).mono ?_; rintro e w2 ⟨rfl, hb2⟩)
      go_ret
      exact ⟨rfl, bl_then HB.out hb2⟩

set_option maxRecDepth 100000 in
set_option maxHeartbeats 2000000 in
theorem strs_zok (v0 : Vl) (vs : List Vl) (b o cap : Nat) (w : World) (hA : VlsAt w b o vs) (hlen : vs.length ≤ 4000000000) (hb : b < w.heap.size) (hpic : ∀ v ∈ vs, v.s.size ≤ maxLen) (hv : ∀ v ∈ vs, v.ok = true) (h0 : vs[0]? = some v0) (hn : (∀ v ∈ vs, v.alike v0.k 0 = true)) :
    Calls Tryd.prog 30 #[.slice (some ⟨b, o, none⟩) vs.length cap, .int .i64 0] w fun e w' => e = .returned (.int .i64 0) ∧ Below w.heap.size w w' := by
  obtain ⟨k0, n0, q0, s0⟩ := v0
  have hl0 : 0 < vs.length := (List.getElem?_eq_some_iff.1 h0).1
  have HA := Lib.hid hA
  have HV := Lib.hid hv
  have HN := Lib.hid hn
  have HP := Lib.hid hpic
  have H0 := Lib.hid h0
  clear hA hv hn hpic h0
  go_enter Tryd.func30, Tryd.ntmps30
  go_wp2
  go_loopw [5] (fun i wr => ∃ k : Nat, k ≤ vs.length ∧ i = .int .i64 k ∧ Below w.heap.size w wr) (fun i _ => vs.length - (intOf i).toNat)
  case atStart => exact ⟨0, Nat.zero_le _, rfl, Below.refl _ _⟩
  case round =>
    obtain ⟨k, hk, rfl, hB⟩ := hrel
    by_cases hlt : k < vs.length
    · obtain ⟨kd, n, q, s, ht, c0, c1, c2, c3⟩ := (HA.out.below hb hB).at k hlt
      have hmem : vs[k] ∈ vs := List.getElem_mem hlt
      have HT := Lib.hid ht
      have HM := Lib.hid hmem
      have HB := Lib.hid hB
      clear ht hmem hB
      go_wp2_with (go_at_call 9; refine (rValid_b true _ _ _ _ _ (by have := HP.out _ HM.out; rwa [HT.out] at this) (by have := HV.out _ HM.out; rwa [HT.out] at this)).mono ?_; rintro e w2 ⟨rfl, hb2⟩)
      go_roundw
      case rel => exact ⟨k + 1, by omega, by go_num, bl_then HB.out hb2⟩
      case measure => simp [intOf]; omega
    · have HB := Lib.hid hB
      clear hB
      go_wp2
      clear hlt hk
      obtain ⟨wo, hwo⟩ : ∃ wo : World, wo = wr := ⟨_, rfl⟩
      subst hwo
      go_loopw [6] (fun i wr => ∃ k : Nat, k ≤ vs.length ∧ i = .int .i64 k ∧ Below w.heap.size w wr) (fun i _ => vs.length - (intOf i).toNat)
      case atStart => exact ⟨0, Nat.zero_le _, rfl, HB.out⟩
      case round =>
        obtain ⟨k, hk, rfl, hB⟩ := hrel
        clear HB
        by_cases hlt : k < vs.length
        · obtain ⟨kd, n, q, s, ht, c0, c1, c2, c3⟩ := (HA.out.below hb hB).at k hlt
          obtain ⟨kx, nx, qx, sx, hx, x0, _, _, _⟩ := (HA.out.below hb hB).at 0 hl0
          obtain rfl : kx = k0 := by
            have h := H0.out
            rw [List.getElem?_eq_getElem hl0, hx] at h
            exact congrArg Vl.k (Option.some.inj h)
          clear hx
          rw [Nat.zero_mul, Nat.add_zero] at x0
          have hmem : vs[k] ∈ vs := List.getElem_mem hlt
          have i1 : (k : Int) < vs.length := by omega
          have i0 : (0 : Int) < vs.length := by omega
          have HY : Hid ((Vl.mk kd n q s).alike kx 0 = true) := by show _ = _; have := HN.out _ hmem; rwa [ht] at this
          clear hmem ht
          have e1 : (kd != kx) = false := by have h := HY.out; simp only [Vl.alike, Bool.and_eq_true, beq_iff_eq] at h; simpa using h.1
          have HB := Lib.hid hB
          clear hB
          go_wp2
          go_quiet (fail)
          go_wp2
          go_roundw
          case rel => exact ⟨k + 1, by omega, by go_num, bl_dN HB.out _⟩
          case measure => simp [intOf]; omega
        · have HB := Lib.hid hB
          clear hB
          go_wp2
          go_ret
          exact ⟨rfl, HB.out⟩

set_option maxRecDepth 100000 in
set_option maxHeartbeats 2000000 in
theorem strs_z10 (v0 : Vl) (vs : List Vl) (b o cap : Nat) (w : World) (hA : VlsAt w b o vs) (hlen : vs.length ≤ 4000000000) (hb : b < w.heap.size) (hpic : ∀ v ∈ vs, v.s.size ≤ maxLen) (hv : ∀ v ∈ vs, v.ok = true) (h0 : vs[0]? = some v0) (hn : (¬ ∀ v ∈ vs, v.alike v0.k 0 = true)) :
    Calls Tryd.prog 30 #[.slice (some ⟨b, o, none⟩) vs.length cap, .int .i64 0] w fun e w' => e = .returned (.int .i64 10) ∧ Below w.heap.size w w' := by
  obtain ⟨k0, n0, q0, s0⟩ := v0
  have hl0 : 0 < vs.length := (List.getElem?_eq_some_iff.1 h0).1
  have HA := Lib.hid hA
  have HV := Lib.hid hv
  have HN := Lib.hid hn
  have HP := Lib.hid hpic
  have H0 := Lib.hid h0
  clear hA hv hn hpic h0
  go_enter Tryd.func30, Tryd.ntmps30
  go_wp2
  go_loopw [5] (fun i wr => ∃ k : Nat, k ≤ vs.length ∧ i = .int .i64 k ∧ Below w.heap.size w wr) (fun i _ => vs.length - (intOf i).toNat)
  case atStart => exact ⟨0, Nat.zero_le _, rfl, Below.refl _ _⟩
  case round =>
    obtain ⟨k, hk, rfl, hB⟩ := hrel
    by_cases hlt : k < vs.length
    · obtain ⟨kd, n, q, s, ht, c0, c1, c2, c3⟩ := (HA.out.below hb hB).at k hlt
      have hmem : vs[k] ∈ vs := List.getElem_mem hlt
      have HT := Lib.hid ht
      have HM := Lib.hid hmem
      have HB := Lib.hid hB
      clear ht hmem hB
      go_wp2_with (go_at_call 9; refine (rValid_b true _ _ _ _ _ (by have := HP.out _ HM.out; rwa [HT.out] at this) (by have := HV.out _ HM.out; rwa [HT.out] at this)).mono ?_; rintro e w2 ⟨rfl, hb2⟩)
      go_roundw
      case rel => exact ⟨k + 1, by omega, by go_num, bl_then HB.out hb2⟩
      case measure => simp [intOf]; omega
    · have HB := Lib.hid hB
      clear hB
      go_wp2
      clear hlt hk
      obtain ⟨wo, hwo⟩ : ∃ wo : World, wo = wr := ⟨_, rfl⟩
      subst hwo
      go_loopw [6] (fun i wr => ∃ k : Nat, k ≤ vs.length ∧ i = .int .i64 k ∧ Below w.heap.size w wr ∧ Hid (∀ (j : Nat) (h : j < vs.length), j < k → (vs[j]).alike k0 0 = true)) (fun i _ => vs.length - (intOf i).toNat)
      case atStart => exact ⟨0, Nat.zero_le _, rfl, HB.out, fun j h hj => absurd hj (Nat.not_lt_zero _)⟩
      case round =>
        obtain ⟨k, hk, rfl, hB, HF⟩ := hrel
        clear HB
        have hlt : k < vs.length := vls_fails HN.out k HF.out
        obtain ⟨kd, n, q, s, ht, c0, c1, c2, c3⟩ := (HA.out.below hb hB).at k hlt
        obtain ⟨kx, nx, qx, sx, hx, x0, _, _, _⟩ := (HA.out.below hb hB).at 0 hl0
        obtain rfl : kx = k0 := by
          have h := H0.out
          rw [List.getElem?_eq_getElem hl0, hx] at h
          exact congrArg Vl.k (Option.some.inj h)
        clear hx
        rw [Nat.zero_mul, Nat.add_zero] at x0
        have hmem : vs[k] ∈ vs := List.getElem_mem hlt
        have i1 : (k : Int) < vs.length := by omega
        have i0 : (0 : Int) < vs.length := by omega
        by_cases hy : (Vl.mk kd n q s).alike kx 0 = true
        · have HY := Lib.hid hy
          have HY2 : Hid ((vs[k]).alike kx 0 = true) := by show _ = _; rw [ht]; exact hy
          clear hy hmem ht
          have e1 : (kd != kx) = false := by have h := HY.out; simp only [Vl.alike, Bool.and_eq_true, beq_iff_eq] at h; simpa using h.1
          have HB := Lib.hid hB
          clear hB
          go_wp2
          go_quiet (fail)
          go_wp2
          go_roundw
          case rel => exact ⟨k + 1, by omega, by go_num, bl_dN HB.out _, vls_step HF.out hlt HY2.out⟩
          case measure => simp [intOf]; omega
        · have HY := Lib.hid hy
          clear hy hmem ht
          have e1 : (kd != kx) = true := by have h := HY.out; simpa [Vl.alike] using h
          have HB := Lib.hid hB
          clear hB
          go_wp2
          go_quiet (fail)
          go_wp2
          go_ret
          exact ⟨rfl, bl_dN HB.out _⟩

set_option maxRecDepth 100000 in
set_option maxHeartbeats 2000000 in
theorem strs_kok (kind : Int) (v0 : Vl) (vs : List Vl) (b o cap : Nat) (w : World) (hA : VlsAt w b o vs) (hlen : vs.length ≤ 4000000000) (hb : b < w.heap.size) (hpic : ∀ v ∈ vs, v.s.size ≤ maxLen) (hv : ∀ v ∈ vs, v.ok = true) (h0 : vs[0]? = some v0) (hkind : kind ≠ 0) (hn : (∀ v ∈ vs, v.alike v0.k kind = true)) :
    Calls Tryd.prog 30 #[.slice (some ⟨b, o, none⟩) vs.length cap, .int .i64 kind] w fun e w' => e = .returned (.int .i64 0) ∧ Below w.heap.size w w' := by
  have ek : (kind != 0) = true := by simpa using hkind
  clear hkind
  obtain ⟨k0, n0, q0, s0⟩ := v0
  have hl0 : 0 < vs.length := (List.getElem?_eq_some_iff.1 h0).1
  have HA := Lib.hid hA
  have HV := Lib.hid hv
  have HN := Lib.hid hn
  have HP := Lib.hid hpic
  have H0 := Lib.hid h0
  clear hA hv hn hpic h0
  go_enter Tryd.func30, Tryd.ntmps30
  go_wp2
  go_loopw [5] (fun i wr => ∃ k : Nat, k ≤ vs.length ∧ i = .int .i64 k ∧ Below w.heap.size w wr) (fun i _ => vs.length - (intOf i).toNat)
  case atStart => exact ⟨0, Nat.zero_le _, rfl, Below.refl _ _⟩
  case round =>
    obtain ⟨k, hk, rfl, hB⟩ := hrel
    by_cases hlt : k < vs.length
    · obtain ⟨kd, n, q, s, ht, c0, c1, c2, c3⟩ := (HA.out.below hb hB).at k hlt
      have hmem : vs[k] ∈ vs := List.getElem_mem hlt
      have HT := Lib.hid ht
      have HM := Lib.hid hmem
      have HB := Lib.hid hB
      clear ht hmem hB
      go_wp2_with (go_at_call 9; refine (rValid_b true _ _ _ _ _ (by have := HP.out _ HM.out; rwa [HT.out] at this) (by have := HV.out _ HM.out; rwa [HT.out] at this)).mono ?_; rintro e w2 ⟨rfl, hb2⟩)
      go_roundw
      case rel => exact ⟨k + 1, by omega, by go_num, bl_then HB.out hb2⟩
      case measure => simp [intOf]; omega
    · have HB := Lib.hid hB
      clear hB
      go_wp2
      clear hlt hk
      obtain ⟨wo, hwo⟩ : ∃ wo : World, wo = wr := ⟨_, rfl⟩
      subst hwo
      go_loopw [6] (fun i wr => ∃ k : Nat, k ≤ vs.length ∧ i = .int .i64 k ∧ Below w.heap.size w wr) (fun i _ => vs.length - (intOf i).toNat)
      case atStart => exact ⟨0, Nat.zero_le _, rfl, HB.out⟩
      case round =>
        obtain ⟨k, hk, rfl, hB⟩ := hrel
        clear HB
        by_cases hlt : k < vs.length
        · obtain ⟨kd, n, q, s, ht, c0, c1, c2, c3⟩ := (HA.out.below hb hB).at k hlt
          obtain ⟨kx, nx, qx, sx, hx, x0, _, _, _⟩ := (HA.out.below hb hB).at 0 hl0
          obtain rfl : kx = k0 := by
            have h := H0.out
            rw [List.getElem?_eq_getElem hl0, hx] at h
            exact congrArg Vl.k (Option.some.inj h)
          clear hx
          rw [Nat.zero_mul, Nat.add_zero] at x0
          have hmem : vs[k] ∈ vs := List.getElem_mem hlt
          have i1 : (k : Int) < vs.length := by omega
          have i0 : (0 : Int) < vs.length := by omega
          have HY : Hid ((Vl.mk kd n q s).alike kx kind = true) := by show _ = _; have := HN.out _ hmem; rwa [ht] at this
          clear hmem ht
          have e1 : (kd != kx) = false := by have h := HY.out; simp only [Vl.alike, Bool.and_eq_true, beq_iff_eq] at h; simpa using h.1
          have e2 : (kd != kind) = false := by have h := HY.out; simp only [Vl.alike, Bool.and_eq_true, Bool.or_eq_true, beq_iff_eq] at h; have e := ek; simp only [bne_iff_ne] at e; simpa [e] using h.2
          have HB := Lib.hid hB
          clear hB
          go_wp2
          go_quiet (fail)
          go_wp2
          go_roundw
          case rel => exact ⟨k + 1, by omega, by go_num, bl_dN HB.out _⟩
          case measure => simp [intOf]; omega
        · have HB := Lib.hid hB
          clear hB
          go_wp2
          go_ret
          exact ⟨rfl, HB.out⟩

set_option maxRecDepth 100000 in
set_option maxHeartbeats 2000000 in
theorem strs_k10 (kind : Int) (v0 : Vl) (vs : List Vl) (b o cap : Nat) (w : World) (hA : VlsAt w b o vs) (hlen : vs.length ≤ 4000000000) (hb : b < w.heap.size) (hpic : ∀ v ∈ vs, v.s.size ≤ maxLen) (hv : ∀ v ∈ vs, v.ok = true) (h0 : vs[0]? = some v0) (hkind : kind ≠ 0) (hn : (¬ ∀ v ∈ vs, v.alike v0.k kind = true)) :
    Calls Tryd.prog 30 #[.slice (some ⟨b, o, none⟩) vs.length cap, .int .i64 kind] w fun e w' => e = .returned (.int .i64 10) ∧ Below w.heap.size w w' := by
  have ek : (kind != 0) = true := by simpa using hkind
  clear hkind
  obtain ⟨k0, n0, q0, s0⟩ := v0
  have hl0 : 0 < vs.length := (List.getElem?_eq_some_iff.1 h0).1
  have HA := Lib.hid hA
  have HV := Lib.hid hv
  have HN := Lib.hid hn
  have HP := Lib.hid hpic
  have H0 := Lib.hid h0
  clear hA hv hn hpic h0
  go_enter Tryd.func30, Tryd.ntmps30
  go_wp2
  go_loopw [5] (fun i wr => ∃ k : Nat, k ≤ vs.length ∧ i = .int .i64 k ∧ Below w.heap.size w wr) (fun i _ => vs.length - (intOf i).toNat)
  case atStart => exact ⟨0, Nat.zero_le _, rfl, Below.refl _ _⟩
  case round =>
    obtain ⟨k, hk, rfl, hB⟩ := hrel
    by_cases hlt : k < vs.length
    · obtain ⟨kd, n, q, s, ht, c0, c1, c2, c3⟩ := (HA.out.below hb hB).at k hlt
      have hmem : vs[k] ∈ vs := List.getElem_mem hlt
      have HT := Lib.hid ht
      have HM := Lib.hid hmem
      have HB := Lib.hid hB
      clear ht hmem hB
      go_wp2_with (go_at_call 9; refine (rValid_b true _ _ _ _ _ (by have := HP.out _ HM.out; rwa [HT.out] at this) (by have := HV.out _ HM.out; rwa [HT.out] at this)).mono ?_; rintro e w2 ⟨rfl, hb2⟩)
      go_roundw
      case rel => exact ⟨k + 1, by omega, by go_num, bl_then HB.out hb2⟩
      case measure => simp [intOf]; omega
    · have HB := Lib.hid hB
      clear hB
      go_wp2
      clear hlt hk
      obtain ⟨wo, hwo⟩ : ∃ wo : World, wo = wr := ⟨_, rfl⟩
      subst hwo
      go_loopw [6] (fun i wr => ∃ k : Nat, k ≤ vs.length ∧ i = .int .i64 k ∧ Below w.heap.size w wr ∧ Hid (∀ (j : Nat) (h : j < vs.length), j < k → (vs[j]).alike k0 kind = true)) (fun i _ => vs.length - (intOf i).toNat)
      case atStart => exact ⟨0, Nat.zero_le _, rfl, HB.out, fun j h hj => absurd hj (Nat.not_lt_zero _)⟩
      case round =>
        obtain ⟨k, hk, rfl, hB, HF⟩ := hrel
        clear HB
        have hlt : k < vs.length := vls_fails HN.out k HF.out
        obtain ⟨kd, n, q, s, ht, c0, c1, c2, c3⟩ := (HA.out.below hb hB).at k hlt
        obtain ⟨kx, nx, qx, sx, hx, x0, _, _, _⟩ := (HA.out.below hb hB).at 0 hl0
        obtain rfl : kx = k0 := by
          have h := H0.out
          rw [List.getElem?_eq_getElem hl0, hx] at h
          exact congrArg Vl.k (Option.some.inj h)
        clear hx
        rw [Nat.zero_mul, Nat.add_zero] at x0
        have hmem : vs[k] ∈ vs := List.getElem_mem hlt
        have i1 : (k : Int) < vs.length := by omega
        have i0 : (0 : Int) < vs.length := by omega
        by_cases hy : (Vl.mk kd n q s).alike kx kind = true
        · have HY := Lib.hid hy
          have HY2 : Hid ((vs[k]).alike kx kind = true) := by show _ = _; rw [ht]; exact hy
          clear hy hmem ht
          have e1 : (kd != kx) = false := by have h := HY.out; simp only [Vl.alike, Bool.and_eq_true, beq_iff_eq] at h; simpa using h.1
          have e2 : (kd != kind) = false := by have h := HY.out; simp only [Vl.alike, Bool.and_eq_true, Bool.or_eq_true, beq_iff_eq] at h; have e := ek; simp only [bne_iff_ne] at e; simpa [e] using h.2
          have HB := Lib.hid hB
          clear hB
          go_wp2
          go_quiet (fail)
          go_wp2
          go_roundw
          case rel => exact ⟨k + 1, by omega, by go_num, bl_dN HB.out _, vls_step HF.out hlt HY2.out⟩
          case measure => simp [intOf]; omega
        · have HY := Lib.hid hy
          clear hy hmem ht
          by_cases hkx : kd = kx
          · have e1 : (kd != kx) = false := by simpa using hkx
            have e2 : (kd != kind) = true := by have h := HY.out; have e := ek; simp only [bne_iff_ne] at e; simpa [Vl.alike, hkx, e] using h
            clear hkx
            have HB := Lib.hid hB
            clear hB
            go_wp2
            go_quiet (fail)
            go_wp2
            go_ret
            exact ⟨rfl, bl_dN HB.out _⟩
          · have e1 : (kd != kx) = true := by simpa using hkx
            clear hkx
            have HB := Lib.hid hB
            clear hB
            go_wp2
            go_quiet (fail)
            go_wp2
            go_ret
            exact ⟨rfl, bl_dN HB.out _⟩
end Go.Proofs.YtljbkpnfjgnhnaaDoor
