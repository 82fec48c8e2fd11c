/- The law RuleRoom, of any values and types. -/
import Derived.Test.YtbjnglfapgpncaaGreatDoorRoom1
import Derived.Test.YtbjnglfapgpncaaGreatDoorRoom2
namespace Go.Proofs.YtbjnglfapgpncaaGreatDoor
open Go.RowKit

theorem four {w w1 : World} {A B C D : Obj} (hb : Below ((((w.alloc A).alloc B).alloc C).alloc D).heap.size ((((w.alloc A).alloc B).alloc C).alloc D) w1) :
    w1.heap[w.heap.size]? = some A ∧ w1.heap[w.heap.size + 1]? = some B ∧ w1.heap[w.heap.size + 1 + 1]? = some C ∧ w1.heap[w.heap.size + 1 + 1 + 1]? = some D ∧ w.heap.size + 1 + 1 + 1 < w1.heap.size ∧ Below w.heap.size w w1 := by
  have hs := hb.size
  exact ⟨hx_keep (hx_old (hx_old (hx_old (hx_last w A _ rfl)))) hb, hx_keep (hx_old (hx_old (hx_last (w.alloc A) B _ (by simp)))) hb, hx_keep (hx_old (hx_last ((w.alloc A).alloc B) C _ (by simp))) hb, hx_keep (hx_last (((w.alloc A).alloc B).alloc C) D _ (by simp)) hb, by simp at hs; omega,
    (((((Below.refl _ w).alloc (Nat.le_refl _) _).alloc (by simp <;> omega) _).alloc (by simp <;> omega) _).alloc (by simp <;> omega) _).trans (hb.mono (by simp <;> omega))⟩

set_option maxRecDepth 100000 in
set_option maxHeartbeats 8000000 in
/-- Where the law asks for nothing. -/
theorem room_else (ka na qa : Int) (sa : ByteArray) (kb nb qb : Int) (sb : ByteArray) (ta pa ra xa : Int) (va : Bool) (ca : ByteArray) (tb pb rb xb : Int) (vb : Bool) (cb : ByteArray) (w : World)
    (hsa : sa.size ≤ maxLen) (hsb : sb.size ≤ maxLen) (hca : ca.size ≤ maxLen) (hcb : cb.size ≤ maxLen)
    (hno : ¬ (((Ty.mk ta pa ra xa va ca).ok = true ∧ HasP ta pa ra ka na qa sa) ∧ ((Ty.mk tb pb rb xb vb cb).ok = true ∧ HasP tb pb rb kb nb qb sb) ∧ ta = tb ∧ (ta = 1 ∨ ta = 2))) :
    Calls Tryz.prog 3 #[valV ka na qa sa, valV kb nb qb sb, tyV ta pa ra xa va ca, tyV tb pb rb xb vb cb] w fun e w' => e = .returned (.bool true) ∧ Below w.heap.size w w' := by
  have HSA := Lib.hid hsa; have HSB := Lib.hid hsb; have HCA := Lib.hid hca; have HCB := Lib.hid hcb
  have HNO := Lib.hid hno
  clear hsa hsb hca hcb hno
  have q1 := s2
  have q2 := s2'
  have q3 := l2
  have q4 := l3
  go_enter Tryz.func3, Tryz.ntmps3
  go_wp2_with fail
  go_at_call 4
  refine (has_any _ _ _ _ _ _ _ _ _ _ _ HSA.out HCA.out).mono ?_
  rintro e w1 ⟨r1, rfl, hP1, hb1⟩
  obtain ⟨K1, K2, K3, K4, z1, hw1⟩ := four hb1
  have HP1 := Lib.hid hP1
  obtain ⟨a0, a1, a2, a3, af⟩ := vcells' K1
  obtain ⟨e0, e1, e2, e3, ef⟩ := vcells' K2
  obtain ⟨t0, t1, t2, t3, t4, t5, tf⟩ := tcells K3
  obtain ⟨u0, u1, u2, u3, u4, u5, uf⟩ := tcells K4
  have K3 := Lib.hid K3; have K4 := Lib.hid K4
  have HW1 := Lib.hid hw1
  clear hP1 hb1 hw1 K1 K2
  cases r1
  · go_wp2_with fail
    go_at_call 5
    refine (awake_2 _).mono ?_
    rintro e wz ⟨rfl, hbz⟩
    go_wp2_with fail
    go_ret
    exact ⟨rfl, HW1.out.trans (hbz.mono HW1.out.size)⟩
  · go_wp2_with fail
    go_at_call 4
    refine (has_any _ _ _ _ _ _ _ _ _ _ _ HSB.out HCB.out).mono ?_
    rintro e w2 ⟨r2, rfl, hP2, hb2⟩
    have HW2 := Lib.hid (HW1.out.trans (hb2.mono HW1.out.size))
    have HP2 := Lib.hid hP2
    have K3' := Lib.hid (hx_keep K3.out hb2)
    have K4' := Lib.hid (hx_keep K4.out hb2)
    clear hP2 hb2 a0 a1 a2 a3 af e0 e1 e2 e3 ef t0 t1 t2 t3 t4 t5 tf u0 u1 u2 u3 u4 u5 uf K3 K4 HW1 z1
    obtain ⟨t0, t1, t2, t3, t4, t5, tf⟩ := tcells K3'.out
    obtain ⟨u0, u1, u2, u3, u4, u5, uf⟩ := tcells K4'.out
    cases r2
    · go_wp2_with fail
      go_at_call 5
      refine (awake_2 _).mono ?_
      rintro e wz ⟨rfl, hbz⟩
      go_wp2_with fail
      go_ret
      exact ⟨rfl, HW2.out.trans (hbz.mono HW2.out.size)⟩
    · by_cases hk : ta = tb
      · subst hk
        by_cases h12 : ta = 1 ∨ ta = 2
        · exact absurd ⟨HP1.out (by first | rfl | trivial), HP2.out (by first | rfl | trivial), rfl, h12⟩ HNO.out
        · have n1 : (ta != 1) = true := by rw [bne_iff_ne]; omega
          have n2 : (ta != 2) = true := by rw [bne_iff_ne]; omega
          clear h12
          go_wp2_with fail
          go_at_call 5
          refine (awake_2 _).mono ?_
          rintro e wz ⟨rfl, hbz⟩
          go_wp2_with fail
          go_ret
          exact ⟨rfl, HW2.out.trans (hbz.mono HW2.out.size)⟩
      · have n0 : (ta != tb) = true := by rw [bne_iff_ne]; exact hk
        clear hk
        go_wp2_with fail
        go_at_call 5
        refine (awake_2 _).mono ?_
        rintro e wz ⟨rfl, hbz⟩
        go_wp2_with fail
        go_ret
        exact ⟨rfl, HW2.out.trans (hbz.mono HW2.out.size)⟩

theorem room_any (ka na qa : Int) (sa : ByteArray) (kb nb qb : Int) (sb : ByteArray) (ta pa ra xa : Int) (va : Bool) (ca : ByteArray) (tb pb rb xb : Int) (vb : Bool) (cb : ByteArray) (w : World)
    (hsa : sa.size ≤ maxLen) (hsb : sb.size ≤ maxLen) (hca : ca.size ≤ maxLen) (hcb : cb.size ≤ maxLen) :
    Calls Tryz.prog 3 #[valV ka na qa sa, valV kb nb qb sb, tyV ta pa ra xa va ca, tyV tb pb rb xb vb cb] w fun e w' => e = .returned (.bool true) ∧ Below w.heap.size w w' := by
  by_cases h : ((Ty.mk ta pa ra xa va ca).ok = true ∧ HasP ta pa ra ka na qa sa) ∧ ((Ty.mk tb pb rb xb vb cb).ok = true ∧ HasP tb pb rb kb nb qb sb) ∧ ta = tb ∧ (ta = 1 ∨ ta = 2)
  · obtain ⟨⟨oa, ha⟩, ⟨ob, hb⟩, rfl, hk⟩ := h
    obtain ⟨rfl, ha1, ha2⟩ := ha
    obtain ⟨rfl, hb1, hb2⟩ := hb
    rcases hk with rfl | rfl
    · obtain ⟨x1, x2, x3, x4, rfl, rfl, rfl⟩ := ok_1_of oa
      obtain ⟨y1, y2, y3, y4, rfl, rfl, rfl⟩ := ok_1_of ob
      obtain ⟨rfl, rfl, hna⟩ := ha1 rfl
      obtain ⟨rfl, rfl, hnb⟩ := hb1 rfl
      obtain ⟨PA, rfl⟩ : ∃ n : Nat, pa = (n : Int) := ⟨pa.toNat, by omega⟩
      obtain ⟨QA, rfl⟩ : ∃ n : Nat, qa = (n : Int) := ⟨qa.toNat, by omega⟩
      obtain ⟨PB, rfl⟩ : ∃ n : Nat, pb = (n : Int) := ⟨pb.toNat, by omega⟩
      obtain ⟨QB, rfl⟩ : ∃ n : Nat, qb = (n : Int) := ⟨qb.toNat, by omega⟩
      have la : na.natAbs < 2 ^ 31 := Nat.lt_of_lt_of_le hna (Nat.pow_le_pow_right (by decide) (by simp; omega))
      have lb : nb.natAbs < 2 ^ 31 := Nat.lt_of_lt_of_le hnb (Nat.pow_le_pow_right (by decide) (by simp; omega))
      exact room_1 na nb PA QA PB QB (min 31 (max 1 (max ((PA : Int) - QA) ((PB : Int) - QB) + max (QA : Int) QB + 1))).toNat (max QA QB) (min 31 (PA + PB + 1)) (min 31 (QA + QB)) w
        ⟨by omega, by omega, by omega, by omega, by omega, by omega, oa⟩ ⟨by omega, by omega, by omega, by omega, by omega, by omega, ob⟩ (by simpa using hna) (by simpa using hnb) ⟨by omega, by omega⟩ ⟨by omega, by omega⟩
        ⟨by omega, by omega, by omega, by omega⟩
    · obtain ⟨x1, x2, x3, x4, rfl, rfl, rfl⟩ := ok_2_of oa
      obtain ⟨y1, y2, y3, y4, rfl, rfl, rfl⟩ := ok_2_of ob
      obtain ⟨rfl, rfl, hna⟩ := ha2 rfl
      obtain ⟨rfl, rfl, hnb⟩ := hb2 rfl
      obtain ⟨PA, rfl⟩ : ∃ n : Nat, pa = (n : Int) := ⟨pa.toNat, by omega⟩
      obtain ⟨QA, rfl⟩ : ∃ n : Nat, qa = (n : Int) := ⟨qa.toNat, by omega⟩
      obtain ⟨PB, rfl⟩ : ∃ n : Nat, pb = (n : Int) := ⟨pb.toNat, by omega⟩
      obtain ⟨QB, rfl⟩ : ∃ n : Nat, qb = (n : Int) := ⟨qb.toNat, by omega⟩
      have la : na.natAbs < 10 ^ 15 := Nat.lt_of_lt_of_le hna (Nat.pow_le_pow_right (by decide) (by simp; omega))
      have lb : nb.natAbs < 10 ^ 15 := Nat.lt_of_lt_of_le hnb (Nat.pow_le_pow_right (by decide) (by simp; omega))
      exact room_2 na nb PA QA PB QB (min 15 (max 1 (max ((PA : Int) - QA) ((PB : Int) - QB) + max (QA : Int) QB + 1))).toNat (max QA QB) (min 15 (PA + PB + 1)) (min 31 (QA + QB)) w
        ⟨by omega, by omega, by omega, by omega, by omega, by omega, oa⟩ ⟨by omega, by omega, by omega, by omega, by omega, by omega, ob⟩ (by simpa using hna) (by simpa using hnb) ⟨by omega, by omega⟩ ⟨by omega, by omega⟩
        ⟨by omega, by omega, by omega, by omega⟩
  · exact room_else ka na qa sa kb nb qb sb ta pa ra xa va ca tb pb rb xb vb cb w hsa hsb hca hcb h
end Go.Proofs.YtbjnglfapgpncaaGreatDoor
