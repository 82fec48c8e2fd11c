/- The document's Valid and ValidType of layer 5. -/
import Derived.Test.YtljbkpnfjgnhnaaDoorBitVls
namespace Go.Proofs.YtljbkpnfjgnhnaaDoor
open Go.RowKit

def allK (k : Int) (s : ByteArray) : Bool := s.data.toList.all (okC k)
theorem okV_n {k n q : Int} {l : List UInt8} (h : n ≠ 0) : okV k n q l = false := by simp [okV, h]
theorem okV_q {k n q : Int} {l : List UInt8} (h : q ≠ 0) : okV k n q l = false := by simp [okV, h]
theorem ok4_iff (c : UInt8) : okC 4 c = true ↔ 32 ≤ (c.toNat : Int) ∧ (c.toNat : Int) ≤ 126 := by
  simp only [okC, Bool.and_eq_true, decide_eq_true_eq]
  have e1 : (fillC 4).toNat = 32 := rfl
  have e2 : (topC 4).toNat = 126 := rfl
  rw [e1, e2]; omega
theorem ok5_iff (c : UInt8) : okC 5 c = true ↔ (c.toNat : Int) = 48 ∨ (c.toNat : Int) = 49 := by
  simp only [okC, Bool.and_eq_true, decide_eq_true_eq]
  have e1 : (fillC 5).toNat = 48 := rfl
  have e2 : (topC 5).toNat = 49 := rfl
  rw [e1, e2]; omega

set_option maxRecDepth 100000 in
set_option maxHeartbeats 1000000 in
theorem rValid_4 (s : ByteArray) (w : World) (hl : (s.size : Int) ≤ 250) :
    Calls Tryd.prog 9 #[vlV 4 0 0 s] w fun e w' => e = .returned (.bool (allK 4 s)) ∧ Below w.heap.size w w' := by
  go_enter Tryd.func9, Tryd.ntmps9
  go_wp2
  go_loop [3] (fun i => ∃ k : Nat, k ≤ s.size ∧ i = .int .i64 k ∧ Hid ((s.data.toList.take k).all (okC 4) = true)) (fun i => s.size - (intOf i).toNat)
  case atStart => exact ⟨0, Nat.zero_le _, rfl, rfl⟩
  case round =>
    obtain ⟨k, hk, rfl, HT⟩ := hrel
    by_cases hlt : k < s.size
    · have hsn := take_snoc s k hlt
      have HS := Lib.hid hsn
      clear hsn
      cases hc : okC 4 s[k] with
      | true =>
        have HC := Lib.hid hc
        obtain ⟨h1, h2⟩ := (ok4_iff _).1 hc
        clear hc
        go_wp2
        go_round
        case rel => exact ⟨k + 1, by omega, by go_num, all_snoc HS.out HT.out HC.out⟩
        case measure => simp [intOf]; omega
      | false =>
        have hfin : allK 4 s = false := by
          rw [allK, List.all_eq_false]
          exact ⟨s[k], get_mem s k hlt, by rw [hc]; decide⟩
        have HF := Lib.hid hfin
        have hn : ¬ (32 ≤ (s[k].toNat : Int) ∧ (s[k].toNat : Int) ≤ 126) := fun e => by rw [(ok4_iff _).2 e] at hc; cases hc
        clear hfin hc
        by_cases h1 : (s[k].toNat : Int) < 32
        · clear hn
          go_wp2
          go_ret
          exact ⟨ret_bool HF.out.symm, by go_grown⟩
        · have h2 : 126 < (s[k].toNat : Int) := by omega
          have h3 : 32 ≤ (s[k].toNat : Int) := by omega
          have d1 : decide ((s[k].toNat : Int) < 32) = false := by simp only [decide_eq_false_iff_not]; omega
          have d2 : decide (126 < (s[k].toNat : Int)) = true := by simp only [decide_eq_true_eq]; omega
          clear hn h1
          go_wp2
          go_ret
          exact ⟨ret_bool HF.out.symm, by go_grown⟩
    · have hfin : s.data.toList.take k = s.data.toList := List.take_of_length_le (by rw [lsz]; omega)
      have HF := Lib.hid hfin
      clear hfin
      go_wp2
      go_ret
      exact ⟨ret_bool (by rw [allK, ← HF.out, HT.out]), by go_grown⟩
set_option maxRecDepth 100000 in
set_option maxHeartbeats 1000000 in
theorem rValid_5 (s : ByteArray) (w : World) (hl : (s.size : Int) ≤ 250) :
    Calls Tryd.prog 9 #[vlV 5 0 0 s] w fun e w' => e = .returned (.bool (allK 5 s)) ∧ Below w.heap.size w w' := by
  have d0 : decide (250 < (s.size : Int)) = false := by simp only [decide_eq_false_iff_not]; omega
  go_enter Tryd.func9, Tryd.ntmps9
  go_wp2
  go_loop [3] (fun i => ∃ k : Nat, k ≤ s.size ∧ i = .int .i64 k ∧ Hid ((s.data.toList.take k).all (okC 5) = true)) (fun i => s.size - (intOf i).toNat)
  case atStart => exact ⟨0, Nat.zero_le _, rfl, rfl⟩
  case round =>
    obtain ⟨k, hk, rfl, HT⟩ := hrel
    by_cases hlt : k < s.size
    · have hsn := take_snoc s k hlt
      have HS := Lib.hid hsn
      clear hsn
      cases hc : okC 5 s[k] with
      | true =>
        have HC := Lib.hid hc
        have hv := (ok5_iff _).1 hc
        clear hc
        rcases hv with h | h
        · have e1 : ((s[k].toNat : Int) != 48) = false := by rw [h]; rfl
          have h1 : 32 ≤ (s[k].toNat : Int) := by omega
          have h2 : (s[k].toNat : Int) ≤ 126 := by omega
          clear h
          go_wp2
          go_round
          case rel => exact ⟨k + 1, by omega, by go_num, all_snoc HS.out HT.out HC.out⟩
          case measure => simp [intOf]; omega
        · have e1 : ((s[k].toNat : Int) != 48) = true := by rw [h]; rfl
          have e2 : ((s[k].toNat : Int) != 49) = false := by rw [h]; rfl
          have h1 : 32 ≤ (s[k].toNat : Int) := by omega
          have h2 : (s[k].toNat : Int) ≤ 126 := by omega
          clear h
          go_wp2
          go_round
          case rel => exact ⟨k + 1, by omega, by go_num, all_snoc HS.out HT.out HC.out⟩
          case measure => simp [intOf]; omega
      | false =>
        have hfin : allK 5 s = false := by
          rw [allK, List.all_eq_false]
          exact ⟨s[k], get_mem s k hlt, by rw [hc]; decide⟩
        have HF := Lib.hid hfin
        have hn : ¬ ((s[k].toNat : Int) = 48 ∨ (s[k].toNat : Int) = 49) := fun e => by rw [(ok5_iff _).2 e] at hc; cases hc
        have e1 : ((s[k].toNat : Int) != 48) = true := by simp only [bne_iff_ne]; omega
        have e2 : ((s[k].toNat : Int) != 49) = true := by simp only [bne_iff_ne]; omega
        clear hfin hc hn
        go_wp2
        go_ret
        exact ⟨ret_bool HF.out.symm, by go_grown⟩
    · have hfin : s.data.toList.take k = s.data.toList := List.take_of_length_le (by rw [lsz]; omega)
      have HF := Lib.hid hfin
      clear hfin
      go_wp2
      go_ret
      exact ⟨ret_bool (by rw [allK, ← HF.out, HT.out]), by go_grown⟩

set_option maxRecDepth 100000 in
set_option maxHeartbeats 1000000 in
theorem rValid_any (k n q : Int) (s : ByteArray) (w : World) (hs : s.size ≤ maxLen) :
    Calls Tryd.prog 9 #[vlV k n q s] w fun e w' => e = .returned (.bool (okV k n q s.data.toList)) ∧ Below w.heap.size w w' := by
  unfold maxLen at hs
  generalize hr : okV k n q s.data.toList = r
  have HR := Lib.hid hr
  clear hr
  by_cases hn : n = 0
  · subst hn
    by_cases hq : q = 0
    · subst hq
      by_cases hl : (s.size : Int) ≤ 250
      · by_cases h4 : k = 4
        · subst h4
          refine (rValid_4 s w hl).mono fun e w' ⟨he, hb⟩ => ⟨he.trans (ret_bool ?_), hb⟩
          rw [← HR.out]
          cases ha : allK 4 s with
          | true => exact (by rw [okV_rest (.inl rfl) hl ha]; rfl)
          | false => exact (okV_not ha).symm
        · by_cases h5 : k = 5
          · subst h5
            refine (rValid_5 s w hl).mono fun e w' ⟨he, hb⟩ => ⟨he.trans (ret_bool ?_), hb⟩
            rw [← HR.out]
            cases ha : allK 5 s with
            | true => exact (by rw [okV_rest (.inr rfl) hl ha]; rfl)
            | false => exact (okV_not ha).symm
          · have hf : r = false := HR.out.symm.trans (okV_kind fun e => by omega)
            subst hf
            have e1 : (k != 4) = true := by simpa using h4
            have e2 : (k != 5) = true := by simpa using h5
            clear h4 h5 HR
            go_enter Tryd.func9, Tryd.ntmps9
            go_wp2
            go_ret
            exact ⟨rfl, by go_grown⟩
      · have hl' : 250 < (s.size : Int) := by omega
        have hf : r = false := HR.out.symm.trans (okV_long hl')
        subst hf
        clear hl HR
        go_enter Tryd.func9, Tryd.ntmps9
        go_wp2
        go_ret
        exact ⟨rfl, by go_grown⟩
    · have hf : r = false := HR.out.symm.trans (okV_q hq)
      subst hf
      have e1 : (q != 0) = true := by simpa using hq
      clear hq HR
      go_enter Tryd.func9, Tryd.ntmps9
      go_wp2
      go_ret
      exact ⟨rfl, by go_grown⟩
  · have hf : r = false := HR.out.symm.trans (okV_n hn)
    subst hf
    have e1 : (n != 0) = true := by simpa using hn
    clear hn HR
    go_enter Tryd.func9, Tryd.ntmps9
    go_wp2
    go_ret
    exact ⟨rfl, by go_grown⟩
end Go.Proofs.YtljbkpnfjgnhnaaDoor
