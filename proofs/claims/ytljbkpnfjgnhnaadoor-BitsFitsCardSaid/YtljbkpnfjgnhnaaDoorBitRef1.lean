/- The document's demands of layer 5: strings, plain; light of the law; made, Filler, text. -/
import Derived.Test.YtljbkpnfjgnhnaaDoorBitRef0
import Derived.Test.YtljbkpnfjgnhnaaDoorBitLow
namespace Go.Proofs.YtljbkpnfjgnhnaaDoor
open Go.RowKit

theorem rValid_b (b : Bool) (k n q : Int) (s : ByteArray) (w : World) (hs : s.size ≤ maxLen) (h : okV k n q s.data.toList = b) :
    Calls Tryd.prog 9 #[vlV k n q s] w fun e w' => e = .returned (.bool b) ∧ Below w.heap.size w w' := by
  subst h; exact rValid_any k n q s w hs
set_option maxHeartbeats 400000 in
theorem made_any (k : Int) (s : ByteArray) (w : World) :
    Calls Tryd.prog 31 #[.int .i64 k, .string s] w fun e w' => e = .returned (vlV k 0 0 s) ∧ Below w.heap.size w w' := by
  go_enter Tryd.func31, Tryd.ntmps31
  go_wp2
  exact bodyPost_ret (v := vlV k 0 0 s) (by simp [results, Tryd.results31, go_sem]) rfl ⟨rfl, by go_grown⟩
set_option maxHeartbeats 400000 in
theorem text_any (s : ByteArray) (w : World) :
    Calls Tryd.prog 17 #[.string s] w fun e w' => e = .returned (vlV 4 0 0 s) ∧ Below w.heap.size w w' := by
  go_enter Tryd.func17, Tryd.ntmps17
  go_wp2
  exact bodyPost_ret (v := vlV 4 0 0 s) (by simp [results, Tryd.results17, go_sem]) rfl ⟨rfl, by go_grown⟩
set_option maxHeartbeats 400000 in
theorem filler_any (k : Int) (w : World) :
    Calls Tryd.prog 43 #[.int .i64 k] w fun e w' => e = .returned (.string (bsz [fillC k])) ∧ w = w' := by
  by_cases h : k = 5
  · subst h
    go_enter Tryd.func43, Tryd.ntmps43
    go_wp2
    go_ret
    exact ⟨rfl, rfl⟩
  · have e : fillC k = 32 := if_neg h
    rw [e]
    have e2 : (k == 5) = false := by simpa using h
    clear h e
    go_enter Tryd.func43, Tryd.ntmps43
    go_wp2
    go_ret
    exact ⟨rfl, rfl⟩

/- light -/
def Vl.light (t : Vl) : Bool := decide ((t.s.size : Int) ≤ 600)
set_option maxHeartbeats 1000000 in
theorem bLight_yes (vs : List Vl) (b o cap : Nat) (w : World) (hA : VlsAt w b o vs) (hlen : vs.length ≤ 4000000000) (_hb : b < w.heap.size) (hpic : ∀ v ∈ vs, v.s.size ≤ maxLen) (hv : ∀ v ∈ vs, v.light = true) :
    Calls Tryd.prog 4 #[.slice (some ⟨b, o, none⟩) vs.length cap] w fun e w' => e = .returned (.bool true) ∧ w = w' := by
  have HA := Lib.hid hA
  have HV := Lib.hid hv
  have HP := Lib.hid hpic
  clear hA hv hpic
  go_enter Tryd.func4, Tryd.ntmps4
  go_wp2
  go_loop [3] (fun i => ∃ k : Nat, k ≤ vs.length ∧ i = .int .i64 k) (fun i => vs.length - (intOf i).toNat)
  case atStart => exact ⟨0, Nat.zero_le _, rfl⟩
  case round =>
    obtain ⟨k, hk, rfl⟩ := hrel
    by_cases hlt : k < vs.length
    · obtain ⟨kd, n, q, s, ht, c0, c1, c2, c3⟩ := HA.out.at k hlt
      have hmem : vs[k] ∈ vs := List.getElem_mem hlt
      have HT := Lib.hid ht
      have HM := Lib.hid hmem
      clear ht hmem
      have hs : s.size ≤ 9223372036854775807 := by have := HP.out _ HM.out; rw [HT.out] at this; unfold maxLen at this; exact this
      have hl : (s.size : Int) ≤ 600 := by have := HV.out _ HM.out; rw [HT.out] at this; simpa [Vl.light] using this
      go_wp2
      go_round
      case rel => exact ⟨k + 1, by omega, by go_num⟩
      case measure => simp [intOf]; omega
    · go_wp2
      go_ret
      exact ⟨rfl, rfl⟩

set_option maxHeartbeats 1000000 in
theorem bLight_no (vs : List Vl) (b o cap : Nat) (w : World) (hA : VlsAt w b o vs) (hlen : vs.length ≤ 4000000000) (_hb : b < w.heap.size) (hpic : ∀ v ∈ vs, v.s.size ≤ maxLen) (hv : ¬ ∀ v ∈ vs, v.light = true) :
    Calls Tryd.prog 4 #[.slice (some ⟨b, o, none⟩) vs.length cap] w fun e w' => e = .returned (.bool false) ∧ w = w' := by
  have HA := Lib.hid hA
  have HV := Lib.hid hv
  have HP := Lib.hid hpic
  clear hA hv hpic
  go_enter Tryd.func4, Tryd.ntmps4
  go_wp2
  go_loop [3] (fun i => ∃ k : Nat, k ≤ vs.length ∧ i = .int .i64 k ∧ Hid (∀ (j : Nat) (h : j < vs.length), j < k → (vs[j]).light = true)) (fun i => vs.length - (intOf i).toNat)
  case atStart => exact ⟨0, Nat.zero_le _, rfl, fun j h hj => absurd hj (Nat.not_lt_zero _)⟩
  case round =>
    obtain ⟨k, hk, rfl, HF⟩ := hrel
    have hlt : k < vs.length := vls_fails HV.out k HF.out
    obtain ⟨kd, n, q, s, ht, c0, c1, c2, c3⟩ := HA.out.at k hlt
    have hmem : vs[k] ∈ vs := List.getElem_mem hlt
    have HT := Lib.hid ht
    have HM := Lib.hid hmem
    clear ht hmem
    have hs : s.size ≤ 9223372036854775807 := by have := HP.out _ HM.out; rw [HT.out] at this; unfold maxLen at this; exact this
    by_cases hok : (vs[k]).light = true
    · have HO := Lib.hid hok
      clear hok
      have hl : (s.size : Int) ≤ 600 := by have := HO.out; rw [HT.out] at this; simpa [Vl.light] using this
      go_wp2
      go_round
      case rel => exact ⟨k + 1, by omega, by go_num, vls_step HF.out hlt HO.out⟩
      case measure => simp [intOf]; omega
    · have HO := Lib.hid hok
      clear hok
      have hl : 600 < (s.size : Int) := by have := HO.out; rw [HT.out] at this; simpa [Vl.light] using this
      go_wp2
      go_ret
      exact ⟨rfl, rfl⟩

end Go.Proofs.YtljbkpnfjgnhnaaDoor
