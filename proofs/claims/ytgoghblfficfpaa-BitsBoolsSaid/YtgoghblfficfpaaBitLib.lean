/- What package bits calls of the library: strings.IndexByte, HasPrefix, Contains of one byte; cmp.Compare of bytes. -/
import Derived.Test.YtgoghblfficfpaaBitLow
import Derived.Lib.Bytealg
import Derived.BigCall
namespace Go.Proofs.Ytgoghblfficfpaa
open Go.RowKit

theorem idx_eq (l : List UInt8) (c : UInt8) : Lib.indexByte l c = if l.contains c then (l.idxOf c : Int) else -1 := by
  induction l with
  | nil => rfl
  | cons b l ih =>
    unfold Lib.indexByte
    rw [ih, List.idxOf_cons]
    by_cases h : b = c
    · subst h; simp
    · have h3 : ¬ c = b := fun e => h e.symm
      by_cases hc : c ∈ l
      · have : ((l.idxOf c : Int) == -1) = false := by rw [beq_eq_false_iff_ne]; omega
        have hb : (b == c) = false := by simpa using h
        simp [hc, this, hb]
      · simp [hc, h, h3]
theorem idx_in {l : List UInt8} {c : UInt8} (h : l.contains c = true) : Lib.indexByte l c = (l.idxOf c : Int) := by rw [idx_eq, if_pos h]
theorem idx_out {l : List UInt8} {c : UInt8} (h : l.contains c = false) : Lib.indexByte l c = -1 := by rw [idx_eq, h]; rfl

theorem u8_back (c : UInt8) : (c.toNat : Int).toNat.toUInt8 = c := by
  rw [Int.toNat_natCast]; exact UInt8.ofNat_toNat

set_option maxHeartbeats 1000000 in
set_option maxRecDepth 100000 in
theorem idxByte0 (s : ByteArray) (c : UInt8) (w : World) :
    Calls Try.prog 158 #[.string s, .int .u8 c.toNat] w fun e w' => e = .returned (.int .i64 (Lib.indexByte s.data.toList c)) ∧ w = w' := by
  go_enter Try.func158, Try.ntmps158
  go_wp2
  rw [run_callFunc_extern Try.func162 (by kernel_rfl) (by kernel_rfl) (by kernel_rfl) (e := Extern.BytealgIndexByte.indexByte) (by kernel_rfl), Lib.run_indexByteString, u8_back]
  simp only [Result.andThen]
  rw [Oper.upon_value]
  go_wp2
  go_ret
  exact ⟨rfl, rfl⟩
set_option maxHeartbeats 400000 in
theorem idxByte (s : ByteArray) (c : UInt8) (w : World) :
    Calls Try.prog 152 #[.string s, .int .u8 c.toNat] w fun e w' => e = .returned (.int .i64 (Lib.indexByte s.data.toList c)) ∧ w = w' := by
  go_enter Try.func152, Try.ntmps152
  go_wp2_with (go_at_call 158; refine (idxByte0 _ _ _).mono ?_; rintro e w' ⟨rfl, rfl⟩)
  go_ret
  exact ⟨rfl, rfl⟩

/- Contains of one byte -/
theorem has_eq (l : List UInt8) (c : UInt8) : decide (0 ≤ Lib.indexByte l c) = l.contains c := by
  rw [idx_eq]; cases h : l.contains c
  · rfl
  · simp
set_option maxHeartbeats 1000000 in
set_option maxRecDepth 100000 in
theorem index1 (s : ByteArray) (c : UInt8) (w : World) (_hs : s.size ≤ 100000) :
    Calls Try.prog 156 #[.string s, .string (bsz [c])] w fun e w' => e = .returned (.int .i64 (Lib.indexByte s.data.toList c)) ∧ w = w' := by
  have hz : (bsz [c]).size = 1 := rfl
  have hg : (bsz [c])[0]'(by rw [hz]; omega) = c := rfl
  cases he : ([c] == s.toList) with
  | true =>
    have h1 : s.data.toList = [c] := by rw [← ByteArray.toList_eq]; exact (beq_iff_eq.1 he).symm
    have h2 : Lib.indexByte s.data.toList c = 0 := by rw [h1]; simp [Lib.indexByte]
    rw [h2]
    clear h1 h2
    go_enter Try.func156, Try.ntmps156
    go_wp2
    go_ret
    exact ⟨rfl, rfl⟩
  | false =>
    go_enter Try.func156, Try.ntmps156
    go_wp2_with (go_at_call 158; refine (idxByte0 _ _ _).mono ?_; rintro e w' ⟨rfl, rfl⟩)
    go_ret
    exact ⟨rfl, rfl⟩
set_option maxHeartbeats 400000 in
theorem contains1 (s : ByteArray) (c : UInt8) (w : World) (hs : s.size ≤ 100000) :
    Calls Try.prog 114 #[.string s, .string (bsz [c])] w fun e w' => e = .returned (.bool (s.data.toList.contains c)) ∧ w = w' := by
  have HE := Lib.hid (has_eq s.data.toList c)
  have hi : Calls Try.prog 147 #[.string s, .string (bsz [c])] w fun e w' => e = .returned (.int .i64 (Lib.indexByte s.data.toList c)) ∧ w = w' := by
    go_enter Try.func147, Try.ntmps147
    go_wp2_with (go_at_call 156; refine (index1 _ _ _ hs).mono ?_; rintro e w' ⟨rfl, rfl⟩)
    go_ret
    exact ⟨rfl, rfl⟩
  have HI := Lib.hid hi
  clear hi
  go_enter Try.func114, Try.ntmps114
  go_wp2_with (go_at_call 147; refine HI.out.mono ?_; rintro e w' ⟨rfl, rfl⟩)
  go_ret
  exact ⟨ret_bool HE.out, rfl⟩

/- HasPrefix -/
theorem pre_take (s p : List UInt8) (h : p.length ≤ s.length) : Lib.hasPrefix s p = (s.take p.length == p) := by
  rw [← Lib.hasPrefix_of_take]; simp [h]
theorem pre_short (s p : List UInt8) (h : s.length < p.length) : Lib.hasPrefix s p = false := by
  rw [← Lib.hasPrefix_of_take]; simp; omega
set_option maxHeartbeats 1000000 in
theorem hasPre0 (s p : ByteArray) (w : World) (_hs : s.size ≤ 100000) (_hp : p.size ≤ 100000) :
    Calls Try.prog 151 #[.string s, .string p] w fun e w' => e = .returned (.bool (Lib.hasPrefix s.data.toList p.data.toList)) ∧ w = w' := by
  generalize hr : Lib.hasPrefix s.data.toList p.data.toList = r
  have HR := Lib.hid hr
  clear hr
  by_cases hl : s.size < p.size
  · have e : r = false := HR.out.symm.trans (pre_short _ _ (by rw [lsz, lsz]; exact hl))
    subst e
    have d : decide (p.size ≤ s.size) = false := by simp only [decide_eq_false_iff_not]; omega
    clear hl HR
    go_enter Try.func151, Try.ntmps151
    go_wp2
    go_ret
    exact ⟨rfl, rfl⟩
  · have hl2 : p.size ≤ s.size := by omega
    have d : decide (p.size ≤ s.size) = true := by simp only [decide_eq_true_eq]; omega
    have hne : ((s.extract 0 p.size).toList == p.toList) = r := by
      rw [← HR.out, pre_take _ _ (by rw [lsz, lsz]; omega), lsz, Lib.extract_toList, ByteArray.toList_eq, List.drop_zero, Nat.sub_zero]
    have HN := Lib.hid hne
    clear hl HR hne
    go_enter Try.func151, Try.ntmps151
    go_wp2
    go_ret
    exact ⟨ret_bool HN.out, rfl⟩
set_option maxHeartbeats 400000 in
theorem hasPre (s p : ByteArray) (w : World) (hs : s.size ≤ 100000) (hp : p.size ≤ 100000) :
    Calls Try.prog 129 #[.string s, .string p] w fun e w' => e = .returned (.bool (Lib.hasPrefix s.data.toList p.data.toList)) ∧ w = w' := by
  go_enter Try.func129, Try.ntmps129
  go_wp2_with (go_at_call 151; refine (hasPre0 _ _ _ hs hp).mono ?_; rintro e w' ⟨rfl, rfl⟩)
  go_ret
  exact ⟨rfl, rfl⟩

/- cmp.Compare of bytes -/
set_option maxHeartbeats 400000 in
theorem isNaN_b (c : UInt8) (w : World) :
    Calls Try.prog 157 #[.int .u8 c.toNat] w fun e w' => e = .returned (.bool false) ∧ w = w' := by
  go_enter Try.func157, Try.ntmps157
  go_wp2
  go_ret
  exact ⟨ret_bool (by simp), rfl⟩
set_option maxHeartbeats 1000000 in
theorem cmp_b (x y : UInt8) (w : World) :
    Calls Try.prog 148 #[.int .u8 x.toNat, .int .u8 y.toNat] w fun e w' => e = .returned (.int .i64 (cmpB x y)) ∧ w = w' := by
  by_cases h1 : x.toNat < y.toNat
  · have e : cmpB x y = -1 := if_pos h1
    rw [e]
    have d : decide (x.toNat < y.toNat) = true := decide_eq_true h1
    clear h1 e
    go_enter Try.func148, Try.ntmps148
    go_wp2_with (go_at_call 157; refine (isNaN_b _ _).mono ?_; rintro e w' ⟨rfl, rfl⟩)
    go_ret
    exact ⟨rfl, rfl⟩
  · by_cases h2 : y.toNat < x.toNat
    · have e : cmpB x y = 1 := by unfold cmpB; rw [if_neg h1, if_pos h2]
      rw [e]
      have d : decide (x.toNat < y.toNat) = false := decide_eq_false h1
      have d2 : decide (y.toNat < x.toNat) = true := decide_eq_true h2
      clear h1 h2 e
      go_enter Try.func148, Try.ntmps148
      go_wp2_with (go_at_call 157; refine (isNaN_b _ _).mono ?_; rintro e w' ⟨rfl, rfl⟩)
      go_ret
      exact ⟨rfl, rfl⟩
    · have e : cmpB x y = 0 := by unfold cmpB; rw [if_neg h1, if_neg h2]
      rw [e]
      have d : decide (x.toNat < y.toNat) = false := decide_eq_false h1
      have d2 : decide (y.toNat < x.toNat) = false := decide_eq_false h2
      clear h1 h2 e
      go_enter Try.func148, Try.ntmps148
      go_wp2_with (go_at_call 157; refine (isNaN_b _ _).mono ?_; rintro e w' ⟨rfl, rfl⟩)
      go_ret
      exact ⟨rfl, rfl⟩
end Go.Proofs.Ytgoghblfficfpaa
