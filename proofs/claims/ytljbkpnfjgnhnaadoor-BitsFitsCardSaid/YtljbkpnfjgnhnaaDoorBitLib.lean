/- What package bits calls of the library: strings.IndexByte, HasPrefix, Contains of one byte; cmp.Compare of bytes. -/
import Derived.Test.YtljbkpnfjgnhnaaDoorBitLow
import Derived.Lib.Bytealg
import Derived.BigCall
namespace Go.Proofs.YtljbkpnfjgnhnaaDoor
open Go.RowKit

theorem idx_eq (l : List UInt8) (c : UInt8) : Lib.indexByte l c = if l.contains c then (l.idxOf c : Int) else -1 := by
  induction l with
  | nil => rfl
  | cons b l ih =>
    unfold Lib.indexByte
    rw [ih, List.idxOf_cons]
    by_cases h : b = c
    · subst h; simp
    · have h3 : ¬ c = b := fun e => h e.symm
      by_cases hc : c ∈ l
      · have : ((l.idxOf c : Int) == -1) = false := by rw [beq_eq_false_iff_ne]; omega
        have hb : (b == c) = false := by simpa using h
        simp [hc, this, hb]
      · simp [hc, h, h3]
theorem idx_in {l : List UInt8} {c : UInt8} (h : l.contains c = true) : Lib.indexByte l c = (l.idxOf c : Int) := by rw [idx_eq, if_pos h]
theorem idx_out {l : List UInt8} {c : UInt8} (h : l.contains c = false) : Lib.indexByte l c = -1 := by rw [idx_eq, h]; rfl

theorem u8_back (c : UInt8) : (c.toNat : Int).toNat.toUInt8 = c := by
  rw [Int.toNat_natCast]; exact UInt8.ofNat_toNat

set_option maxHeartbeats 1000000 in
set_option maxRecDepth 100000 in
theorem idxByte0 (s : ByteArray) (c : UInt8) (w : World) :
    Calls Tryd.prog 71 #[.string s, .int .u8 c.toNat] w fun e w' => e = .returned (.int .i64 (Lib.indexByte s.data.toList c)) ∧ w = w' := by
  go_enter Tryd.func71, Tryd.ntmps71
  go_wp2
  rw [run_callFunc_extern Tryd.func72 (by kernel_rfl) (by kernel_rfl) (by kernel_rfl) (e := Extern.BytealgIndexByte.indexByte) (by kernel_rfl), Lib.run_indexByteString, u8_back]
  simp only [Result.andThen]
  rw [Oper.upon_value]
  go_wp2
  go_ret
  exact ⟨rfl, rfl⟩
set_option maxHeartbeats 400000 in
theorem idxByte (s : ByteArray) (c : UInt8) (w : World) :
    Calls Tryd.prog 67 #[.string s, .int .u8 c.toNat] w fun e w' => e = .returned (.int .i64 (Lib.indexByte s.data.toList c)) ∧ w = w' := by
  go_enter Tryd.func67, Tryd.ntmps67
  go_wp2_with (go_at_call 71; refine (idxByte0 _ _ _).mono ?_; rintro e w' ⟨rfl, rfl⟩)
  go_ret
  exact ⟨rfl, rfl⟩

/- Contains of one byte -/
theorem has_eq (l : List UInt8) (c : UInt8) : decide (0 ≤ Lib.indexByte l c) = l.contains c := by
  rw [idx_eq]; cases h : l.contains c
  · rfl
  · simp
/- HasPrefix -/
theorem pre_take (s p : List UInt8) (h : p.length ≤ s.length) : Lib.hasPrefix s p = (s.take p.length == p) := by
  rw [← Lib.hasPrefix_of_take]; simp [h]
theorem pre_short (s p : List UInt8) (h : s.length < p.length) : Lib.hasPrefix s p = false := by
  rw [← Lib.hasPrefix_of_take]; simp; omega
/- cmp.Compare of bytes -/
end Go.Proofs.YtljbkpnfjgnhnaaDoor
