/- Package bits: Compare; the document's Filled. -/
import Derived.Test.YtljbkpnfjgnhnaaDoorBitCmp
namespace Go.Proofs.YtljbkpnfjgnhnaaDoor
open Go.RowKit

def compareV (a b : Vl) : Int := cmpL a.k a.s.data.toList b.s.data.toList
theorem vl_le2 {a : Vl} (h : a.ok = true) : a.s.size ≤ 1000 := by
  have := okT_len (okV_eq h).2.2; rw [lsz] at this; omega
/- The document's Filled -/
theorem bsadd (x y z : List UInt8) (h : x ++ y = z) (hx : x.length ≤ 8388608) (hy : y.length ≤ 8388608) (w : World) : (Op.stringOp .add (bsz x) (bsz y)).run Tryd.prog w = .ok (.string (bsz z)) w := by
  rw [← h]; exact run_string_add_lists w x y (by omega) (by omega)
theorem ext_take (s : ByteArray) (n : Nat) : s.extract 0 n = bsz (s.data.toList.take n) := by
  have e : (s.extract 0 n).data.toList = s.data.toList.take n := by rw [Lib.extract_data, List.drop_zero, Nat.sub_zero]
  rw [← e]
/-- A text with so many fillers behind it. -/
def padL (k : Int) (l : List UInt8) (j : Nat) : List UInt8 := l ++ List.replicate j (fillC k)
theorem padL_len (k : Int) (l : List UInt8) (j : Nat) : (padL k l j).length = l.length + j := by simp [padL]
theorem padL_succ (k : Int) (l : List UInt8) (j : Nat) : padL k l j ++ [fillC k] = padL k l (j + 1) := by
  unfold padL; rw [List.append_assoc, ← List.replicate_succ']
theorem padL_take (k : Int) (l : List UInt8) (n j : Nat) (h : (j = 0 ∧ n ≤ l.length) ∨ l.length + j = n) : (padL k l j).take n = tellL n (getF k l) := by
  rcases h with ⟨rfl, h⟩ | h
  · rw [fit_take k l n h]; simp [padL]
  · rw [fit_pad k l n (by omega), List.take_of_length_le (by rw [padL_len]; omega), padL]
    congr 2; omega
set_option maxRecDepth 100000 in
set_option maxHeartbeats 1000000 in
theorem rFilled_any (s : ByteArray) (k : Int) (n : Nat) (w : World) (hs : s.size ≤ 100000) (hn : n ≤ 100000) :
    Calls Tryd.prog 22 #[.string s, .int .i64 k, .int .i64 n] w fun e w' => e = .returned (.string (bsz (tellL n (getF k s.data.toList)))) ∧ Below w.heap.size w w' := by
  have hn0 : (0 : Int) ≤ n := by omega
  have hmx : max (n : Int) 0 = n := by omega
  go_enter Tryd.func22, Tryd.ntmps22
  go_wp2
  go_loopw [0] (fun v wr => ∃ j : Nat, v = .string (bsz (padL k s.data.toList j)) ∧ Hid (j = 0 ∨ s.size + j ≤ n) ∧ Below w.heap.size w wr) (fun v _ => n - (match v with | .string x => x.size | _ => 0))
  case atStart => exact ⟨0, by simp [padL], .inl rfl, Below.refl _ _⟩
  case round =>
    obtain ⟨j, rfl, HJ, hB⟩ := hrel
    have HB := Lib.hid hB
    clear hB
    have hlen : (bsz (padL k s.data.toList j)).size = s.size + j := by rw [bsz_size, padL_len, lsz]
    have hL := Lib.hid hlen
    have hjj : j ≤ 100000 := by have := HJ.out; omega
    by_cases hlt : s.size + j < n
    · have s1 := fun W => bsadd (padL k s.data.toList j) [fillC k] _ (padL_succ k s.data.toList j) (by rw [padL_len, lsz]; omega) (by simp) W
      go_wp2_with (go_at_call 43; refine (filler_any _ _).mono ?_; rintro e w2 ⟨rfl, rfl⟩)
      go_roundw
      case rel => exact ⟨j + 1, rfl, .inr (by omega), HB.out⟩
      case measure => simp [bsz_size, padL_len]; omega
    · have hx := ext_take (bsz (padL k s.data.toList j)) n
      have hf : (padL k s.data.toList j).take n = tellL n (getF k s.data.toList) := padL_take _ _ _ _ (by rw [lsz]; have := HJ.out; omega)
      have HX : Hid ((bsz (padL k s.data.toList j)).extract 0 n = bsz (tellL n (getF k s.data.toList))) := Lib.hid (hx.trans (by rw [← hf]))
      have hle : n ≤ s.size + j := by omega
      clear hx hf
      go_wp2
      all_goals
        go_ret
        exact ⟨ret_str2 HX.out, HB.out⟩
end Go.Proofs.YtljbkpnfjgnhnaaDoor
