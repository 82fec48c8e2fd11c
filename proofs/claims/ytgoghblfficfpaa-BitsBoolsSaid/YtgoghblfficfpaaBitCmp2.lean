/- Package bits: Compare; the document's Filled. -/
import Derived.Test.YtgoghblfficfpaaBitCmp
namespace Go.Proofs.Ytgoghblfficfpaa
open Go.RowKit

def compareV (a b : Vl) : Int := cmpL a.k a.s.data.toList b.s.data.toList
theorem vl_le2 {a : Vl} (h : a.ok = true) : a.s.size ≤ 1000 := by
  have := okT_len (okV_eq h).2.2; rw [lsz] at this; omega
set_option maxRecDepth 100000 in
set_option maxHeartbeats 2000000 in
theorem cCompare_any (a b : Vl) (bs bt : Nat) (w : World) (hS : Row w bs (vlC a.k a.n a.q a.s) 23) (hT : Row w bt (vlC b.k b.n b.q b.s) 23) (hs : a.s.size ≤ maxLen) (hs' : b.s.size ≤ maxLen) :
    Calls Try.prog 116 #[ptr bs, ptr bt] w fun e w' => e = outE (alikeE a b) (.int .i64 (compareV a b)) ∧ Below w.heap.size w w' := by
  obtain ⟨x0, x1, x2, x3⟩ := hS.four
  obtain ⟨y0, y1, y2, y3⟩ := hT.four
  have H1 := Lib.hid hs
  have H2 := Lib.hid hs'
  clear hs hs'
  by_cases h0 : alikeE a b = 0
  · obtain ⟨oa, ob, ok⟩ := alikeE_ok h0
    have la := Lib.hid (vl_le2 oa)
    have lb := Lib.hid (vl_le2 ob)
    have HK := Lib.hid (okT_kind (okV_eq oa).2.2)
    have HO := Lib.hid ok
    have HE := Lib.hid h0
    rw [h0]
    clear oa ob ok h0
    show Calls _ _ _ _ fun e w' => e = .returned (.int .i64 (compareV a b)) ∧ Below w.heap.size w w'
    unfold compareV
    go_enter Try.func116, Try.ntmps116
    go_wp2_with (first
      | (go_at_call 66; refine (demAlike_any a b w.heap.size 1 _ H1.out H2.out (VlsAt.one (Row.new _ _ _)) (by simp)).mono ?_; rw [HE.out, outE_ok]; rintro e w1 ⟨rfl, hb1⟩; have B1 := Lib.hid (bl_box (Below.refl _ w) hb1); have S1 := (hS.alloc _).keep hb1; have T1 := (hT.alloc _).keep hb1; obtain ⟨x0, x1, x2, x3⟩ := S1.four; obtain ⟨y0, y1, y2, y3⟩ := T1.four)
      | (go_at_call 117; refine (compared_any a b _ la.out lb.out HK.out HO.out).mono ?_; rintro e w2 ⟨rfl, hb2⟩))
    go_ret
    exact ⟨rfl, bl_then B1.out hb2⟩
  · have HE := Lib.hid (outE_no (.tuple #[]) h0)
    rw [outE_no _ h0]
    clear h0
    go_enter Try.func116, Try.ntmps116
    go_wp2_with (go_at_call 66; refine (demAlike_any a b w.heap.size 1 _ H1.out H2.out (VlsAt.one (Row.new _ _ _)) (by simp)).mono ?_; rw [HE.out]; rintro e w1 ⟨rfl, hb1⟩; have B1 := Lib.hid (bl_box (Below.refl _ w) hb1))
    exact ⟨rfl, rfl, B1.out⟩
set_option maxHeartbeats 1000000 in
theorem bCompare_any (a b : Vl) (w : World) (hs : a.s.size ≤ maxLen) (hs' : b.s.size ≤ maxLen) :
    Calls Try.prog 52 #[a.v, b.v] w fun e w' => e = .returned (.tuple #[.int .i64 (if alikeE a b = 0 then compareV a b else 0), .int .i64 (alikeE a b)]) ∧ Below w.heap.size w w' := by
  have hmf : ∀ (fn : Fn) (first cap : Array Value) (w : World), (Instr.makeFunc fn first cap).run Try.prog w = .ok (.func fn first cap) w := fun _ _ _ _ => rfl
  have H1 := Lib.hid hs
  have H2 := Lib.hid hs'
  clear hs hs'
  have HC : Hid (∀ W, Below (w.heap.size + 1 + 1) ((w.alloc (.cells (vlC a.k a.n a.q a.s) 23)).alloc (.cells (vlC b.k b.n b.q b.s) 23)) W → Calls Try.prog 116 #[ptr w.heap.size, ptr (w.heap.size + 1)] W fun e w' => e = outE (alikeE a b) (.int .i64 (compareV a b)) ∧ Below W.heap.size W w') := by
    show ∀ _, _
    intro W hW
    exact cCompare_any a b _ _ W (((Row.new _ _ _).alloc _).keep (by simpa using hW)) ((Row.new2 _ _ _ _).keep (by simpa using hW)) H1.out H2.out
  generalize alikeE a b = E at HC ⊢
  generalize compareV a b = V at HC ⊢
  have HR : Hid ((if E = 0 then (.int .i64 V : Value) else .int .i64 0) = .int .i64 (if E = 0 then V else 0)) := by show _ = _; split <;> rfl
  generalize (if E = 0 then V else 0) = R at HR ⊢
  go_enter Try.func52, Try.ntmps52
  go_wp2_with (go_at_call 73; refine (bAnsI_any 116 _ E V _ (fun W => by kernel_rfl) (fun W hW => HC.out W (by simpa using hW))).mono ?_; rw [HR.out]; rintro e w1 ⟨rfl, hb1⟩)
  go_ret2
  exact ⟨rfl, bl_box2 (Below.refl _ w) hb1⟩

/- The document's Filled -/
theorem bsadd (x y z : List UInt8) (h : x ++ y = z) (hx : x.length ≤ 8388608) (hy : y.length ≤ 8388608) (w : World) : (Op.stringOp .add (bsz x) (bsz y)).run Try.prog w = .ok (.string (bsz z)) w := by
  rw [← h]; exact run_string_add_lists w x y (by omega) (by omega)
theorem ext_take (s : ByteArray) (n : Nat) : s.extract 0 n = bsz (s.data.toList.take n) := by
  have e : (s.extract 0 n).data.toList = s.data.toList.take n := by rw [Lib.extract_data, List.drop_zero, Nat.sub_zero]
  rw [← e]
/-- A text with so many fillers behind it. -/
def padL (k : Int) (l : List UInt8) (j : Nat) : List UInt8 := l ++ List.replicate j (fillC k)
theorem padL_len (k : Int) (l : List UInt8) (j : Nat) : (padL k l j).length = l.length + j := by simp [padL]
theorem padL_succ (k : Int) (l : List UInt8) (j : Nat) : padL k l j ++ [fillC k] = padL k l (j + 1) := by
  unfold padL; rw [List.append_assoc, ← List.replicate_succ']
theorem padL_take (k : Int) (l : List UInt8) (n j : Nat) (h : (j = 0 ∧ n ≤ l.length) ∨ l.length + j = n) : (padL k l j).take n = tellL n (getF k l) := by
  rcases h with ⟨rfl, h⟩ | h
  · rw [fit_take k l n h]; simp [padL]
  · rw [fit_pad k l n (by omega), List.take_of_length_le (by rw [padL_len]; omega), padL]
    congr 2; omega
set_option maxRecDepth 100000 in
set_option maxHeartbeats 1000000 in
theorem rFilled_any (s : ByteArray) (k : Int) (n : Nat) (w : World) (hs : s.size ≤ 100000) (hn : n ≤ 100000) :
    Calls Try.prog 108 #[.string s, .int .i64 k, .int .i64 n] w fun e w' => e = .returned (.string (bsz (tellL n (getF k s.data.toList)))) ∧ Below w.heap.size w w' := by
  have hn0 : (0 : Int) ≤ n := by omega
  have hmx : max (n : Int) 0 = n := by omega
  go_enter Try.func108, Try.ntmps108
  go_wp2
  go_loopw [0] (fun v wr => ∃ j : Nat, v = .string (bsz (padL k s.data.toList j)) ∧ Hid (j = 0 ∨ s.size + j ≤ n) ∧ Below w.heap.size w wr) (fun v _ => n - (match v with | .string x => x.size | _ => 0))
  case atStart => exact ⟨0, by simp [padL], .inl rfl, Below.refl _ _⟩
  case round =>
    obtain ⟨j, rfl, HJ, hB⟩ := hrel
    have HB := Lib.hid hB
    clear hB
    have hlen : (bsz (padL k s.data.toList j)).size = s.size + j := by rw [bsz_size, padL_len, lsz]
    have hL := Lib.hid hlen
    have hjj : j ≤ 100000 := by have := HJ.out; omega
    by_cases hlt : s.size + j < n
    · have s1 := fun W => bsadd (padL k s.data.toList j) [fillC k] _ (padL_succ k s.data.toList j) (by rw [padL_len, lsz]; omega) (by simp) W
      go_wp2_with (go_at_call 69; refine (filler_any _ _).mono ?_; rintro e w2 ⟨rfl, rfl⟩)
      go_roundw
      case rel => exact ⟨j + 1, rfl, .inr (by omega), HB.out⟩
      case measure => simp [bsz_size, padL_len]; omega
    · have hx := ext_take (bsz (padL k s.data.toList j)) n
      have hf : (padL k s.data.toList j).take n = tellL n (getF k s.data.toList) := padL_take _ _ _ _ (by rw [lsz]; have := HJ.out; omega)
      have HX : Hid ((bsz (padL k s.data.toList j)).extract 0 n = bsz (tellL n (getF k s.data.toList))) := Lib.hid (hx.trans (by rw [← hf]))
      have hle : n ≤ s.size + j := by omega
      clear hx hf
      go_wp2
      all_goals
        go_ret
        exact ⟨ret_str2 HX.out, HB.out⟩
end Go.Proofs.Ytgoghblfficfpaa
