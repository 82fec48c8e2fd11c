/- The document's texts of types: Decimal, two, begins, number. -/
import Derived.Test.YtcekphfmpjdbmaaGreatDoorTxt7
import Derived.Outline
import Derived.Laws.IdiomStrings
import Derived.Deep.QuietTactic
import Derived.BigQuiet
namespace Go.Proofs.YtcekphfmpjdbmaaGreatDoor
open Go.RowKit

/-- The digits of what is left. -/
def decR (m : Nat) : List UInt8 := if m = 0 then [] else Lib.decDigits m
theorem decR_step (m : Nat) (h : 0 < m) : decR m = decR (m / 10) ++ [UInt8.ofNat (48 + m % 10)] := by
  unfold decR
  rw [if_neg (by omega)]
  by_cases h10 : m < 10
  · rw [if_pos (by omega), Lib.decDigits_one h10, show m % 10 = m by omega]; rfl
  · rw [if_neg (by omega), Lib.decDigits, dif_neg h10]

set_option maxRecDepth 100000 in
set_option maxHeartbeats 1000000 in
theorem decimal_ref (n : Nat) (w : World) (hn : n < 1000) :
    Calls Tryz.prog 102 #[.int .i64 n] w fun e w' => e = .returned (.string (bs (Lib.itoa n))) ∧ Below w.heap.size w w' := by
  by_cases h0 : n = 0
  · subst h0
    go_enter Tryz.func102, Tryz.ntmps102
    go_wp2
    go_ret
    refine ⟨ret_str ?_, Below.refl _ _⟩
    rw [show ((0 : Nat) : Int) = ((0 : Nat) : Int) from rfl, Lib.itoa_nonneg, Lib.decDigits_one (by omega)]
    rfl
  · have h1 : ((n : Int) == 0) = false := by rw [beq_eq_false_iff_ne]; omega
    go_enter Tryz.func102, Tryz.ntmps102
    go_wp2
    go_loopw [0, 3] (fun v s wr => ∃ (m : Nat) (l : List UInt8), m ≤ n ∧ v = .int .i64 m ∧ s = .string (bs l) ∧ Hid (decR m ++ l = decR n) ∧ Below w.heap.size w wr) (fun v _ _ => (intOf v).toNat)
    case atStart => exact ⟨n, [], by omega, rfl, rfl, List.append_nil _, Below.refl _ _⟩
    case round =>
      obtain ⟨m, l, hm, rfl, rfl, HL, hB⟩ := hrel
      have HB := Lib.hid hB
      clear hB
      by_cases hlt : 0 < m
      · have hcv : (convert 161 9 (.slice (some ⟨wr.heap.size, 0, none⟩) 1 1)).run Tryz.prog (wr.alloc (.cells #[.int .u8 (48 + (m : Int) % 10)] 5)) = .ok (.string (bs [UInt8.ofNat (48 + m % 10)])) (wr.alloc (.cells #[.int .u8 (48 + (m : Int) % 10)] 5)) :=
          run_convert_bytes_back (P := Tryz.prog) _ 161 9 5 ⟨wr.heap.size, 0, none⟩ 1 [UInt8.ofNat (48 + m % 10)] Tryz.underlying161 (by kernel_rfl) (by kernel_rfl) (fun j hj => by
            obtain rfl : j = 0 := by simpa using hj
            have e : (UInt8.ofNat (48 + m % 10)).toNat = 48 + m % 10 := digit_nat (m % 10) (by omega)
            simp only [List.getElem_cons_zero, e]
            simp [go_sem, Addr.add])
        have hs1 : ∀ W, (Op.stringOp .add (bs [UInt8.ofNat (48 + m % 10)]) (bs l)).run Tryz.prog W = .ok (.string (bs (UInt8.ofNat (48 + m % 10) :: l))) W := fun W => sadd [UInt8.ofNat (48 + m % 10)] l _ rfl (by simp) (by
          have := HL.out
          have h2 : (decR n).length ≤ 3 := by
            unfold decR; rw [if_neg h0]
            have := itoa_len n (by omega) (by omega)
            rwa [Lib.itoa_nonneg] at this
          rw [← this] at h2; simp at h2; omega) W
        have HS := decR_step m hlt
        generalize hd : UInt8.ofNat (48 + m % 10) = d at hcv hs1 HS
        have HD := Lib.hid hd; have HT := Lib.hid HS
        clear hd HS
        go_wp2
        go_roundw
        case rel => exact ⟨m / 10, d :: l, by omega, by go_num, rfl, by have := HL.out; rw [HT.out, List.append_assoc] at this; exact this, HB.out.alloc HB.out.size _⟩
        case measure => simp [intOf]; omega
      · obtain rfl : m = 0 := by omega
        go_wp2
        go_ret
        refine ⟨ret_str ?_, HB.out⟩
        have := HL.out
        rw [Lib.itoa_nonneg]
        unfold decR at this
        rw [if_pos rfl, if_neg h0] at this
        rw [← this]; rfl

theorem decimal_i (n : Int) (w : World) (h0 : 0 ≤ n) (hn : n < 1000) :
    Calls Tryz.prog 102 #[.int .i64 n] w fun e w' => e = .returned (.string (bs (Lib.itoa n))) ∧ Below w.heap.size w w' := by
  obtain ⟨u, rfl⟩ := Int.eq_ofNat_of_zero_le h0
  exact decimal_ref u w (by omega)

set_option maxHeartbeats 1000000 in
theorem two_ref (p q : Int) (w : World) (hp : 0 ≤ p) (hp' : p < 1000) (hq : 0 ≤ q) (hq' : q < 1000) :
    Calls Tryz.prog 101 #[.int .i64 p, .int .i64 q] w fun e w' => e = .returned (.string (bs (two2 p q))) ∧ Below w.heap.size w w' := by
  have a1 := itoa_len p hp hp'
  have a2 := itoa_len q hq hq'
  obtain ⟨x1, hx1⟩ : ∃ x, x = 40 :: Lib.itoa p := ⟨_, rfl⟩
  obtain ⟨x2, hx2⟩ : ∃ x, x = x1 ++ [44] := ⟨_, rfl⟩
  obtain ⟨x3, hx3⟩ : ∃ x, x = x2 ++ Lib.itoa q := ⟨_, rfl⟩
  obtain ⟨x4, hx4⟩ : ∃ x, x = x3 ++ [41] := ⟨_, rfl⟩
  have l1 : x1.length ≤ 4 := by rw [hx1]; simp; omega
  have l2 : x2.length ≤ 5 := by rw [hx2]; simp; omega
  have l3 : x3.length ≤ 8 := by rw [hx3]; simp; omega
  have s1 := fun W => sadd [40] (Lib.itoa p) x1 (by rw [hx1]; rfl) (by simp) (by omega) W
  have s2 := fun W => sadd x1 [44] x2 hx2.symm (by omega) (by simp) W
  have s3 := fun W => sadd x2 (Lib.itoa q) x3 hx3.symm (by omega) (by omega) W
  have s4 := fun W => sadd x3 [41] x4 hx4.symm (by omega) (by simp) W
  have hfin : two2 p q = x4 := by rw [hx4, hx3, hx2, hx1]; simp [two2]
  rw [hfin]
  clear hx1 hx2 hx3 hx4 hfin a1 a2 l1 l2 l3
  go_enter Tryz.func101, Tryz.ntmps101
  go_wp2_with fail
  go_at_call 102
  refine (decimal_i p _ hp hp').mono ?_
  rintro e w1 ⟨rfl, hb1⟩
  go_wp2_with fail
  go_at_call 102
  refine (decimal_i q _ hq hq').mono ?_
  rintro e w2 ⟨rfl, hb2⟩
  go_wp2
  go_ret
  exact ⟨rfl, below_then hb1 hb2 hb1.size⟩

theorem hasPrefix_take (s p : List UInt8) (h : p.length ≤ s.length) : Lib.hasPrefix s p = (s.take p.length == p) := by
  rw [← Lib.hasPrefix_of_take]; simp [h]
theorem hasPrefix_short (s p : List UInt8) (h : s.length < p.length) : Lib.hasPrefix s p = false := by
  rw [← Lib.hasPrefix_of_take]; simp; omega

set_option maxHeartbeats 1000000 in
theorem begins_no (s p : ByteArray) (w : World) (hs : s.size ≤ 100000) (hp : p.size ≤ 100000) (h : Lib.hasPrefix s.data.toList p.data.toList = false) :
    Calls Tryz.prog 105 #[.string s, .string p] w fun e w' => e = .returned (.tuple #[.string ⟨#[]⟩, .bool false]) ∧ w = w' := by
  by_cases hl : s.size < p.size
  · have hl' : (s.size : Int) < p.size := by omega
    go_enter Tryz.func105, Tryz.ntmps105
    go_wp2
    go_ret2
    exact ⟨rfl, rfl⟩
  · have hl' : (p.size : Int) ≤ s.size := by omega
    have hl2 : p.size ≤ s.size := by omega
    have hne : ((s.extract 0 p.size).toList == p.toList) = false := by
      rw [hasPrefix_take _ _ (by rw [size_list, size_list]; omega), size_list] at h
      rw [Lib.extract_toList, ByteArray.toList_eq, List.drop_zero, Nat.sub_zero]
      exact h
    clear h hl
    go_enter Tryz.func105, Tryz.ntmps105
    go_wp2
    go_ret2
    exact ⟨rfl, rfl⟩

theorem extract_bs (s : ByteArray) (a : Nat) (h : a ≤ s.size) : s.extract a s.size = bs (s.data.toList.drop a) := by
  have e : (s.extract a s.size).data.toList = s.data.toList.drop a := by
    rw [Lib.extract_data, List.take_of_length_le (by rw [List.length_drop, size_list]; omega)]
  rw [← e]

set_option maxHeartbeats 1000000 in
theorem begins_yes (s p : ByteArray) (w : World) (hs : s.size ≤ 100000) (hp : p.size ≤ 100000) (h : Lib.hasPrefix s.data.toList p.data.toList = true) :
    Calls Tryz.prog 105 #[.string s, .string p] w fun e w' => e = .returned (.tuple #[.string (bs (s.data.toList.drop p.size)), .bool true]) ∧ w = w' := by
  have hl2 : p.size ≤ s.size := by
    apply Decidable.byContradiction
    intro hn
    rw [hasPrefix_short _ _ (by rw [size_list, size_list]; omega)] at h
    cases h
  have hl' : (p.size : Int) ≤ s.size := by omega
  have hne : ((s.extract 0 p.size).toList == p.toList) = true := by
    rw [hasPrefix_take _ _ (by rw [size_list, size_list]; omega), size_list] at h
    rw [Lib.extract_toList, ByteArray.toList_eq, List.drop_zero, Nat.sub_zero]
    exact h
  have hx := extract_bs s p.size hl2
  have HX := Lib.hid hx
  have hnl : ¬ s.size < p.size := by omega
  clear h hx
  go_enter Tryz.func105, Tryz.ntmps105
  go_wp2
  go_ret2
  exact ⟨by rw [← HX.out]; rfl, rfl⟩

set_option maxHeartbeats 1000000 in
theorem digit_ref (c : UInt8) (w : World) :
    Calls Tryz.prog 158 #[.int .u8 (c.toNat : Int)] w fun e w' => e = .returned (.bool (isDig c)) ∧ w = w' := by
  go_enter Tryz.func158, Tryz.ntmps158
  go_wp2
  all_goals
    go_ret
    refine ⟨ret_bool ?_, rfl⟩
    unfold isDig
    rw [Bool.eq_iff_iff]
    simp
    try omega

theorem drop_cons (s : ByteArray) (i : Nat) (h : i < s.size) : s.data.toList.drop i = s[i] :: s.data.toList.drop (i + 1) := by
  rw [List.drop_eq_getElem_cons (by rw [size_list]; exact h)]
  rfl

set_option maxRecDepth 100000 in
set_option maxHeartbeats 2000000 in
theorem number_ref (s : ByteArray) (w : World) (hs : s.size ≤ 100000) :
    Calls Tryz.prog 106 #[.string s] w fun e w' => e = .returned (.tuple #[.int .i64 (takeN 3 0 s.data.toList).1, .string (bs (takeN 3 0 s.data.toList).2)]) ∧ Below w.heap.size w w' := by
  obtain ⟨nf, rf, hfin⟩ : ∃ nf rf, takeN 3 0 s.data.toList = (nf, rf) := ⟨_, _, rfl⟩
  rw [hfin]
  have HF := Lib.hid hfin
  clear hfin
  go_enter Tryz.func106, Tryz.ntmps106
  go_wp2
  go_loopw [4, 5] (fun v u wr => ∃ (m : Int) (i : Nat), i ≤ 3 ∧ i ≤ s.size ∧ v = .int .i64 m ∧ u = .int .i64 i ∧ 0 ≤ m ∧ m < 10 ^ i ∧ Hid (takeN (3 - i) m (s.data.toList.drop i) = (nf, rf)) ∧ Below w.heap.size w wr) (fun _ u _ => 4 - (intOf u).toNat)
  case atStart => exact ⟨0, 0, by omega, by omega, rfl, rfl, by omega, by omega, HF.out, Below.refl _ _⟩
  case round =>
    obtain ⟨m, i, h3, hl, rfl, rfl, hm0, hm1, HT, hB⟩ := hrel
    have HB := Lib.hid hB
    clear hB
    have hm2 : m < 1000 := by
      have : (10 : Int) ^ i ≤ 1000 := by
        obtain rfl | rfl | rfl | rfl : i = 0 ∨ i = 1 ∨ i = 2 ∨ i = 3 := by omega
        all_goals decide
      omega
    have HM1 := Lib.hid hm1
    clear hm1
    have hl' : (i : Int) ≤ s.size := by omega
    by_cases hlt : i < s.size
    · by_cases hi3 : i < 3
      · have hi3' : (i : Int) < 3 := by omega
        cases hd : isDig s[i] with
        | true =>
          have HD := Lib.hid hd
          have hb : 48 ≤ (s[i].toNat : Int) ∧ (s[i].toNat : Int) ≤ 57 := by
            have := hd
            simp only [isDig, Bool.and_eq_true, decide_eq_true_eq] at this
            omega
          have hb1 := hb.1
          have hb2 := hb.2
          clear hb hd
          go_wp2_with (go_at_call 158; refine (digit_ref s[i] _).mono ?_; rintro e w2 ⟨rfl, rfl⟩; rw [HD.out])
          go_roundw
          case rel =>
            refine ⟨10 * m + (↑s[i].toNat - 48), i + 1, by omega, by omega, rfl, by go_num, by omega, ?_, ?_, HB.out⟩
            · have := HM1.out
              rw [Int.pow_succ]; omega
            · have h := HT.out
              rw [drop_cons s i hlt, show 3 - i = (3 - (i + 1)) + 1 by omega, takeN, if_pos HD.out] at h
              exact h
          case measure => simp [intOf]; omega
        | false =>
          have HD := Lib.hid hd
          clear hd
          have hfin : m = nf ∧ s.data.toList.drop i = rf := by
            have h := HT.out
            rw [drop_cons s i hlt, show 3 - i = (3 - (i + 1)) + 1 by omega, takeN, if_neg (by rw [HD.out]; decide), ← drop_cons s i hlt] at h
            exact ⟨congrArg Prod.fst h, congrArg Prod.snd h⟩
          have HFN := Lib.hid hfin
          have hx := Lib.hid (extract_bs s i hl)
          clear hfin
          go_wp2_with (go_at_call 158; refine (digit_ref s[i] _).mono ?_; rintro e w2 ⟨rfl, rfl⟩; rw [HD.out])
          go_quiet (fail)
          go_wp2
          go_ret2
          exact ⟨by rw [← HFN.out.1, ← HFN.out.2, ← hx.out]; rfl, below_dN HB.out _⟩
      · have hi3' : ¬ (i : Int) < 3 := by omega
        have hi : i = 3 := by omega
        have hfin : m = nf ∧ s.data.toList.drop i = rf := by
          have h := HT.out
          rw [show 3 - i = 0 by omega, takeN] at h
          exact ⟨congrArg Prod.fst h, congrArg Prod.snd h⟩
        have HFN := Lib.hid hfin
        have hx := Lib.hid (extract_bs s i hl)
        clear hfin hi
        go_wp2
        go_quiet (fail)
        go_wp2
        go_ret2
        exact ⟨by rw [← HFN.out.1, ← HFN.out.2, ← hx.out]; rfl, below_dN HB.out _⟩
    · have hie : i = s.size := by omega
      have hfin : m = nf ∧ s.data.toList.drop i = rf := by
        have h := HT.out
        have e : s.data.toList.drop i = [] := by rw [List.drop_eq_nil_iff, size_list]; omega
        rw [e] at h ⊢
        have h' : takeN (3 - i) m [] = (m, []) := by cases 3 - i <;> rfl
        rw [h'] at h
        exact ⟨congrArg Prod.fst h, congrArg Prod.snd h⟩
      have HFN := Lib.hid hfin
      have hx := Lib.hid (extract_bs s i hl)
      clear hfin hie
      go_wp2
      go_quiet (fail)
      go_wp2
      go_ret2
      exact ⟨by rw [← HFN.out.1, ← HFN.out.2, ← hx.out]; rfl, below_dN HB.out _⟩
end Go.Proofs.YtcekphfmpjdbmaaGreatDoor
