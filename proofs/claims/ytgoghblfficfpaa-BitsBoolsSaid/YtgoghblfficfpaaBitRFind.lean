/- The document's Index, Tally, Verify, Search. -/
import Derived.Test.YtgoghblfficfpaaBitRefE
import Derived.Test.YtgoghblfficfpaaBitFind
namespace Go.Proofs.Ytgoghblfficfpaa
open Go.RowKit

theorem ext_mid (s : ByteArray) (i n : Nat) : (s.extract i (i + n)).toList = (s.data.toList.drop i).take n := by
  rw [Lib.extract_toList, show i + n - i = n by omega]
set_option maxHeartbeats 1000000 in
theorem at_any (s p : ByteArray) (i : Nat) (w : World) (hs : s.size ≤ 100000) (hp : p.size ≤ 100000) (hi : i ≤ s.size) (h0 : p.size ≠ 0) :
    Calls Try.prog 77 #[.string s, .string p, .int .i64 i] w fun e w' => e = .returned (.bool (begsP s.data.toList p.data.toList i)) ∧ w = w' := by
  have hB := begsP_b s p i h0
  generalize hr : begsP s.data.toList p.data.toList i = r at hB
  clear h0 hr
  by_cases hl : i + p.size ≤ s.size
  · have hx : ((s.extract i (i + p.size)).toList == p.toList) = r := by
      rw [hB, pre_take _ _ (by rw [List.length_drop, lsz, lsz]; omega), ext_mid, lsz, ByteArray.toList_eq]
    have HX := Lib.hid hx
    have d1 : decide ((i : Int) + p.size ≤ s.size) = true := by simp only [decide_eq_true_eq]; omega
    have d2 : decide (i + p.size ≤ s.size) = true := decide_eq_true hl
    have g1 : (i : Int) + p.size ≤ s.size := by omega
    clear hB hx
    go_enter Try.func77, Try.ntmps77
    go_wp2
    go_ret
    exact ⟨ret_bool HX.out, rfl⟩
  · have hf : r = false := hB.trans (pre_short _ _ (by rw [List.length_drop, lsz, lsz]; omega))
    subst hf
    have d1 : decide ((i : Int) + p.size ≤ s.size) = false := by simp only [decide_eq_false_iff_not]; omega
    have d2 : decide (i + p.size ≤ s.size) = false := decide_eq_false hl
    clear hB hl
    go_enter Try.func77, Try.ntmps77
    go_wp2
    go_ret
    exact ⟨rfl, rfl⟩

def inN (l : List UInt8) (c : UInt8) : Nat := if l.contains c then l.idxOf c + 1 else 0
theorem idx_at {s : ByteArray} {c : UInt8} {j : Nat} (h : j < s.size) (hn : ∀ i (hi : i < s.size), i < j → s[i] ≠ c) (he : s[j] = c) : inN s.data.toList c = j + 1 := by
  have hl : j < s.data.toList.length := by rw [lsz]; exact h
  have h1 : s.data.toList.contains c = true := by rw [List.contains_iff_mem, ← he]; exact get_mem s j h
  rw [inN, if_pos h1]
  have h2 : s.data.toList.idxOf c = j := by
    rw [List.idxOf, List.findIdx_eq hl]
    refine ⟨?_, fun i hi => ?_⟩
    · have : s.data.toList[j] = c := he
      simp [this]
    · have : s.data.toList[i]'(by omega) ≠ c := hn i (by rw [lsz] at hl; omega) hi
      simpa using this
  rw [h2]
theorem idx_none {s : ByteArray} {c : UInt8} (hn : ∀ i (hi : i < s.size), s[i] ≠ c) : inN s.data.toList c = 0 := by
  rw [inN, if_neg]
  intro h
  rw [List.contains_iff_mem] at h
  obtain ⟨i, hi, e⟩ := List.getElem_of_mem h
  rw [lsz] at hi
  exact hn i hi e
set_option maxHeartbeats 1000000 in
theorem in_any (s : ByteArray) (c : UInt8) (w : World) (hs : s.size ≤ 100000) :
    Calls Try.prog 83 #[.string s, .int .u8 c.toNat] w fun e w' => e = .returned (.int .i64 (inN s.data.toList c)) ∧ w' = w := by
  go_enter Try.func83, Try.ntmps83
  go_wp2
  go_loop [5] (fun v => ∃ j : Nat, j ≤ s.size ∧ v = .int .i64 j ∧ Hid (∀ i (hi : i < s.size), i < j → s[i] ≠ c)) (fun v => s.size - (intOf v).toNat)
  case atStart => exact ⟨0, Nat.zero_le _, rfl, fun i _ hi => absurd hi (Nat.not_lt_zero _)⟩
  case round =>
    obtain ⟨j, hj, rfl, HF⟩ := hrel
    by_cases hlt : j < s.size
    · by_cases he : s[j] = c
      · have HL := Lib.hid (idx_at hlt HF.out he)
        have e1 : ((s[j].toNat : Int) == (c.toNat : Int)) = true := by rw [he]; simp
        have e2 : (s[j].toNat == c.toNat) = true := by rw [he]; simp
        clear he
        go_wp2
        go_ret
        exact ⟨by rw [HL.out]; rfl, rfl⟩
      · have hne : s[j].toNat ≠ c.toNat := fun e => he (UInt8.toNat_inj.1 e)
        have e1 : ((s[j].toNat : Int) == (c.toNat : Int)) = false := by rw [beq_eq_false_iff_ne]; omega
        have e2 : (s[j].toNat == c.toNat) = false := by rw [beq_eq_false_iff_ne]; exact hne
        have HE := Lib.hid he
        clear he hne
        go_wp2
        go_round
        case rel => exact ⟨j + 1, by omega, by go_num, fun i h hi => by
          by_cases e : i = j
          · subst e; exact HE.out
          · exact HF.out i h (by omega)⟩
        case measure => simp [intOf]; omega
    · have HL := Lib.hid (idx_none (s := s) (c := c) fun i hi => HF.out i hi (by omega))
      go_wp2
      go_ret
      exact ⟨by rw [HL.out]; rfl, rfl⟩
theorem inN_zero (s : ByteArray) (set : List UInt8) (i : Nat) (h : i < s.size) : ((inN set s[i] : Int) == 0) = notP (inP s.data.toList set) i := by
  rw [notP, inP, getD_b s i h, inN]
  cases hc : set.contains s[i]
  · rfl
  · rw [if_pos rfl, Bool.not_true, beq_eq_false_iff_ne]; omega
theorem inN_pos (s : ByteArray) (set : List UInt8) (i : Nat) (h : i < s.size) : decide (0 < inN set s[i]) = inP s.data.toList set i := by
  rw [inP, getD_b s i h, inN]
  cases hc : set.contains s[i]
  · rfl
  · rw [if_pos rfl, decide_eq_true_eq]; omega

theorem inN_le (l : List UInt8) (c : UInt8) : inN l c ≤ l.length + 1 := by
  unfold inN; split
  · have := List.idxOf_le_length (a := c) (l := l); omega
  · omega
theorem many_none {p : Nat → Bool} {n : Nat} (h : ∀ i, i < n → p i = false) : manyN p n = 0 := by
  induction n with
  | zero => rfl
  | succ n ih => rw [manyN_succ, ih (fun i hi => h i (by omega)), h n (by omega)]; rfl

set_option maxRecDepth 100000 in
set_option maxHeartbeats 2000000 in
theorem rIndex_any (a b : Vl) (w : World) (hs : a.s.size ≤ maxLen) (hs' : b.s.size ≤ maxLen) :
    Calls Try.prog 18 #[a.v, b.v] w fun e w' => e = .returned (.tuple #[.int .i64 (if alikeE a b = 0 then indexV a b else 0), .int .i64 (alikeE a b)]) ∧ Below w.heap.size w w' := by
  have H1 := Lib.hid hs
  have H2 := Lib.hid hs'
  clear hs hs'
  by_cases h0 : alikeE a b = 0
  · obtain ⟨oa, ob, ok⟩ := alikeE_ok h0
    have la := vl_le oa
    have lb := vl_le ob
    have HE := Lib.hid h0
    rw [h0, if_pos rfl]
    clear oa ob ok h0
    unfold indexV
    by_cases hp : b.s.size = 0
    · have e2 : b.s.toList = [] := by rw [ByteArray.toList_eq]; exact List.eq_nil_of_length_eq_zero (by rw [lsz]; exact hp)
      have e1 : (b.s.toList == []) = true := beq_iff_eq.2 e2
      have HL : Hid (leastN (begsP a.s.data.toList b.s.data.toList) a.s.size = 0) := by
        show _ = _
        exact leastN_zero fun i _ => begsP_e _ _ i hp
      clear hp
      go_enter Try.func18, Try.ntmps18
      go_wp2_with (go_at_call 68; refine (rStr2_any a b (w.heap.size + 1 + 1) 2 _ H1.out H2.out (VlsAt.two (Row.new3 _ _ _ _ _)) (by simp)).mono ?_; rw [HE.out]; rintro e w1 ⟨rfl, hb1⟩; have B1 := Lib.hid (bl_box3 (Below.refl _ w) hb1); have S1 := Lib.hid ((((Row.new w (vlC a.k a.n a.q a.s) 23).alloc (.cells (vlC b.k b.n b.q b.s) 23)).alloc (.cells #[.int .i64 a.k, .int .i64 a.n, .int .i64 a.q, .string a.s, .int .i64 b.k, .int .i64 b.n, .int .i64 b.q, .string b.s] 23)).keep hb1); have T1 := Lib.hid (((Row.new2 w (.cells (vlC a.k a.n a.q a.s) 23) (vlC b.k b.n b.q b.s) 23).alloc (.cells #[.int .i64 a.k, .int .i64 a.n, .int .i64 a.q, .string a.s, .int .i64 b.k, .int .i64 b.n, .int .i64 b.q, .string b.s] 23)).keep hb1); clear hb1)
      go_loopw [7] (fun v wr => ∃ j : Nat, j ≤ 0 ∧ v = .int .i64 j ∧ Row wr w.heap.size (vlC a.k a.n a.q a.s) 23 ∧ Row wr (w.heap.size + 1) (vlC b.k b.n b.q b.s) 23 ∧ Below w.heap.size w wr) (fun v _ => a.s.size - (intOf v).toNat)
      case atStart => exact ⟨0, Nat.le_refl _, rfl, S1.out, T1.out, B1.out⟩
      case round =>
        obtain ⟨j, hj, rfl, hS, hT, hB⟩ := hrel
        obtain ⟨x0, x1, x2, x3⟩ := hS.four
        obtain ⟨y0, y1, y2, y3⟩ := hT.four
        obtain rfl : j = 0 := by omega
        have HB := Lib.hid hB
        clear hB
        by_cases hl0 : 0 < a.s.size
        all_goals
          go_wp2
          go_ret2
          exact ⟨by rw [HL.out]; rfl, HB.out⟩
    · have e2 : ¬ b.s.toList = [] := fun e => hp (by rw [← lsz, ← ByteArray.toList_eq, e]; rfl)
      have e1 : (b.s.toList == []) = false := by simpa using e2
      have e3 : (!b.s.toList.isEmpty) = true := by simpa using e2
      have HP := Lib.hid hp
      clear hp
      go_enter Try.func18, Try.ntmps18
      go_wp2_with (go_at_call 68; refine (rStr2_any a b (w.heap.size + 1 + 1) 2 _ H1.out H2.out (VlsAt.two (Row.new3 _ _ _ _ _)) (by simp)).mono ?_; rw [HE.out]; rintro e w1 ⟨rfl, hb1⟩; have B1 := Lib.hid (bl_box3 (Below.refl _ w) hb1); have S1 := Lib.hid ((((Row.new w (vlC a.k a.n a.q a.s) 23).alloc (.cells (vlC b.k b.n b.q b.s) 23)).alloc (.cells #[.int .i64 a.k, .int .i64 a.n, .int .i64 a.q, .string a.s, .int .i64 b.k, .int .i64 b.n, .int .i64 b.q, .string b.s] 23)).keep hb1); have T1 := Lib.hid (((Row.new2 w (.cells (vlC a.k a.n a.q a.s) 23) (vlC b.k b.n b.q b.s) 23).alloc (.cells #[.int .i64 a.k, .int .i64 a.n, .int .i64 a.q, .string a.s, .int .i64 b.k, .int .i64 b.n, .int .i64 b.q, .string b.s] 23)).keep hb1); clear hb1)
      go_loopw [7] (fun v wr => ∃ j : Nat, j ≤ a.s.size ∧ v = .int .i64 j ∧ Hid (∀ i, i < j → (begsP a.s.data.toList b.s.data.toList) i = false) ∧ Row wr w.heap.size (vlC a.k a.n a.q a.s) 23 ∧ Row wr (w.heap.size + 1) (vlC b.k b.n b.q b.s) 23 ∧ Below w.heap.size w wr) (fun v _ => a.s.size - (intOf v).toNat)
      case atStart => exact ⟨0, Nat.zero_le _, rfl, fun i hi => absurd hi (Nat.not_lt_zero _), S1.out, T1.out, B1.out⟩
      case round =>
        obtain ⟨j, hj, rfl, HF, hS, hT, hB⟩ := hrel
        obtain ⟨x0, x1, x2, x3⟩ := hS.four
        obtain ⟨y0, y1, y2, y3⟩ := hT.four
        have HB := Lib.hid hB
        clear hB
        by_cases hlt : j < a.s.size
        · cases hq : (begsP a.s.data.toList b.s.data.toList) j with
          | true =>
            have HQ := Lib.hid hq
            clear hq
            have HL := Lib.hid (leastN_at HF.out HQ.out a.s.size hlt)
            go_wp2_with (go_at_call 77; refine (at_any _ _ _ _ la lb (by omega) HP.out).mono ?_; rw [HQ.out]; rintro e w2 ⟨rfl, rfl⟩)
            go_ret2
            exact ⟨by rw [HL.out]; rfl, HB.out⟩
          | false =>
            have HQ := Lib.hid hq
            clear hq
            go_wp2_with (go_at_call 77; refine (at_any _ _ _ _ la lb (by omega) HP.out).mono ?_; rw [HQ.out]; rintro e w2 ⟨rfl, rfl⟩)
            go_roundw
            case rel => exact ⟨j + 1, by omega, by go_num, fun i hi => by
              by_cases e : i = j
              · rw [e]; exact HQ.out
              · exact HF.out i (by omega), hS, hT, HB.out⟩
            case measure => simp [intOf]; omega
        · have HL := Lib.hid (leastN_zero (p := begsP a.s.data.toList b.s.data.toList) (n := a.s.size) (fun i hi => HF.out i (by omega)))
          go_wp2
          go_ret2
          exact ⟨by rw [HL.out]; rfl, HB.out⟩
  · have e1 : (alikeE a b != 0) = true := by simpa using h0
    have e2 : (alikeE a b == 0) = false := by simpa using h0
    rw [if_neg h0]
    generalize hE : alikeE a b = E at e1 e2 ⊢
    have HE := Lib.hid hE
    clear h0 hE
    go_enter Try.func18, Try.ntmps18
    go_wp2_with (go_at_call 68; refine (rStr2_any a b (w.heap.size + 1 + 1) 2 _ H1.out H2.out (VlsAt.two (Row.new3 _ _ _ _ _)) (by simp)).mono ?_; rw [HE.out]; rintro e w1 ⟨rfl, hb1⟩; have B1 := Lib.hid (bl_box3 (Below.refl _ w) hb1))
    go_ret2
    exact ⟨rfl, B1.out⟩

set_option maxRecDepth 100000 in
set_option maxHeartbeats 2000000 in
theorem rTally_any (a b : Vl) (w : World) (hs : a.s.size ≤ maxLen) (hs' : b.s.size ≤ maxLen) :
    Calls Try.prog 20 #[a.v, b.v] w fun e w' => e = .returned (.tuple #[.int .i64 (if alikeE a b = 0 then tallyV a b else 0), .int .i64 (alikeE a b)]) ∧ Below w.heap.size w w' := by
  have H1 := Lib.hid hs
  have H2 := Lib.hid hs'
  clear hs hs'
  by_cases h0 : alikeE a b = 0
  · obtain ⟨oa, ob, ok⟩ := alikeE_ok h0
    have la := vl_le oa
    have lb := vl_le ob
    have HE := Lib.hid h0
    rw [h0, if_pos rfl]
    clear oa ob ok h0
    unfold tallyV
    by_cases hp : b.s.size = 0
    · have e2 : b.s.toList = [] := by rw [ByteArray.toList_eq]; exact List.eq_nil_of_length_eq_zero (by rw [lsz]; exact hp)
      have e1 : (b.s.toList == []) = true := beq_iff_eq.2 e2
      have HL : Hid (manyN (begsP a.s.data.toList b.s.data.toList) a.s.size = 0) := by
        show _ = _
        exact many_none fun i _ => begsP_e _ _ i hp
      clear hp
      go_enter Try.func20, Try.ntmps20
      go_wp2_with (go_at_call 68; refine (rStr2_any a b (w.heap.size + 1 + 1) 2 _ H1.out H2.out (VlsAt.two (Row.new3 _ _ _ _ _)) (by simp)).mono ?_; rw [HE.out]; rintro e w1 ⟨rfl, hb1⟩; have B1 := Lib.hid (bl_box3 (Below.refl _ w) hb1); have S1 := Lib.hid ((((Row.new w (vlC a.k a.n a.q a.s) 23).alloc (.cells (vlC b.k b.n b.q b.s) 23)).alloc (.cells #[.int .i64 a.k, .int .i64 a.n, .int .i64 a.q, .string a.s, .int .i64 b.k, .int .i64 b.n, .int .i64 b.q, .string b.s] 23)).keep hb1); have T1 := Lib.hid (((Row.new2 w (.cells (vlC a.k a.n a.q a.s) 23) (vlC b.k b.n b.q b.s) 23).alloc (.cells #[.int .i64 a.k, .int .i64 a.n, .int .i64 a.q, .string a.s, .int .i64 b.k, .int .i64 b.n, .int .i64 b.q, .string b.s] 23)).keep hb1); clear hb1)
      go_loopw [7, 8] (fun c v wr => ∃ j : Nat, j ≤ 0 ∧ v = .int .i64 j ∧ c = .int .i64 0 ∧ Row wr w.heap.size (vlC a.k a.n a.q a.s) 23 ∧ Row wr (w.heap.size + 1) (vlC b.k b.n b.q b.s) 23 ∧ Below w.heap.size w wr) (fun _ v _ => a.s.size - (intOf v).toNat)
      case atStart => exact ⟨0, Nat.le_refl _, rfl, rfl, S1.out, T1.out, B1.out⟩
      case round =>
        obtain ⟨j, hj, rfl, rfl, hS, hT, hB⟩ := hrel
        obtain ⟨x0, x1, x2, x3⟩ := hS.four
        obtain ⟨y0, y1, y2, y3⟩ := hT.four
        obtain rfl : j = 0 := by omega
        have HB := Lib.hid hB
        clear hB
        by_cases hl0 : 0 < a.s.size
        all_goals
          go_wp2
          go_ret2
          exact ⟨by rw [HL.out]; rfl, HB.out⟩
    · have e2 : ¬ b.s.toList = [] := fun e => hp (by rw [← lsz, ← ByteArray.toList_eq, e]; rfl)
      have e1 : (b.s.toList == []) = false := by simpa using e2
      have e3 : (!b.s.toList.isEmpty) = true := by simpa using e2
      have HP := Lib.hid hp
      clear hp
      go_enter Try.func20, Try.ntmps20
      go_wp2_with (go_at_call 68; refine (rStr2_any a b (w.heap.size + 1 + 1) 2 _ H1.out H2.out (VlsAt.two (Row.new3 _ _ _ _ _)) (by simp)).mono ?_; rw [HE.out]; rintro e w1 ⟨rfl, hb1⟩; have B1 := Lib.hid (bl_box3 (Below.refl _ w) hb1); have S1 := Lib.hid ((((Row.new w (vlC a.k a.n a.q a.s) 23).alloc (.cells (vlC b.k b.n b.q b.s) 23)).alloc (.cells #[.int .i64 a.k, .int .i64 a.n, .int .i64 a.q, .string a.s, .int .i64 b.k, .int .i64 b.n, .int .i64 b.q, .string b.s] 23)).keep hb1); have T1 := Lib.hid (((Row.new2 w (.cells (vlC a.k a.n a.q a.s) 23) (vlC b.k b.n b.q b.s) 23).alloc (.cells #[.int .i64 a.k, .int .i64 a.n, .int .i64 a.q, .string a.s, .int .i64 b.k, .int .i64 b.n, .int .i64 b.q, .string b.s] 23)).keep hb1); clear hb1)
      go_loopw [7, 8] (fun c v wr => ∃ (m j : Nat), j ≤ a.s.size ∧ v = .int .i64 j ∧ c = .int .i64 m ∧ Hid (m = manyN (begsP a.s.data.toList b.s.data.toList) j) ∧ m ≤ 100000 ∧ Row wr w.heap.size (vlC a.k a.n a.q a.s) 23 ∧ Row wr (w.heap.size + 1) (vlC b.k b.n b.q b.s) 23 ∧ Below w.heap.size w wr) (fun _ v _ => a.s.size - (intOf v).toNat)
      case atStart => exact ⟨0, 0, Nat.zero_le _, rfl, rfl, rfl, by omega, S1.out, T1.out, B1.out⟩
      case round =>
        obtain ⟨m, j, hj, rfl, rfl, HM, hm, hS, hT, hB⟩ := hrel
        obtain ⟨x0, x1, x2, x3⟩ := hS.four
        obtain ⟨y0, y1, y2, y3⟩ := hT.four
        have HB := Lib.hid hB
        clear hB
        by_cases hlt : j < a.s.size
        · have HU := Lib.hid (manyN_succ (begsP a.s.data.toList b.s.data.toList) j)
          have hle := manyN_le (begsP a.s.data.toList b.s.data.toList) j
          rw [← HM.out] at hle
          cases hq : (begsP a.s.data.toList b.s.data.toList) j with
          | true =>
            have HQ := Lib.hid hq
            clear hq
            go_wp2_with (go_at_call 77; refine (at_any _ _ _ _ la lb (by omega) HP.out).mono ?_; rw [HQ.out]; rintro e w2 ⟨rfl, rfl⟩)
            go_roundw
            case rel => exact ⟨m + 1, j + 1, by omega, by go_num, by go_num, by rw [HU.out, HQ.out, ← HM.out]; rfl, by omega, hS, hT, HB.out⟩
            case measure => simp [intOf]; omega
          | false =>
            have HQ := Lib.hid hq
            clear hq
            go_wp2_with (go_at_call 77; refine (at_any _ _ _ _ la lb (by omega) HP.out).mono ?_; rw [HQ.out]; rintro e w2 ⟨rfl, rfl⟩)
            go_roundw
            case rel => exact ⟨m, j + 1, by omega, by go_num, rfl, by rw [HU.out, HQ.out, ← HM.out]; rfl, by omega, hS, hT, HB.out⟩
            case measure => simp [intOf]; omega
        · have hje : j = a.s.size := by omega
          have HJ := Lib.hid hje
          clear hje
          go_wp2
          go_ret2
          exact ⟨by rw [← HJ.out, ← HM.out]; rfl, HB.out⟩
  · have e1 : (alikeE a b != 0) = true := by simpa using h0
    have e2 : (alikeE a b == 0) = false := by simpa using h0
    rw [if_neg h0]
    generalize hE : alikeE a b = E at e1 e2 ⊢
    have HE := Lib.hid hE
    clear h0 hE
    go_enter Try.func20, Try.ntmps20
    go_wp2_with (go_at_call 68; refine (rStr2_any a b (w.heap.size + 1 + 1) 2 _ H1.out H2.out (VlsAt.two (Row.new3 _ _ _ _ _)) (by simp)).mono ?_; rw [HE.out]; rintro e w1 ⟨rfl, hb1⟩; have B1 := Lib.hid (bl_box3 (Below.refl _ w) hb1))
    go_ret2
    exact ⟨rfl, B1.out⟩

set_option maxRecDepth 100000 in
set_option maxHeartbeats 2000000 in
theorem rVerify_any (a b : Vl) (w : World) (hs : a.s.size ≤ maxLen) (hs' : b.s.size ≤ maxLen) :
    Calls Try.prog 22 #[a.v, b.v] w fun e w' => e = .returned (.tuple #[.int .i64 (if alikeE a b = 0 then verifyV a b else 0), .int .i64 (alikeE a b)]) ∧ Below w.heap.size w w' := by
  have H1 := Lib.hid hs
  have H2 := Lib.hid hs'
  clear hs hs'
  by_cases h0 : alikeE a b = 0
  · obtain ⟨oa, ob, ok⟩ := alikeE_ok h0
    have la := vl_le oa
    have lb := vl_le ob
    have HE := Lib.hid h0
    rw [h0, if_pos rfl]
    clear oa ob ok h0
    unfold verifyV
    go_enter Try.func22, Try.ntmps22
    go_wp2_with (go_at_call 68; refine (rStr2_any a b (w.heap.size + 1 + 1) 2 _ H1.out H2.out (VlsAt.two (Row.new3 _ _ _ _ _)) (by simp)).mono ?_; rw [HE.out]; rintro e w1 ⟨rfl, hb1⟩; have B1 := Lib.hid (bl_box3 (Below.refl _ w) hb1); have S1 := Lib.hid ((((Row.new w (vlC a.k a.n a.q a.s) 23).alloc (.cells (vlC b.k b.n b.q b.s) 23)).alloc (.cells #[.int .i64 a.k, .int .i64 a.n, .int .i64 a.q, .string a.s, .int .i64 b.k, .int .i64 b.n, .int .i64 b.q, .string b.s] 23)).keep hb1); have T1 := Lib.hid (((Row.new2 w (.cells (vlC a.k a.n a.q a.s) 23) (vlC b.k b.n b.q b.s) 23).alloc (.cells #[.int .i64 a.k, .int .i64 a.n, .int .i64 a.q, .string a.s, .int .i64 b.k, .int .i64 b.n, .int .i64 b.q, .string b.s] 23)).keep hb1); clear hb1)
    go_loopw [7] (fun v wr => ∃ j : Nat, j ≤ a.s.size ∧ v = .int .i64 j ∧ Hid (∀ i, i < j → (notP (inP a.s.data.toList b.s.data.toList)) i = false) ∧ Row wr w.heap.size (vlC a.k a.n a.q a.s) 23 ∧ Row wr (w.heap.size + 1) (vlC b.k b.n b.q b.s) 23 ∧ Below w.heap.size w wr) (fun v _ => a.s.size - (intOf v).toNat)
    case atStart => exact ⟨0, Nat.zero_le _, rfl, fun i hi => absurd hi (Nat.not_lt_zero _), S1.out, T1.out, B1.out⟩
    case round =>
      obtain ⟨j, hj, rfl, HF, hS, hT, hB⟩ := hrel
      obtain ⟨x0, x1, x2, x3⟩ := hS.four
      obtain ⟨y0, y1, y2, y3⟩ := hT.four
      have HB := Lib.hid hB
      clear hB
      by_cases hlt : j < a.s.size
      · have hx := inN_zero a.s b.s.data.toList j hlt
        cases hq : (notP (inP a.s.data.toList b.s.data.toList)) j with
        | true =>
          have HQ := Lib.hid hq
          rw [hq] at hx
          have hN0 : (0 : Int) ≤ inN b.s.data.toList a.s[j] := by omega
          have hN1 : (inN b.s.data.toList a.s[j] : Int) ≤ 200000 := by have := inN_le b.s.data.toList a.s[j]; rw [lsz] at this; omega
          clear hq
          have HL := Lib.hid (leastN_at HF.out HQ.out a.s.size hlt)
          have i1 : (j : Int) < a.s.size := by omega
          go_wp2
          go_quiet ((go_at_call 83; exact Calls.quiet_of_same (in_any _ _ _ lb)))
          go_wp2
          go_ret2
          exact ⟨by rw [HL.out]; rfl, bl_dN HB.out _⟩
        | false =>
          have HQ := Lib.hid hq
          rw [hq] at hx
          have hN0 : (0 : Int) ≤ inN b.s.data.toList a.s[j] := by omega
          have hN1 : (inN b.s.data.toList a.s[j] : Int) ≤ 200000 := by have := inN_le b.s.data.toList a.s[j]; rw [lsz] at this; omega
          clear hq
          have i1 : (j : Int) < a.s.size := by omega
          go_wp2
          go_quiet ((go_at_call 83; exact Calls.quiet_of_same (in_any _ _ _ lb)))
          go_wp2
          go_roundw
          case rel => exact ⟨j + 1, by omega, by go_num, fun i hi => by
            by_cases e : i = j
            · rw [e]; exact HQ.out
            · exact HF.out i (by omega), hS, hT, bl_dN HB.out _⟩
          case measure => simp [intOf]; omega
      · have HL := Lib.hid (leastN_zero (p := notP (inP a.s.data.toList b.s.data.toList)) (n := a.s.size) (fun i hi => HF.out i (by omega)))
        go_wp2
        go_ret2
        exact ⟨by rw [HL.out]; rfl, HB.out⟩
  · have e1 : (alikeE a b != 0) = true := by simpa using h0
    have e2 : (alikeE a b == 0) = false := by simpa using h0
    rw [if_neg h0]
    generalize hE : alikeE a b = E at e1 e2 ⊢
    have HE := Lib.hid hE
    clear h0 hE
    go_enter Try.func22, Try.ntmps22
    go_wp2_with (go_at_call 68; refine (rStr2_any a b (w.heap.size + 1 + 1) 2 _ H1.out H2.out (VlsAt.two (Row.new3 _ _ _ _ _)) (by simp)).mono ?_; rw [HE.out]; rintro e w1 ⟨rfl, hb1⟩; have B1 := Lib.hid (bl_box3 (Below.refl _ w) hb1))
    go_ret2
    exact ⟨rfl, B1.out⟩

set_option maxRecDepth 100000 in
set_option maxHeartbeats 2000000 in
theorem rSearch_any (a b : Vl) (w : World) (hs : a.s.size ≤ maxLen) (hs' : b.s.size ≤ maxLen) :
    Calls Try.prog 24 #[a.v, b.v] w fun e w' => e = .returned (.tuple #[.int .i64 (if alikeE a b = 0 then searchV a b else 0), .int .i64 (alikeE a b)]) ∧ Below w.heap.size w w' := by
  have H1 := Lib.hid hs
  have H2 := Lib.hid hs'
  clear hs hs'
  by_cases h0 : alikeE a b = 0
  · obtain ⟨oa, ob, ok⟩ := alikeE_ok h0
    have la := vl_le oa
    have lb := vl_le ob
    have HE := Lib.hid h0
    rw [h0, if_pos rfl]
    clear oa ob ok h0
    unfold searchV
    go_enter Try.func24, Try.ntmps24
    go_wp2_with (go_at_call 68; refine (rStr2_any a b (w.heap.size + 1 + 1) 2 _ H1.out H2.out (VlsAt.two (Row.new3 _ _ _ _ _)) (by simp)).mono ?_; rw [HE.out]; rintro e w1 ⟨rfl, hb1⟩; have B1 := Lib.hid (bl_box3 (Below.refl _ w) hb1); have S1 := Lib.hid ((((Row.new w (vlC a.k a.n a.q a.s) 23).alloc (.cells (vlC b.k b.n b.q b.s) 23)).alloc (.cells #[.int .i64 a.k, .int .i64 a.n, .int .i64 a.q, .string a.s, .int .i64 b.k, .int .i64 b.n, .int .i64 b.q, .string b.s] 23)).keep hb1); have T1 := Lib.hid (((Row.new2 w (.cells (vlC a.k a.n a.q a.s) 23) (vlC b.k b.n b.q b.s) 23).alloc (.cells #[.int .i64 a.k, .int .i64 a.n, .int .i64 a.q, .string a.s, .int .i64 b.k, .int .i64 b.n, .int .i64 b.q, .string b.s] 23)).keep hb1); clear hb1)
    go_loopw [7] (fun v wr => ∃ j : Nat, j ≤ a.s.size ∧ v = .int .i64 j ∧ Hid (∀ i, i < j → (inP a.s.data.toList b.s.data.toList) i = false) ∧ Row wr w.heap.size (vlC a.k a.n a.q a.s) 23 ∧ Row wr (w.heap.size + 1) (vlC b.k b.n b.q b.s) 23 ∧ Below w.heap.size w wr) (fun v _ => a.s.size - (intOf v).toNat)
    case atStart => exact ⟨0, Nat.zero_le _, rfl, fun i hi => absurd hi (Nat.not_lt_zero _), S1.out, T1.out, B1.out⟩
    case round =>
      obtain ⟨j, hj, rfl, HF, hS, hT, hB⟩ := hrel
      obtain ⟨x0, x1, x2, x3⟩ := hS.four
      obtain ⟨y0, y1, y2, y3⟩ := hT.four
      have HB := Lib.hid hB
      clear hB
      by_cases hlt : j < a.s.size
      · have hx := inN_pos a.s b.s.data.toList j hlt
        cases hq : (inP a.s.data.toList b.s.data.toList) j with
        | true =>
          have HQ := Lib.hid hq
          rw [hq] at hx
          have hN0 : (0 : Int) ≤ inN b.s.data.toList a.s[j] := by omega
          have hN1 : (inN b.s.data.toList a.s[j] : Int) ≤ 200000 := by have := inN_le b.s.data.toList a.s[j]; rw [lsz] at this; omega
          clear hq
          have HL := Lib.hid (leastN_at HF.out HQ.out a.s.size hlt)
          have i1 : (j : Int) < a.s.size := by omega
          go_wp2
          go_quiet ((go_at_call 83; exact Calls.quiet_of_same (in_any _ _ _ lb)))
          go_wp2
          go_ret2
          exact ⟨by rw [HL.out]; rfl, bl_dN HB.out _⟩
        | false =>
          have HQ := Lib.hid hq
          rw [hq] at hx
          have hN0 : (0 : Int) ≤ inN b.s.data.toList a.s[j] := by omega
          have hN1 : (inN b.s.data.toList a.s[j] : Int) ≤ 200000 := by have := inN_le b.s.data.toList a.s[j]; rw [lsz] at this; omega
          clear hq
          have i1 : (j : Int) < a.s.size := by omega
          go_wp2
          go_quiet ((go_at_call 83; exact Calls.quiet_of_same (in_any _ _ _ lb)))
          go_wp2
          go_roundw
          case rel => exact ⟨j + 1, by omega, by go_num, fun i hi => by
            by_cases e : i = j
            · rw [e]; exact HQ.out
            · exact HF.out i (by omega), hS, hT, bl_dN HB.out _⟩
          case measure => simp [intOf]; omega
      · have HL := Lib.hid (leastN_zero (p := inP a.s.data.toList b.s.data.toList) (n := a.s.size) (fun i hi => HF.out i (by omega)))
        go_wp2
        go_ret2
        exact ⟨by rw [HL.out]; rfl, HB.out⟩
  · have e1 : (alikeE a b != 0) = true := by simpa using h0
    have e2 : (alikeE a b == 0) = false := by simpa using h0
    rw [if_neg h0]
    generalize hE : alikeE a b = E at e1 e2 ⊢
    have HE := Lib.hid hE
    clear h0 hE
    go_enter Try.func24, Try.ntmps24
    go_wp2_with (go_at_call 68; refine (rStr2_any a b (w.heap.size + 1 + 1) 2 _ H1.out H2.out (VlsAt.two (Row.new3 _ _ _ _ _)) (by simp)).mono ?_; rw [HE.out]; rintro e w1 ⟨rfl, hb1⟩; have B1 := Lib.hid (bl_box3 (Below.refl _ w) hb1))
    go_ret2
    exact ⟨rfl, B1.out⟩
end Go.Proofs.Ytgoghblfficfpaa
