/- The document's Some, Every, Bool, Not, And, Or, Xor. -/
import Derived.Test.YtgoghblfficfpaaBitRFind
import Derived.Test.YtgoghblfficfpaaBitRSub
import Derived.Test.YtgoghblfficfpaaBitRCmp
import Derived.Test.YtgoghblfficfpaaBitSetSub
import Derived.Test.YtgoghblfficfpaaBitBool1
namespace Go.Proofs.Ytgoghblfficfpaa
open Go.RowKit

theorem bl_four {w w1 w2 : World} {o o' o'' o3 : Obj} (h1 : Below w.heap.size w w1) (h2 : Below ((((w1.alloc o).alloc o').alloc o'').alloc o3).heap.size ((((w1.alloc o).alloc o').alloc o'').alloc o3) w2) : Below w.heap.size w w2 := bl_box3 (h1.alloc h1.size o) h2

set_option maxRecDepth 100000 in
set_option maxHeartbeats 1000000 in
theorem digBits_any (s : ByteArray) (w : World) (hl : (s.size : Int) ≤ 100000) :
    Calls Try.prog 107 #[.string s] w fun e w' => e = .returned (.bool (allK 5 s)) ∧ w' = w := by
  go_enter Try.func107, Try.ntmps107
  go_wp2
  go_loop [3] (fun i => ∃ k : Nat, k ≤ s.size ∧ i = .int .i64 k ∧ Hid ((s.data.toList.take k).all (okC 5) = true)) (fun i => s.size - (intOf i).toNat)
  case atStart => exact ⟨0, Nat.zero_le _, rfl, rfl⟩
  case round =>
    obtain ⟨k, hk, rfl, HT⟩ := hrel
    by_cases hlt : k < s.size
    · have hsn := take_snoc s k hlt
      have HS := Lib.hid hsn
      clear hsn
      cases hc : okC 5 s[k] with
      | true =>
        have HC := Lib.hid hc
        have hv := (ok5_iff _).1 hc
        clear hc
        rcases hv with h | h
        · have e1 : ((s[k].toNat : Int) != 48) = false := by rw [h]; rfl
          clear h
          go_wp2
          go_round
          case rel => exact ⟨k + 1, by omega, by go_num, all_snoc HS.out HT.out HC.out⟩
          case measure => simp [intOf]; omega
        · have e1 : ((s[k].toNat : Int) != 48) = true := by rw [h]; rfl
          have e2 : ((s[k].toNat : Int) != 49) = false := by rw [h]; rfl
          clear h
          go_wp2
          go_round
          case rel => exact ⟨k + 1, by omega, by go_num, all_snoc HS.out HT.out HC.out⟩
          case measure => simp [intOf]; omega
      | false =>
        have hfin : allK 5 s = false := by
          rw [allK, List.all_eq_false]
          exact ⟨s[k], get_mem s k hlt, by rw [hc]; decide⟩
        have HF := Lib.hid hfin
        have hn : ¬ ((s[k].toNat : Int) = 48 ∨ (s[k].toNat : Int) = 49) := fun e => by rw [(ok5_iff _).2 e] at hc; cases hc
        have e1 : ((s[k].toNat : Int) != 48) = true := by simp only [bne_iff_ne]; omega
        have e2 : ((s[k].toNat : Int) != 49) = true := by simp only [bne_iff_ne]; omega
        clear hfin hc hn
        go_wp2
        go_ret
        exact ⟨ret_bool HF.out.symm, rfl⟩
    · have hfin : s.data.toList.take k = s.data.toList := List.take_of_length_le (by rw [lsz]; omega)
      have HF := Lib.hid hfin
      clear hfin
      go_wp2
      go_ret
      exact ⟨ret_bool (by rw [allK, ← HF.out, HT.out]), rfl⟩

theorem inL_pos (l : List UInt8) (c : UInt8) : decide (0 < inN l c) = l.contains c := by
  unfold inN
  cases h : l.contains c with
  | true => rw [if_pos rfl, decide_eq_true_eq]; omega
  | false => rw [if_neg (by decide)]; rfl
theorem inL_zero (l : List UInt8) (c : UInt8) : (((inN l c : Nat) : Int) == 0) = !l.contains c := by
  unfold inN
  cases h : l.contains c with
  | true => rw [if_pos rfl]; simp; omega
  | false => rw [if_neg (by decide)]; rfl

set_option maxRecDepth 100000 in
set_option maxHeartbeats 2000000 in
theorem rSome_any (a : Vl) (w : World) (hs : a.s.size ≤ maxLen) :
    Calls Try.prog 47 #[a.v] w fun e w' => e = .returned (.tuple #[.bool (decide (kindE1 5 a = 0) && someB a), .int .i64 (kindE1 5 a)]) ∧ Below w.heap.size w w' := by
  have H1 := Lib.hid hs
  clear hs
  have RA := (Row.new w (vlC a.k a.n a.q a.s) 23).alloc (.cells #[.int .i64 a.k, .int .i64 a.n, .int .i64 a.q, .string a.s] 23)
  have RS := Row.new2 w (.cells (vlC a.k a.n a.q a.s) 23) #[.int .i64 a.k, .int .i64 a.n, .int .i64 a.q, .string a.s] 23
  by_cases h0 : kindE1 5 a = 0
  · obtain ⟨oa, ok⟩ := kindE1_ok h0
    have la := Lib.hid (vl_le oa)
    have HE := Lib.hid h0
    have HF : Hid (decide (0 < inN a.s.data.toList 49) = someB a) := Lib.hid (inL_pos _ _)
    rw [h0]
    clear oa ok h0
    show Calls _ _ _ _ fun e w' => e = .returned (.tuple #[.bool (someB a), .int .i64 0]) ∧ Below w.heap.size w w'
    go_enter Try.func47, Try.ntmps47
    go_wp2_with (first
      | (go_at_call 68; refine (rStr1k_any 5 (by decide) a (w.heap.size + 1) 1 _ H1.out (VlsAt.one RS) (by simp)).mono ?_; rw [HE.out]; rintro e w1 ⟨rfl, hb1⟩; have B1 := Lib.hid (bl_box2 (Below.refl _ w) hb1); have S1 := RA.keep hb1; obtain ⟨x0, x1, x2, x3⟩ := S1.four)
      | (go_at_call 83; refine (in_any a.s 49 _ la.out).mono ?_; rintro e w2 ⟨rfl, rfl⟩))
    go_ret2
    exact ⟨by rw [← HF.out]; rfl, B1.out⟩
  · have HE : Hid ((kindE1 5 a != 0) = true) := Lib.hid (by simpa using h0)
    have hd : decide (kindE1 5 a = 0) = false := decide_eq_false h0
    rw [hd, Bool.false_and]
    have e1 := HE.out
    have e2 : (kindE1 5 a == 0) = false := by simpa using h0
    clear h0 hd
    go_enter Try.func47, Try.ntmps47
    go_wp2_with (go_at_call 68; refine (rStr1k_any 5 (by decide) a (w.heap.size + 1) 1 _ H1.out (VlsAt.one RS) (by simp)).mono ?_; rintro e w1 ⟨rfl, hb1⟩; have B1 := Lib.hid (bl_box2 (Below.refl _ w) hb1))
    go_ret2
    exact ⟨rfl, B1.out⟩

set_option maxRecDepth 100000 in
set_option maxHeartbeats 2000000 in
theorem rEvery_any (a : Vl) (w : World) (hs : a.s.size ≤ maxLen) :
    Calls Try.prog 49 #[a.v] w fun e w' => e = .returned (.tuple #[.bool (decide (kindE1 5 a = 0) && everyB a), .int .i64 (kindE1 5 a)]) ∧ Below w.heap.size w w' := by
  have H1 := Lib.hid hs
  clear hs
  have RA := (Row.new w (vlC a.k a.n a.q a.s) 23).alloc (.cells #[.int .i64 a.k, .int .i64 a.n, .int .i64 a.q, .string a.s] 23)
  have RS := Row.new2 w (.cells (vlC a.k a.n a.q a.s) 23) #[.int .i64 a.k, .int .i64 a.n, .int .i64 a.q, .string a.s] 23
  by_cases h0 : kindE1 5 a = 0
  · obtain ⟨oa, ok⟩ := kindE1_ok h0
    have la := Lib.hid (vl_le oa)
    have HE := Lib.hid h0
    have HF : Hid ((((inN a.s.data.toList 48 : Nat) : Int) == 0) = everyB a) := Lib.hid (inL_zero _ _)
    rw [h0]
    clear oa ok h0
    show Calls _ _ _ _ fun e w' => e = .returned (.tuple #[.bool (everyB a), .int .i64 0]) ∧ Below w.heap.size w w'
    go_enter Try.func49, Try.ntmps49
    go_wp2_with (first
      | (go_at_call 68; refine (rStr1k_any 5 (by decide) a (w.heap.size + 1) 1 _ H1.out (VlsAt.one RS) (by simp)).mono ?_; rw [HE.out]; rintro e w1 ⟨rfl, hb1⟩; have B1 := Lib.hid (bl_box2 (Below.refl _ w) hb1); have S1 := RA.keep hb1; obtain ⟨x0, x1, x2, x3⟩ := S1.four)
      | (go_at_call 83; refine (in_any a.s 48 _ la.out).mono ?_; rintro e w2 ⟨rfl, rfl⟩))
    go_ret2
    exact ⟨by rw [← HF.out]; rfl, B1.out⟩
  · have HE : Hid ((kindE1 5 a != 0) = true) := Lib.hid (by simpa using h0)
    have hd : decide (kindE1 5 a = 0) = false := decide_eq_false h0
    rw [hd, Bool.false_and]
    have e1 := HE.out
    have e2 : (kindE1 5 a == 0) = false := by simpa using h0
    clear h0 hd
    go_enter Try.func49, Try.ntmps49
    go_wp2_with (go_at_call 68; refine (rStr1k_any 5 (by decide) a (w.heap.size + 1) 1 _ H1.out (VlsAt.one RS) (by simp)).mono ?_; rintro e w1 ⟨rfl, hb1⟩; have B1 := Lib.hid (bl_box2 (Below.refl _ w) hb1))
    go_ret2
    exact ⟨rfl, B1.out⟩
end Go.Proofs.Ytgoghblfficfpaa
