/- digit: values and types that are right: what demands let through. -/
import Derived.Test.YtllpldndkojagaaGreatDoorWrdDem
namespace Go.Proofs.YtllpldndkojagaaGreatDoor
open Go.RowKit

/-- It answers true. -/
def YesD (w : World) (e : Ending) (w' : World) : Prop := e = .returned (.bool true) ∧ Below w.heap.size w w'
abbrev emp : ByteArray := ⟨#[]⟩
set_option maxHeartbeats 400000 in
theorem rFixed_yes (m k n q : Int) (w : World) (h1 : -9223372036854775807 ≤ m) (h2 : m ≤ 9223372036854775807) (h : -m < n ∧ n < m) (h' : 0 ≤ q ∧ q ≤ 31) :
    Calls Tryz.prog 77 #[vaV k n q emp, .int .i64 m] w (YesD w) := by
  have H := Lib.hid h; have H' := Lib.hid h'; clear h h'
  go_enter Tryz.func77, Tryz.ntmps77
  go_wp2_with (first
    | (go_at_call 84; refine (below_b true _ _ _ h1 h2 (by simpa using H.out)).mono ?_; rintro e w' ⟨rfl, rfl⟩)
    | (go_at_call 83; refine (within_b true _ _ _ _ (by simpa using H'.out)).mono ?_; rintro e w' ⟨rfl, rfl⟩))
  go_ret
  exact ⟨rfl, by go_grown⟩

set_option maxHeartbeats 400000 in
theorem rDec_yes (k n q : Int) (w : World) (h : -1000000000000000 < n ∧ n < 1000000000000000) (h' : 0 ≤ q ∧ q ≤ 31) :
    Calls Tryz.prog 44 #[vaV k n q emp] w (YesD w) := by
  go_enter Tryz.func44, Tryz.ntmps44
  go_wp2_with (go_at_call 77; refine (rFixed_yes _ _ _ _ _ (by omega) (by omega) h h').mono ?_; rintro e w' ⟨rfl, hb⟩)
  go_ret
  exact ⟨rfl, below_then (by go_grown) hb (by simp)⟩

set_option maxHeartbeats 400000 in
theorem right_2_yes (n q : Int) (w : World) (h : -1000000000000000 < n ∧ n < 1000000000000000) (h' : 0 ≤ q ∧ q ≤ 31) :
    Calls Tryz.prog 34 #[vaV 2 n q emp] w (YesD w) := by
  have hfd := fld_1
  have hn : ∀ (f : Nat) (w : World), (binOp .neq 24 (fnv f) .nilFunc).run Tryz.prog w = .ok (.bool true) w := fun _ _ => by kernel_rfl
  go_enter Tryz.func34, Tryz.ntmps34
  go_wp2_with (first
    | (go_at_call 22; refine (rules_2 _).mono ?_; rintro e w1 ⟨rfl, hb⟩; obtain ⟨hc, hf⟩ := bcell hb)
    | (go_at_call 44; refine (rDec_yes _ _ _ _ h h').mono ?_; rintro e w2 ⟨rfl, hb2⟩))
  go_ret
  exact ⟨rfl, below_then (below_then (by go_grown) hb (by simp)) hb2 (by have := hb.size; simp at this ⊢; omega)⟩

set_option maxHeartbeats 1000000 in
theorem demRight_yes (ts : List Va) (b o cap : Nat) (w : World) (hA : VasAt w b o ts) (hlen : ts.length ≤ 4000000000) (hb : b < w.heap.size) (hR : ∀ t ∈ ts, ∀ W : World, Calls Tryz.prog 34 #[t.v] W (YesD W)) :
    Calls Tryz.prog 20 #[.slice (some ⟨b, o, none⟩) ts.length cap] w fun e w' => e = .returned (.tuple #[]) ∧ Below w.heap.size w w' := by
  have HA := Lib.hid hA
  have HR := Lib.hid hR
  clear hA hR
  go_enter Tryz.func20, Tryz.ntmps20
  go_wp2
  go_loopw [6] (fun i wr => ∃ k : Nat, k ≤ ts.length ∧ i = .int .i64 k ∧ Below w.heap.size w wr) (fun i _ => ts.length - (intOf i).toNat)
  case atStart => exact ⟨0, Nat.zero_le _, rfl, Below.refl _ _⟩
  case round =>
    obtain ⟨k, hk, rfl, hB⟩ := hrel
    by_cases hlt : k < ts.length
    · obtain ⟨kd, n, q, s, ht, c0, c1, c2, c3⟩ := (HA.out.below hb hB).at k hlt
      have HC : Hid (∀ W : World, Calls Tryz.prog 34 #[vaV kd n q s] W (YesD W)) := Lib.hid fun W => by
        have := HR.out _ (List.getElem_mem hlt) W
        rw [ht] at this
        exact this
      have HB := Lib.hid hB
      clear ht hB
      go_wp2_with (go_at_call 34; refine (HC.out _).mono ?_; rintro e w2 ⟨rfl, hb2⟩; have HB2 := Lib.hid (below_then (below_then HB.out (by go_grown) HB.out.size) hb2 (by have := HB.out.size; simp; omega)); clear hb2)
      go_roundw
      case rel => exact ⟨k + 1, by omega, by go_num, HB2.out⟩
      case measure => simp [intOf]; omega
    · have HB := Lib.hid hB
      clear hB
      go_wp2
      go_end0
      exact ⟨rfl, HB.out⟩

set_option maxHeartbeats 400000 in
theorem demValid_yes (k p q n : Int) (vy : Bool) (pic : ByteArray) (w : World) (hs : pic.size ≤ maxLen) (hv : validS k p q n vy pic = true) :
    Calls Tryz.prog 24 #[tyV k p q n vy pic] w fun e w' => e = .returned (.tuple #[]) ∧ Below w.heap.size w w' := by
  have HV : Hid (∀ W, Calls Tryz.prog 67 #[tyV k p q n vy pic] W fun e w' => e = .returned (.bool true) ∧ Below W.heap.size W w') := Lib.hid fun W => by
    have := valid_any k p q n vy pic W hs
    rwa [hv] at this
  clear hv hs
  go_enter Tryz.func24, Tryz.ntmps24
  go_wp2_with (go_at_call 67; refine (HV.out _).mono ?_; rintro e w2 ⟨rfl, hb2⟩)
  go_end0
  exact ⟨rfl, bl_box (Below.refl _ w) hb2⟩
end Go.Proofs.YtllpldndkojagaaGreatDoor
