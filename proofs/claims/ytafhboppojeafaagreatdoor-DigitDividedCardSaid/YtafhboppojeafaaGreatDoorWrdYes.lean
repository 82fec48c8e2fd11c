/- digit.demandRight over a slice of values. digit: values and types that are right: what demands let through. -/
import Derived.Test.YtafhboppojeafaaGreatDoorWrdRight
namespace Go.Proofs.YtafhboppojeafaaGreatDoor
open Go.RowKit

/-- A value of layer 1, its fields. -/
structure Va where
  k : Int
  n : Int
  q : Int
  s : ByteArray
abbrev Va.v (t : Va) : Value := vaV t.k t.n t.q t.s
abbrev Va.cells (t : Va) : List Value := [.int .i64 t.k, .int .i64 t.n, .int .i64 t.q, .string t.s]
/-- The values lie in block b from offset o on, one behind the other. -/
def VasAt (w : World) (b o : Nat) (ts : List Va) : Prop := ∀ (i : Nat) (h : i < ts.length), w.rangeAt b (o + i * 4) (ts[i]).cells
theorem VasAt.below {w w' : World} {b o : Nat} {ts : List Va} (h : VasAt w b o ts) (hb : b < w.heap.size) (hB : Below w.heap.size w w') : VasAt w' b o ts := by
  intro i hi j v hv
  exact (hB.cell (p := ⟨b, o + i * 4 + j, none⟩) hb).trans (h i hi j v hv)
theorem VasAt.at {w : World} {b o : Nat} {ts : List Va} (h : VasAt w b o ts) (k : Nat) (hk : k < ts.length) :
    ∃ (kd n q : Int) (s : ByteArray), ts[k] = ⟨kd, n, q, s⟩ ∧
      w.cell? ⟨b, o + k * 4, none⟩ = some (.int .i64 kd) ∧ w.cell? ⟨b, o + k * 4 + 1, none⟩ = some (.int .i64 n) ∧ w.cell? ⟨b, o + k * 4 + 2, none⟩ = some (.int .i64 q) ∧
      w.cell? ⟨b, o + k * 4 + 3, none⟩ = some (.string s) :=
  ⟨_, _, _, _, rfl, h k hk 0 _ rfl, h k hk 1 _ rfl, h k hk 2 _ rfl, h k hk 3 _ rfl⟩
theorem size_va : (Tryz.prog.info? 23).map (·.size) = some 4 := by kernel_rfl
/-- How demandRight ends. -/
def DemD (ts : List Va) (P : Va → Prop) (w : World) (e : Ending) (w' : World) : Prop := (e = .returned (.tuple #[]) ∧ (∀ t ∈ ts, P t) ∨ e = dRef 1) ∧ Below w.heap.size w w'
theorem all_end {ts : List Va} {P : Va → Prop} {k : Nat} (hk : ∀ (j : Nat) (h : j < ts.length), j < k → P (ts[j])) (hn : ¬ k < ts.length) : ∀ t ∈ ts, P t := by
  intro t ht
  obtain ⟨j, hj, rfl⟩ := List.getElem_of_mem ht
  exact hk j hj (by omega)
theorem all_step {ts : List Va} {P : Va → Prop} {k : Nat} (hk : ∀ (j : Nat) (h : j < ts.length), j < k → P (ts[j])) (hlt : k < ts.length) (h : P (ts[k])) : ∀ (j : Nat) (h : j < ts.length), j < k + 1 → P (ts[j]) := by
  intro j hj hjk
  by_cases e : j = k
  · subst e; exact h
  · exact hk j hj (by omega)

set_option maxHeartbeats 1000000 in
theorem demRight (ts : List Va) (P : Va → Prop) (b o cap : Nat) (w : World) (hA : VasAt w b o ts) (hlen : ts.length ≤ 4000000000) (hb : b < w.heap.size) (hR : ∀ t ∈ ts, ∀ W : World, Calls Tryz.prog 39 #[t.v] W (SomeD (P t) W)) :
    Calls Tryz.prog 28 #[.slice (some ⟨b, o, none⟩) ts.length cap] w (DemD ts P w) := by
  have HA := Lib.hid hA
  have HR := Lib.hid hR
  clear hA hR
  go_enter Tryz.func28, Tryz.ntmps28
  go_wp2
  go_loopw [6] (fun i wr => ∃ k : Nat, k ≤ ts.length ∧ i = .int .i64 k ∧ Below w.heap.size w wr ∧ Hid (∀ (j : Nat) (h : j < ts.length), j < k → P (ts[j]))) (fun i _ => ts.length - (intOf i).toNat)
  case atStart => exact ⟨0, Nat.zero_le _, rfl, Below.refl _ _, fun j h hj => absurd hj (Nat.not_lt_zero _)⟩
  case round =>
    obtain ⟨k, hk, rfl, hB, HF⟩ := hrel
    by_cases hlt : k < ts.length
    · obtain ⟨kd, n, q, s, ht, c0, c1, c2, c3⟩ := (HA.out.below hb hB).at k hlt
      have HC : Hid (∀ W : World, Calls Tryz.prog 39 #[vaV kd n q s] W (SomeD (P (ts[k])) W)) := Lib.hid fun W => by
        have := HR.out _ (List.getElem_mem hlt) W
        rw [ht] at this ⊢
        exact this
      have HB := Lib.hid hB
      clear ht hB
      go_wp2_with (first
        | (go_at_call 39; refine (HC.out _).mono ?_; rintro e w2 ⟨r, rfl, hr, hb2⟩; have HRr := Lib.hid hr; clear hr; have HB2 := Lib.hid (below_then (below_then HB.out (by go_grown) HB.out.size) hb2 (by have := HB.out.size; simp; omega)); clear hb2; cases r)
        | (go_at_call 40; refine (dRefuse _ _).mono ?_; rintro e w3 ⟨rfl, rfl⟩))
      all_goals first
        | exact ⟨rfl, Or.inr rfl, HB2.out⟩
        | exact ⟨Or.inr rfl, HB2.out⟩
        | (go_roundw
           case rel => exact ⟨k + 1, by omega, by go_num, HB2.out, all_step HF.out hlt (HRr.out (by first | trivial | rfl))⟩
           case measure => simp [intOf]; omega)
    · have HB := Lib.hid hB
      clear hB
      go_wp2
      go_end0
      exact ⟨Or.inl ⟨rfl, all_end HF.out hlt⟩, HB.out⟩
end Go.Proofs.YtafhboppojeafaaGreatDoor
namespace Go.Proofs.YtafhboppojeafaaGreatDoor
open Go.RowKit

/-- It answers true. -/
def YesD (w : World) (e : Ending) (w' : World) : Prop := e = .returned (.bool true) ∧ Below w.heap.size w w'
abbrev emp : ByteArray := ⟨#[]⟩
set_option maxHeartbeats 400000 in
theorem rFixed_yes (m k n q : Int) (w : World) (h1 : -9223372036854775807 ≤ m) (h2 : m ≤ 9223372036854775807) (h : -m < n ∧ n < m) (h' : 0 ≤ q ∧ q ≤ 31) :
    Calls Tryz.prog 78 #[vaV k n q emp, .int .i64 m] w (YesD w) := by
  have H := Lib.hid h; have H' := Lib.hid h'; clear h h'
  go_enter Tryz.func78, Tryz.ntmps78
  go_wp2_with (first
    | (go_at_call 86; refine (below_b true _ _ _ h1 h2 (by simpa using H.out)).mono ?_; rintro e w' ⟨rfl, rfl⟩)
    | (go_at_call 85; refine (within_b true _ _ _ _ (by simpa using H'.out)).mono ?_; rintro e w' ⟨rfl, rfl⟩))
  go_ret
  exact ⟨rfl, by go_grown⟩

set_option maxHeartbeats 400000 in
theorem rDec_yes (k n q : Int) (w : World) (h : -1000000000000000 < n ∧ n < 1000000000000000) (h' : 0 ≤ q ∧ q ≤ 31) :
    Calls Tryz.prog 49 #[vaV k n q emp] w (YesD w) := by
  go_enter Tryz.func49, Tryz.ntmps49
  go_wp2_with (go_at_call 78; refine (rFixed_yes _ _ _ _ _ (by omega) (by omega) h h').mono ?_; rintro e w' ⟨rfl, hb⟩)
  go_ret
  exact ⟨rfl, below_then (by go_grown) hb (by simp)⟩

set_option maxHeartbeats 400000 in
theorem right_2_yes (n q : Int) (w : World) (h : -1000000000000000 < n ∧ n < 1000000000000000) (h' : 0 ≤ q ∧ q ≤ 31) :
    Calls Tryz.prog 39 #[vaV 2 n q emp] w (YesD w) := by
  have hfd := fld_1
  have hn : ∀ (f : Nat) (w : World), (binOp .neq 26 (fnv f) .nilFunc).run Tryz.prog w = .ok (.bool true) w := fun _ _ => by kernel_rfl
  go_enter Tryz.func39, Tryz.ntmps39
  go_wp2_with (first
    | (go_at_call 30; refine (rules_2 _).mono ?_; rintro e w1 ⟨rfl, hb⟩; obtain ⟨hc, hf⟩ := bcell hb)
    | (go_at_call 49; refine (rDec_yes _ _ _ _ h h').mono ?_; rintro e w2 ⟨rfl, hb2⟩))
  go_ret
  exact ⟨rfl, below_then (below_then (by go_grown) hb (by simp)) hb2 (by have := hb.size; simp at this ⊢; omega)⟩

set_option maxHeartbeats 1000000 in
theorem demRight_yes (ts : List Va) (b o cap : Nat) (w : World) (hA : VasAt w b o ts) (hlen : ts.length ≤ 4000000000) (hb : b < w.heap.size) (hR : ∀ t ∈ ts, ∀ W : World, Calls Tryz.prog 39 #[t.v] W (YesD W)) :
    Calls Tryz.prog 28 #[.slice (some ⟨b, o, none⟩) ts.length cap] w fun e w' => e = .returned (.tuple #[]) ∧ Below w.heap.size w w' := by
  have HA := Lib.hid hA
  have HR := Lib.hid hR
  clear hA hR
  go_enter Tryz.func28, Tryz.ntmps28
  go_wp2
  go_loopw [6] (fun i wr => ∃ k : Nat, k ≤ ts.length ∧ i = .int .i64 k ∧ Below w.heap.size w wr) (fun i _ => ts.length - (intOf i).toNat)
  case atStart => exact ⟨0, Nat.zero_le _, rfl, Below.refl _ _⟩
  case round =>
    obtain ⟨k, hk, rfl, hB⟩ := hrel
    by_cases hlt : k < ts.length
    · obtain ⟨kd, n, q, s, ht, c0, c1, c2, c3⟩ := (HA.out.below hb hB).at k hlt
      have HC : Hid (∀ W : World, Calls Tryz.prog 39 #[vaV kd n q s] W (YesD W)) := Lib.hid fun W => by
        have := HR.out _ (List.getElem_mem hlt) W
        rw [ht] at this
        exact this
      have HB := Lib.hid hB
      clear ht hB
      go_wp2_with (go_at_call 39; refine (HC.out _).mono ?_; rintro e w2 ⟨rfl, hb2⟩; have HB2 := Lib.hid (below_then (below_then HB.out (by go_grown) HB.out.size) hb2 (by have := HB.out.size; simp; omega)); clear hb2)
      go_roundw
      case rel => exact ⟨k + 1, by omega, by go_num, HB2.out⟩
      case measure => simp [intOf]; omega
    · have HB := Lib.hid hB
      clear hB
      go_wp2
      go_end0
      exact ⟨rfl, HB.out⟩

set_option maxHeartbeats 400000 in
theorem demValid_yes (k p q n : Int) (vy : Bool) (pic : ByteArray) (w : World) (hs : pic.size ≤ maxLen) (hv : validS k p q n vy pic = true) :
    Calls Tryz.prog 32 #[tyV k p q n vy pic] w fun e w' => e = .returned (.tuple #[]) ∧ Below w.heap.size w w' := by
  have HV : Hid (∀ W, Calls Tryz.prog 72 #[tyV k p q n vy pic] W fun e w' => e = .returned (.bool true) ∧ Below W.heap.size W w') := Lib.hid fun W => by
    have := valid_any k p q n vy pic W hs
    rwa [hv] at this
  clear hv hs
  go_enter Tryz.func32, Tryz.ntmps32
  go_wp2_with (go_at_call 72; refine (HV.out _).mono ?_; rintro e w2 ⟨rfl, hb2⟩)
  go_end0
  exact ⟨rfl, bl_box (Below.refl _ w) hb2⟩
end Go.Proofs.YtafhboppojeafaaGreatDoor
