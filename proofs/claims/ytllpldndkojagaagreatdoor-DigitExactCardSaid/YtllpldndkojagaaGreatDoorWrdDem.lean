/- digit.demandRight over a slice of values. -/
import Derived.Test.YtllpldndkojagaaGreatDoorWrdRight
namespace Go.Proofs.YtllpldndkojagaaGreatDoor
open Go.RowKit

/-- A value of layer 1, its fields. -/
structure Va where
  k : Int
  n : Int
  q : Int
  s : ByteArray
abbrev Va.v (t : Va) : Value := vaV t.k t.n t.q t.s
abbrev Va.cells (t : Va) : List Value := [.int .i64 t.k, .int .i64 t.n, .int .i64 t.q, .string t.s]
/-- The values lie in block b from offset o on, one behind the other. -/
def VasAt (w : World) (b o : Nat) (ts : List Va) : Prop := ∀ (i : Nat) (h : i < ts.length), w.rangeAt b (o + i * 4) (ts[i]).cells
theorem VasAt.below {w w' : World} {b o : Nat} {ts : List Va} (h : VasAt w b o ts) (hb : b < w.heap.size) (hB : Below w.heap.size w w') : VasAt w' b o ts := by
  intro i hi j v hv
  exact (hB.cell (p := ⟨b, o + i * 4 + j, none⟩) hb).trans (h i hi j v hv)
theorem VasAt.at {w : World} {b o : Nat} {ts : List Va} (h : VasAt w b o ts) (k : Nat) (hk : k < ts.length) :
    ∃ (kd n q : Int) (s : ByteArray), ts[k] = ⟨kd, n, q, s⟩ ∧
      w.cell? ⟨b, o + k * 4, none⟩ = some (.int .i64 kd) ∧ w.cell? ⟨b, o + k * 4 + 1, none⟩ = some (.int .i64 n) ∧ w.cell? ⟨b, o + k * 4 + 2, none⟩ = some (.int .i64 q) ∧
      w.cell? ⟨b, o + k * 4 + 3, none⟩ = some (.string s) :=
  ⟨_, _, _, _, rfl, h k hk 0 _ rfl, h k hk 1 _ rfl, h k hk 2 _ rfl, h k hk 3 _ rfl⟩
theorem size_va : (Tryz.prog.info? 23).map (·.size) = some 4 := by kernel_rfl
/-- How demandRight ends. -/
def DemD (ts : List Va) (P : Va → Prop) (w : World) (e : Ending) (w' : World) : Prop := (e = .returned (.tuple #[]) ∧ (∀ t ∈ ts, P t) ∨ e = dRef 1) ∧ Below w.heap.size w w'
theorem all_end {ts : List Va} {P : Va → Prop} {k : Nat} (hk : ∀ (j : Nat) (h : j < ts.length), j < k → P (ts[j])) (hn : ¬ k < ts.length) : ∀ t ∈ ts, P t := by
  intro t ht
  obtain ⟨j, hj, rfl⟩ := List.getElem_of_mem ht
  exact hk j hj (by omega)
theorem all_step {ts : List Va} {P : Va → Prop} {k : Nat} (hk : ∀ (j : Nat) (h : j < ts.length), j < k → P (ts[j])) (hlt : k < ts.length) (h : P (ts[k])) : ∀ (j : Nat) (h : j < ts.length), j < k + 1 → P (ts[j]) := by
  intro j hj hjk
  by_cases e : j = k
  · subst e; exact h
  · exact hk j hj (by omega)

set_option maxHeartbeats 1000000 in
theorem demRight (ts : List Va) (P : Va → Prop) (b o cap : Nat) (w : World) (hA : VasAt w b o ts) (hlen : ts.length ≤ 4000000000) (hb : b < w.heap.size) (hR : ∀ t ∈ ts, ∀ W : World, Calls Tryz.prog 34 #[t.v] W (SomeD (P t) W)) :
    Calls Tryz.prog 20 #[.slice (some ⟨b, o, none⟩) ts.length cap] w (DemD ts P w) := by
  have HA := Lib.hid hA
  have HR := Lib.hid hR
  clear hA hR
  go_enter Tryz.func20, Tryz.ntmps20
  go_wp2
  go_loopw [6] (fun i wr => ∃ k : Nat, k ≤ ts.length ∧ i = .int .i64 k ∧ Below w.heap.size w wr ∧ Hid (∀ (j : Nat) (h : j < ts.length), j < k → P (ts[j]))) (fun i _ => ts.length - (intOf i).toNat)
  case atStart => exact ⟨0, Nat.zero_le _, rfl, Below.refl _ _, fun j h hj => absurd hj (Nat.not_lt_zero _)⟩
  case round =>
    obtain ⟨k, hk, rfl, hB, HF⟩ := hrel
    by_cases hlt : k < ts.length
    · obtain ⟨kd, n, q, s, ht, c0, c1, c2, c3⟩ := (HA.out.below hb hB).at k hlt
      have HC : Hid (∀ W : World, Calls Tryz.prog 34 #[vaV kd n q s] W (SomeD (P (ts[k])) W)) := Lib.hid fun W => by
        have := HR.out _ (List.getElem_mem hlt) W
        rw [ht] at this ⊢
        exact this
      have HB := Lib.hid hB
      clear ht hB
      go_wp2_with (first
        | (go_at_call 34; refine (HC.out _).mono ?_; rintro e w2 ⟨r, rfl, hr, hb2⟩; have HRr := Lib.hid hr; clear hr; have HB2 := Lib.hid (below_then (below_then HB.out (by go_grown) HB.out.size) hb2 (by have := HB.out.size; simp; omega)); clear hb2; cases r)
        | (go_at_call 35; refine (dRefuse _ _).mono ?_; rintro e w3 ⟨rfl, rfl⟩))
      all_goals first
        | exact ⟨rfl, Or.inr rfl, HB2.out⟩
        | exact ⟨Or.inr rfl, HB2.out⟩
        | (go_roundw
           case rel => exact ⟨k + 1, by omega, by go_num, HB2.out, all_step HF.out hlt (HRr.out (by first | trivial | rfl))⟩
           case measure => simp [intOf]; omega)
    · have HB := Lib.hid hB
      clear hB
      go_wp2
      go_end0
      exact ⟨Or.inl ⟨rfl, all_end HF.out hlt⟩, HB.out⟩
end Go.Proofs.YtllpldndkojagaaGreatDoor
