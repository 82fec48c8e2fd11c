/- Slices of types: demandValid, demandNumbers, demandFixed, refuse (package rule); asked (its specification); light (the law). -/
import Derived.Test.YtbjnglfapgpncaaGreatDoorRule1
import Derived.Test.YtbjnglfapgpncaaGreatDoorRefValid
namespace Go.Proofs.YtbjnglfapgpncaaGreatDoor
open Go.RowKit

/-- A type of layer 1, its fields. -/
structure Ty where
  k : Int
  p : Int
  q : Int
  n : Int
  vy : Bool
  pic : ByteArray

abbrev Ty.v (t : Ty) : Value := tyV t.k t.p t.q t.n t.vy t.pic
abbrev Ty.cells (t : Ty) : List Value := [.int .i64 t.k, .int .i64 t.p, .int .i64 t.q, .int .i64 t.n, .bool t.vy, .string t.pic]
def Ty.ok (t : Ty) : Bool := validS t.k t.p t.q t.n t.vy t.pic

/-- The types lie in block b from offset o on, one behind the other. -/
def TysAt (w : World) (b o : Nat) (ts : List Ty) : Prop := ∀ (i : Nat) (h : i < ts.length), w.rangeAt b (o + i * 6) (ts[i]).cells

theorem TysAt.below {w w' : World} {b o : Nat} {ts : List Ty} (h : TysAt w b o ts) (hb : b < w.heap.size) (hB : Below w.heap.size w w') : TysAt w' b o ts := by
  intro i hi j v hv
  exact (hB.cell (p := ⟨b, o + i * 6 + j, none⟩) hb).trans (h i hi j v hv)

abbrev refusal (n : Int) : Ending := .panicked [{ v := .iface 64 (.int .i64 n), recovered := false }]

set_option maxHeartbeats 400000 in
theorem refuse_any (n : Int) (w : World) :
    Calls Tryz.prog 36 #[.int .i64 n] w fun e w' => e = refusal n ∧ w = w' := by
  go_enter Tryz.func36, Tryz.ntmps36
  go_wp2
  exact ⟨rfl, rfl, rfl⟩

theorem size_ty : (Tryz.prog.info? 25).map (·.size) = some 6 := by kernel_rfl

/-- What lies at place k, in the walk's own spelling. -/
theorem TysAt.at {w : World} {b o : Nat} {ts : List Ty} (h : TysAt w b o ts) (k : Nat) (hk : k < ts.length) :
    ∃ (kd p q n : Int) (vy : Bool) (pic : ByteArray), ts[k] = ⟨kd, p, q, n, vy, pic⟩ ∧
      w.cell? ⟨b, o + k * 6, none⟩ = some (.int .i64 kd) ∧ w.cell? ⟨b, o + k * 6 + 1, none⟩ = some (.int .i64 p) ∧ w.cell? ⟨b, o + k * 6 + 2, none⟩ = some (.int .i64 q) ∧
      w.cell? ⟨b, o + k * 6 + 3, none⟩ = some (.int .i64 n) ∧ w.cell? ⟨b, o + k * 6 + 4, none⟩ = some (.bool vy) ∧ w.cell? ⟨b, o + k * 6 + 5, none⟩ = some (.string pic) :=
  ⟨_, _, _, _, _, _, rfl, h k hk 0 _ rfl, h k hk 1 _ rfl, h k hk 2 _ rfl, h k hk 3 _ rfl, h k hk 4 _ rfl, h k hk 5 _ rfl⟩

theorem valid_b (b : Bool) (k p q n : Int) (vy : Bool) (pic : ByteArray) (w : World) (hs : pic.size ≤ maxLen) (h : validS k p q n vy pic = b) :
    Calls Tryz.prog 40 #[tyV k p q n vy pic] w fun e w' => e = .returned (.bool b) ∧ Below w.heap.size w w' := by
  subst h; exact valid_any k p q n vy pic w hs
theorem refValid_b (b : Bool) (k p q n : Int) (vy : Bool) (pic : ByteArray) (w : World) (hs : pic.size ≤ maxLen) (h : validS k p q n vy pic = b) :
    Calls Tryz.prog 13 #[tyV k p q n vy pic] w fun e w' => e = .returned (.bool b) ∧ Below w.heap.size w w' := by
  subst h; exact refValid_any k p q n vy pic w hs


/-- The first element of which a test is false, or all pass. -/
theorem first_fails {ts : List Ty} {f : Ty → Bool} (h : ¬ ∀ t ∈ ts, f t = true) (k : Nat) (hk : ∀ (j : Nat) (h : j < ts.length), j < k → f (ts[j]) = true) : k < ts.length := by
  apply Decidable.byContradiction
  intro hn
  apply h
  intro t ht
  obtain ⟨j, hj, rfl⟩ := List.getElem_of_mem ht
  exact hk j hj (by omega)
theorem step_ok {ts : List Ty} {f : Ty → Bool} {k : Nat} (hk : ∀ (j : Nat) (h : j < ts.length), j < k → f (ts[j]) = true) (hlt : k < ts.length) (h : f (ts[k]) = true) : ∀ (j : Nat) (h : j < ts.length), j < k + 1 → f (ts[j]) = true := by
  intro j hj hjk
  by_cases e : j = k
  · subst e; exact h
  · exact hk j hj (by omega)

def Ty.num (t : Ty) : Bool := isNumS t.k
def Ty.light (t : Ty) : Bool := decide ((t.pic.size : Int) ≤ 300)

theorem numeric_b (b : Bool) (k : Int) (w : World) (h : isNumS k = b) :
    Calls Tryz.prog 30 #[.int .i64 k] w fun e w' => e = .returned (.bool b) ∧ w = w' := by
  subst h; exact numeric_any k w

set_option maxHeartbeats 1000000 in
theorem demandValid_ok (ts : List Ty) (b o cap : Nat) (w : World) (hA : TysAt w b o ts) (hlen : ts.length ≤ 4000000000) (hb : b < w.heap.size) (hpic : ∀ t ∈ ts, t.pic.size ≤ maxLen) (hv : ∀ t ∈ ts, t.ok = true) :
    Calls Tryz.prog 34 #[.slice (some ⟨b, o, none⟩) ts.length cap] w fun e w' => e = .returned (.tuple #[]) ∧ Below w.heap.size w w' := by
  have HA := Lib.hid hA
  have HV := Lib.hid hv
  have HP := Lib.hid hpic
  clear hA hv hpic
  go_enter Tryz.func34, Tryz.ntmps34
  go_wp2
  go_loopw [6] (fun i wr => ∃ k : Nat, k ≤ ts.length ∧ i = .int .i64 k ∧ Below w.heap.size w wr) (fun i _ => ts.length - (intOf i).toNat)
  case atStart => exact ⟨0, Nat.zero_le _, rfl, Below.refl _ _⟩
  case round =>
    obtain ⟨k, hk, rfl, hB⟩ := hrel
    by_cases hlt : k < ts.length
    · obtain ⟨kd, p, q, n, vy, pic, ht, c0, c1, c2, c3, c4, c5⟩ := (HA.out.below hb hB).at k hlt
      have hmem : ts[k] ∈ ts := List.getElem_mem hlt
      have HT := Lib.hid ht
      have HM := Lib.hid hmem
      have HB := Lib.hid hB
      clear ht hmem hB
      go_wp2_with (go_at_call 40; refine (valid_b true _ _ _ _ _ _ _ (by have := HP.out _ HM.out; rwa [HT.out] at this) (by have := HV.out _ HM.out; rwa [HT.out] at this)).mono ?_; rintro e w2 ⟨rfl, hb2⟩)
      go_roundw
      case rel => exact ⟨k + 1, by omega, by go_num, below_then (below_then HB.out (by go_grown) HB.out.size) hb2 (by have := HB.out.size; simp; omega)⟩
      case measure => simp [intOf]; omega
    · have HB := Lib.hid hB
      clear hB
      go_wp2
      go_end0
      exact ⟨rfl, HB.out⟩

set_option maxHeartbeats 1000000 in
theorem demandValid_no (ts : List Ty) (b o cap : Nat) (w : World) (hA : TysAt w b o ts) (hlen : ts.length ≤ 4000000000) (hb : b < w.heap.size) (hpic : ∀ t ∈ ts, t.pic.size ≤ maxLen) (hv : ¬ ∀ t ∈ ts, t.ok = true) :
    Calls Tryz.prog 34 #[.slice (some ⟨b, o, none⟩) ts.length cap] w fun e w' => e = refusal 13 ∧ Below w.heap.size w w' := by
  have HA := Lib.hid hA
  have HV := Lib.hid hv
  have HP := Lib.hid hpic
  clear hA hv hpic
  go_enter Tryz.func34, Tryz.ntmps34
  go_wp2
  go_loopw [6] (fun i wr => ∃ k : Nat, k ≤ ts.length ∧ i = .int .i64 k ∧ Below w.heap.size w wr ∧ Hid (∀ (j : Nat) (h : j < ts.length), j < k → (ts[j]).ok = true)) (fun i _ => ts.length - (intOf i).toNat)
  case atStart => exact ⟨0, Nat.zero_le _, rfl, Below.refl _ _, fun j h hj => absurd hj (Nat.not_lt_zero _)⟩
  case round =>
    obtain ⟨k, hk, rfl, hB, HF⟩ := hrel
    have hlt : k < ts.length := first_fails HV.out k HF.out
    obtain ⟨kd, p, q, n, vy, pic, ht, c0, c1, c2, c3, c4, c5⟩ := (HA.out.below hb hB).at k hlt
    have hmem : ts[k] ∈ ts := List.getElem_mem hlt
    have HT := Lib.hid ht
    have HM := Lib.hid hmem
    have HB := Lib.hid hB
    clear ht hmem hB
    by_cases hok : (ts[k]).ok = true
    · have HO := Lib.hid hok
      clear hok
      go_wp2_with (go_at_call 40; refine (valid_b true _ _ _ _ _ _ _ (by have := HP.out _ HM.out; rwa [HT.out] at this) (by have := HO.out; rwa [HT.out] at this)).mono ?_; rintro e w2 ⟨rfl, hb2⟩)
      go_roundw
      case rel => exact ⟨k + 1, by omega, by go_num, below_then (below_then HB.out (by go_grown) HB.out.size) hb2 (by have := HB.out.size; simp; omega), step_ok HF.out hlt HO.out⟩
      case measure => simp [intOf]; omega
    · have HO := Lib.hid hok
      clear hok
      go_wp2_with (first
        | (go_at_call 40; refine (valid_b false _ _ _ _ _ _ _ (by have := HP.out _ HM.out; rwa [HT.out] at this) (by have := HO.out; rw [HT.out] at this; simpa [Ty.ok] using this)).mono ?_; rintro e w2 ⟨rfl, hb2⟩)
        | (go_at_call 36; refine (refuse_any _ _).mono ?_; rintro e w3 ⟨rfl, rfl⟩))
      exact ⟨rfl, rfl, below_then (below_then HB.out (by go_grown) HB.out.size) hb2 (by have := HB.out.size; simp; omega)⟩

/- demandNumbers -/
set_option maxHeartbeats 1000000 in
theorem demandNumbers_ok (ts : List Ty) (b o cap : Nat) (w : World) (hA : TysAt w b o ts) (hlen : ts.length ≤ 4000000000) (hb : b < w.heap.size) (hpic : ∀ t ∈ ts, t.pic.size ≤ maxLen) (hv : ∀ t ∈ ts, t.ok = true) (hn : ∀ t ∈ ts, t.num = true) :
    Calls Tryz.prog 22 #[.slice (some ⟨b, o, none⟩) ts.length cap] w fun e w' => e = .returned (.tuple #[]) ∧ Below w.heap.size w w' := by
  have HA := Lib.hid hA
  have HV := Lib.hid hv
  have HN := Lib.hid hn
  have HP := Lib.hid hpic
  clear hA hv hn hpic
  go_enter Tryz.func22, Tryz.ntmps22
  go_wp2_with (go_at_call 34; refine (demandValid_ok ts b o cap _ HA.out hlen hb HP.out HV.out).mono ?_; rintro e w1 ⟨rfl, hb1⟩)
  go_loopw [8] (fun i wr => ∃ k : Nat, k ≤ ts.length ∧ i = .int .i64 k ∧ Below w.heap.size w wr) (fun i _ => ts.length - (intOf i).toNat)
  case atStart => exact ⟨0, Nat.zero_le _, rfl, hb1⟩
  case round =>
    obtain ⟨k, hk, rfl, hB⟩ := hrel
    by_cases hlt : k < ts.length
    · obtain ⟨kd, p, q, n, vy, pic, ht, c0, c1, c2, c3, c4, c5⟩ := (HA.out.below hb hB).at k hlt
      have hmem : ts[k] ∈ ts := List.getElem_mem hlt
      have HT := Lib.hid ht
      have HM := Lib.hid hmem
      have HB := Lib.hid hB
      clear ht hmem hB
      go_wp2_with (go_at_call 35; refine (isNumber_b true _ _ _ _ _ _ _ (by have := HN.out _ HM.out; rwa [HT.out] at this)).mono ?_; rintro e w2 ⟨rfl, hb2⟩)
      go_roundw
      case rel => exact ⟨k + 1, by omega, by go_num, below_then (below_then HB.out (by go_grown) HB.out.size) hb2 (by have := HB.out.size; simp; omega)⟩
      case measure => simp [intOf]; omega
    · have HB := Lib.hid hB
      clear hB
      go_wp2
      go_end0
      exact ⟨rfl, HB.out⟩

set_option maxHeartbeats 1000000 in
theorem demandNumbers_13 (ts : List Ty) (b o cap : Nat) (w : World) (hA : TysAt w b o ts) (hlen : ts.length ≤ 4000000000) (hb : b < w.heap.size) (hpic : ∀ t ∈ ts, t.pic.size ≤ maxLen) (hv : ¬ ∀ t ∈ ts, t.ok = true) :
    Calls Tryz.prog 22 #[.slice (some ⟨b, o, none⟩) ts.length cap] w fun e w' => e = refusal 13 ∧ Below w.heap.size w w' := by
  have HA := Lib.hid hA
  have HV := Lib.hid hv
  have HP := Lib.hid hpic
  clear hA hv hpic
  go_enter Tryz.func22, Tryz.ntmps22
  go_wp2_with (go_at_call 34; refine (demandValid_no ts b o cap _ HA.out hlen hb HP.out HV.out).mono ?_; rintro e w1 ⟨rfl, hb1⟩)
  exact ⟨rfl, rfl, hb1⟩

set_option maxHeartbeats 1000000 in
theorem demandNumbers_10 (ts : List Ty) (b o cap : Nat) (w : World) (hA : TysAt w b o ts) (hlen : ts.length ≤ 4000000000) (hb : b < w.heap.size) (hpic : ∀ t ∈ ts, t.pic.size ≤ maxLen) (hv : ∀ t ∈ ts, t.ok = true) (hn : ¬ ∀ t ∈ ts, t.num = true) :
    Calls Tryz.prog 22 #[.slice (some ⟨b, o, none⟩) ts.length cap] w fun e w' => e = refusal 10 ∧ Below w.heap.size w w' := by
  have HA := Lib.hid hA
  have HV := Lib.hid hv
  have HN := Lib.hid hn
  have HP := Lib.hid hpic
  clear hA hv hn hpic
  go_enter Tryz.func22, Tryz.ntmps22
  go_wp2_with (go_at_call 34; refine (demandValid_ok ts b o cap _ HA.out hlen hb HP.out HV.out).mono ?_; rintro e w1 ⟨rfl, hb1⟩)
  go_loopw [8] (fun i wr => ∃ k : Nat, k ≤ ts.length ∧ i = .int .i64 k ∧ Below w.heap.size w wr ∧ Hid (∀ (j : Nat) (h : j < ts.length), j < k → (ts[j]).num = true)) (fun i _ => ts.length - (intOf i).toNat)
  case atStart => exact ⟨0, Nat.zero_le _, rfl, hb1, fun j h hj => absurd hj (Nat.not_lt_zero _)⟩
  case round =>
    obtain ⟨k, hk, rfl, hB, HF⟩ := hrel
    have hlt : k < ts.length := first_fails HN.out k HF.out
    obtain ⟨kd, p, q, n, vy, pic, ht, c0, c1, c2, c3, c4, c5⟩ := (HA.out.below hb hB).at k hlt
    have hmem : ts[k] ∈ ts := List.getElem_mem hlt
    have HT := Lib.hid ht
    have HM := Lib.hid hmem
    have HB := Lib.hid hB
    clear ht hmem hB
    by_cases hok : (ts[k]).num = true
    · have HO := Lib.hid hok
      clear hok
      go_wp2_with (go_at_call 35; refine (isNumber_b true _ _ _ _ _ _ _ (by have := HO.out; rwa [HT.out] at this)).mono ?_; rintro e w2 ⟨rfl, hb2⟩)
      go_roundw
      case rel => exact ⟨k + 1, by omega, by go_num, below_then (below_then HB.out (by go_grown) HB.out.size) hb2 (by have := HB.out.size; simp; omega), step_ok HF.out hlt HO.out⟩
      case measure => simp [intOf]; omega
    · have HO := Lib.hid hok
      clear hok
      go_wp2_with (first
        | (go_at_call 35; refine (isNumber_b false _ _ _ _ _ _ _ (by have := HO.out; rw [HT.out] at this; simpa [Ty.num] using this)).mono ?_; rintro e w2 ⟨rfl, hb2⟩)
        | (go_at_call 36; refine (refuse_any _ _).mono ?_; rintro e w3 ⟨rfl, rfl⟩))
      exact ⟨rfl, rfl, below_then (below_then HB.out (by go_grown) HB.out.size) hb2 (by have := HB.out.size; simp; omega)⟩

end Go.Proofs.YtbjnglfapgpncaaGreatDoor
