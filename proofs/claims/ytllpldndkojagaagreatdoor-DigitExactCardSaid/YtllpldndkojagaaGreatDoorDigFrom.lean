/- ironbarkref01.From: the digits of a number from 0 on, in memory of the call's own. ironbarkref01.Trim: a list of digits without zeros at its end is its number's digits. A slice of the call's own that holds digits, and what Trim makes of it. -/
import Derived.Test.YtllpldndkojagaaGreatDoorProg
import Derived.Test.YtllpldndkojagaaGreatDoorDigPure
import Derived.WalkKit
namespace Go.Proofs.YtllpldndkojagaaGreatDoor
open Go.RowKit

theorem Tryz.infoInt : (Tryz.prog.info? 3).map (fun i => (i.zero, i.size, i.bytes)) = some (some (.int .i64 0), 1, 8) := by kernel_rfl

/-- Digits as cells. -/
abbrev dcells (l : List Nat) : List Value := l.map fun d : Nat => Value.int .i64 (d : Int)

theorem from_keep {B m : Nat} {l : List Nat} {w wr w1 : World} {v v' : Value} {o : Obj} (hB : B ≤ wr.heap.size)
    (hown : wr.ownsRow B 3 1 v l.length (dcells l)) (hnx : Below B w wr) (d : Int) (hd : d = ((m % 10 : Nat) : Int))
    (hown' : w1.ownsRow B 3 1 v' (l.length + 1) (dcells l ++ [.int .i64 d])) (hgrow : (wr.alloc o).grownBy w1 v.ownBlock) :
    w1.ownsRow B 3 1 v' (l ++ [m % 10]).length (dcells (l ++ [m % 10])) ∧ Below B w w1 := by
  subst hd
  refine ⟨by simpa [dcells] using hown', (hnx.alloc (by omega) o).grown hgrow (by simp; omega) (fun j hj => (hown.lt j hj).1)⟩

set_option maxHeartbeats 1600000 in
set_option maxRecDepth 100000 in
theorem from_any (n : Nat) (w : World) (hn : n < 9223372036854775808) :
    Calls Tryz.prog 16 #[.int .i64 (n : Int)] w fun e w' => ∃ v, e = .returned v ∧ w'.ownsRow w.heap.size 3 1 v (digs n).length (dcells (digs n)) ∧ Below w.heap.size w w' := by
  obtain ⟨i0, hi, hz0, hz1, hz2⟩ := info_parts Tryz.infoInt
  have hlen := digs_length n 19 (by omega)
  go_enter Tryz.func16, Tryz.ntmps16
  go_wp2
  go_loopw [0, 3] (fun i v wr => ∃ (m : Nat) (l : List Nat), i = .int .i64 (m : Int) ∧ m ≤ n ∧ l ++ digs m = digs n ∧ wr.ownsRow w.heap.size 3 1 v l.length (dcells l) ∧ Below w.heap.size w wr)
    (fun i _ _ => (intOf i).toNat)
  case atStart => exact ⟨n, [], rfl, Nat.le_refl _, rfl, World.ownsRow_nil _ _ _ _, Below.refl _ _⟩
  case round =>
    obtain ⟨m, l, rfl, hm, hl, hown, hnx⟩ := hrel
    have hll : l.length ≤ 19 := by have := congrArg List.length hl; rw [List.length_append] at this; omega
    have hsz := hnx.size
    have hmod : ((m : Int).tmod 10) = ((m % 10 : Nat) : Int) := by rw [Int.tmod_eq_emod_of_nonneg (by omega)]; omega
    have hdiv : ((m : Int).tdiv 10) = ((m / 10 : Nat) : Int) := by rw [Int.tdiv_eq_ediv_of_nonneg (by omega)]; omega
    go_wp2_with (at_builtin; refine wpList_append_own _ rfl _ _ 46 rfl w.heap.size 3 i0 (.int .i64 0) 1 8 Tryz.underlying46 hi hz0 hz1 hz2 rfl (by decide) _ _ _ rfl (hown.alloc _) ⟨wr.heap.size, 0, none⟩ 1 1 [.int .i64 ((m : Int).tmod 10)] rfl rfl ?c1 ?c2 ?c3 ?c4 ?c5 ?_)
    case c1 =>
      intro j u hj
      match j, hj with
      | 0, hj => simp at hj; subst hj; simp [Addr.add]; exact (Int.tmod_eq_emod_of_nonneg (by omega)).symm
    case c2 => intro u hu; simp at hu; subst hu; rfl
    case c3 => unfold maxLen; omega
    case c4 => omega
    case c5 => simp; omega
    · intro v' w1 hown' hgrow _
      have hpos : 0 < m := by omega
      have R := from_keep (m := m) hsz hown hnx _ hmod hown' hgrow
      clear hown' hgrow hown
      go_wp2
      go_roundw
      case rel => exact ⟨m / 10, l ++ [m % 10], by rw [show ((m / 10 : Nat) : Int) = (m : Int) / 10 by omega], by omega, by rw [List.append_assoc, List.singleton_append, ← digs_pos m hpos]; exact hl, R.1, R.2⟩
      case measure => simp [intOf]; omega
    · have h0 : m = 0 := by omega
      subst h0
      rw [digs_zero, List.append_nil] at hl
      subst hl
      go_ret
      exact ⟨_, rfl, hown, hnx⟩
end Go.Proofs.YtllpldndkojagaaGreatDoor
namespace Go.Proofs.YtllpldndkojagaaGreatDoor
open Go.RowKit

theorem take_of_val {l : List Nat} {k : Nat} (hd : Digs l) (hk : k ≤ l.length) (hv : val (l.take k) = val l) (h : ∀ h0 : 0 < k, l[k - 1] ≠ 0) : digs (val l) = l.take k := by
  rw [← hv]
  refine digs_val (hd.take k) (neat_of_last ?_)
  intro h0
  rw [List.length_take_of_le hk] at h0
  have := h h0
  simpa [List.length_take_of_le hk] using this

theorem trim_step {l : List Nat} {k : Nat} (hk : k ≤ l.length) (h0 : 0 < k) (hz : l[k - 1] = 0) (hv : val (l.take k) = val l) : val (l.take (k - 1)) = val l := by
  have := val_take_succ l (k - 1) (by omega)
  rw [show k - 1 + 1 = k by omega, hz, Nat.mul_zero, Nat.add_zero] at this
  rw [← this]; exact hv

end Go.Proofs.YtllpldndkojagaaGreatDoor
namespace Go.Proofs.YtllpldndkojagaaGreatDoor
open Go.RowKit

theorem trimmed_take {l : List Nat} (hd : Digs l) : ∀ m, m ≤ l.length → val (l.take m) = val l → ∃ k, k ≤ l.length ∧ digs (val l) = l.take k
  | 0, hm, hv => ⟨0, Nat.zero_le _, take_of_val hd hm hv fun h => absurd h (by decide)⟩
  | m + 1, hm, hv => by
    by_cases hz : l[m]'(by omega) = 0
    · exact trimmed_take hd m (by omega) (by simpa using trim_step hm (by omega) (by simpa using hz) hv)
    · exact ⟨m + 1, hm, take_of_val hd hm hv fun _ => by simpa using hz⟩

theorem digs_take {l : List Nat} (hd : Digs l) : (digs (val l)).length ≤ l.length ∧ digs (val l) = l.take (digs (val l)).length := by
  obtain ⟨k, hk, e⟩ := trimmed_take hd l.length (Nat.le_refl _) (by rw [List.take_length])
  have el : (digs (val l)).length = k := by rw [e]; exact List.length_take_of_le hk
  exact ⟨by omega, by rw [el]; exact e⟩

theorem add_head (g j : Nat) : (⟨g, 0, none⟩ : Addr).add j = ⟨g, j, none⟩ := by unfold Addr.add; split <;> simp_all

/-- What Trim asks of a slice of the call's own, and what it then holds. -/
theorem own_trim {B : Nat} {w : World} {v : Value} {l : List Nat} (h : w.ownsRow B 3 1 v l.length (dcells l)) (hd : Digs l) :
    ∃ p b cap, v = .slice p l.length cap ∧ (0 < l.length → p = some ⟨b, 0, none⟩) ∧ (p = none ∨ p = some ⟨b, 0, none⟩) ∧ l.length ≤ cap ∧ (p = none → cap = 0) ∧
      (∀ j (hj : j < l.length), w.cell? ⟨b, j, none⟩ = some (.int .i64 (l[j] : Int))) ∧
      w.ownsRow B 3 1 (.slice p (digs (val l)).length cap) (digs (val l)).length (dcells (digs (val l))) := by
  obtain ⟨hle, ht⟩ := digs_take hd
  rcases h.2 with ⟨rfl, h0⟩ | ⟨g, cap, cur, rfl, hB, hg, hn, hm, hs, htk⟩
  · have : l = [] := List.length_eq_zero_iff.1 h0
    subst this
    have e : digs (val []) = [] := digs_zero
    refine ⟨none, 0, 0, rfl, fun h => absurd h (by decide), .inl rfl, Nat.le_refl _, fun _ => rfl, fun j hj => absurd hj (by simp), ?_⟩
    rw [e]
    exact World.ownsRow_nil _ _ _ _
  · refine ⟨some ⟨g, 0, none⟩, g, cap, rfl, fun _ => rfl, .inr rfl, hn, fun h => by simp at h, ?_, ?_, .inr ⟨g, cap, cur, rfl, hB, hg, by omega, hm, hs, ?_⟩⟩
    · intro j hj
      have := h.cells (g := g) rfl j (.int .i64 (l[j] : Int)) (by simp [dcells, List.getElem?_eq_getElem hj])
      rw [add_head] at this; exact this
    · simp [dcells]
    · rw [Nat.mul_one]
      rw [Nat.mul_one] at htk
      have : cur.toList.take (digs (val l)).length = (cur.toList.take l.length).take (digs (val l)).length := by rw [List.take_take, Nat.min_eq_left hle]
      rw [this, htk]
      show (dcells l).take _ = dcells (digs (val l))
      conv => rhs; rw [ht]
      rw [dcells, dcells, List.map_take]

end Go.Proofs.YtllpldndkojagaaGreatDoor
