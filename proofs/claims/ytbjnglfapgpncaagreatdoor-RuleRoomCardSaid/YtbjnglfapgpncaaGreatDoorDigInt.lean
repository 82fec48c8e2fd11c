/- ironbarkref01.Int: the number of at most 18 digits; and what the call itself made, as an argument of a later call. -/
import Derived.Test.YtbjnglfapgpncaaGreatDoorDigFrom
import Derived.Lib.Hide
import Derived.WalkSmall
namespace Go.Proofs.YtbjnglfapgpncaaGreatDoor
open Go.RowKit

/-- What a call made, as an argument in a later world that keeps it. -/
theorem own_arg {B : Nat} {w w2 : World} {v : Value} {l : List Nat} (h : w.ownsRow B 3 1 v l.length (dcells l)) (hb : Below w.heap.size w w2) :
    ∃ p b cap, v = .slice p l.length cap ∧ (0 < l.length → p = some ⟨b, 0, none⟩) ∧ l.length ≤ cap ∧
      (∀ j (hj : j < l.length), w2.cell? ⟨b, j, none⟩ = some (.int .i64 (l[j] : Int))) ∧ (0 < l.length → b < w2.heap.size) := by
  have hsz := hb.size
  rcases h.2 with ⟨rfl, h0⟩ | ⟨g, cap, cur, rfl, hB, hg, hn, hm, hs, htk⟩
  · exact ⟨none, 0, 0, by rw [h0], fun hh => absurd hh (by omega), by omega, fun j hj => absurd hj (by omega), fun hh => absurd hh (by omega)⟩
  · have hgl : g < w.heap.size := (Array.getElem?_eq_some_iff.1 hg).1
    refine ⟨some ⟨g, 0, none⟩, g, cap, rfl, fun _ => rfl, hn, ?_, fun _ => by omega⟩
    intro j hj
    have := h.cells (g := g) rfl j (.int .i64 (l[j] : Int)) (by simp [dcells, List.getElem?_eq_getElem hj])
    rw [add_head] at this
    exact (hb.cell hgl).trans this

theorem val_drop_lt {l : List Nat} (hd : Digs l) (h18 : l.length ≤ 18) (k : Nat) (hk : 0 < k) : val (l.drop k) < 100000000000000000 := by
  have h := val_lt (l.drop k) (hd.drop k)
  have : (10 : Nat) ^ (l.drop k).length ≤ 10 ^ 17 := Nat.pow_le_pow_right (by decide) (by rw [List.length_drop]; omega)
  omega

set_option maxHeartbeats 1600000 in
set_option maxRecDepth 100000 in
theorem int_any (p : Option Addr) (b cap : Nat) (l : List Nat) (w : World) (hd : Digs l) (hp : 0 < l.length → p = some ⟨b, 0, none⟩) (_hcap : l.length ≤ cap)
    (hc : ∀ j (h : j < l.length), w.cell? ⟨b, j, none⟩ = some (.int .i64 (l[j] : Int))) (h18 : l.length ≤ 18) :
    Calls Tryz.prog 39 #[.slice p l.length cap] w fun e w' => e = .returned (.int .i64 (val l : Int)) ∧ w = w' := by
  go_enter Tryz.func39, Tryz.ntmps39
  go_wp2
  go_loopw [3, 4] (fun n i wr => ∃ k m : Nat, i = .int .i64 ((k : Int) - 1) ∧ n = .int .i64 (m : Int) ∧ k ≤ l.length ∧ m = val (l.drop k) ∧ w = wr)
    (fun _ i _ => (intOf i + 1).toNat)
  case atStart => exact ⟨l.length, 0, rfl, rfl, Nat.le_refl _, by rw [List.drop_length]; rfl, rfl⟩
  case round =>
    obtain ⟨k, m, rfl, rfl, hk, hm, rfl⟩ := hrel
    by_cases h0 : k = 0
    · subst h0
      have hv : val l = m := hm.symm
      clear hp hc hm
      go_wp2
      go_ret
      first
        | exact ⟨by rw [hv]; rfl, rfl⟩
        | exact ⟨rfl, rfl⟩
    · have hpp := hp (by omega)
      subst hpp
      have hcc := hc (k - 1) (by omega)
      have h9 := hd.at (k - 1) (by omega)
      have hcast : ((k : Int) - 1) = ((k - 1 : Nat) : Int) := by omega
      have hlt := val_drop_lt hd h18 k (by omega)
      rw [← hm] at hlt
      have hs := val_drop l (k - 1)
      rw [show k - 1 + 1 = k by omega, ← hm, List.getElem?_eq_getElem (by omega)] at hs
      have HS := Lib.hid hs
      clear hs hm hc
      go_wp2
      case roundEnd =>
        refine ⟨⟨k - 1, 10 * m + l[k - 1]'(by omega), rfl, ?_, by omega, ?_, trivial⟩, ?_⟩
        · simp
        · rw [HS.out]
          show _ = (some l[k - 1]).getD 0 + 10 * m
          rw [Option.getD_some]; omega
        · simp [intOf]; omega
end Go.Proofs.YtbjnglfapgpncaaGreatDoor
