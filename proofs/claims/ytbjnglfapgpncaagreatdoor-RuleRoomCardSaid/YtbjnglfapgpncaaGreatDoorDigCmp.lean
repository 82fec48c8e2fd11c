/- ironbarkref01.Cmp: the order of two numbers by their digits. -/
import Derived.Test.YtbjnglfapgpncaaGreatDoorDigFrom
import Derived.Lib.Hide
import Derived.Deep.QuietTactic
import Derived.BigQuiet
import Derived.WalkSmall
namespace Go.Proofs.YtbjnglfapgpncaaGreatDoor
open Go.RowKit

/-- The order of two numbers: -1, 0, 1. -/
def ord (m n : Nat) : Int := if m < n then -1 else if n < m then 1 else 0
theorem ord_lt {m n : Nat} (h : m < n) : ord m n = -1 := by rw [ord, if_pos h]
theorem ord_gt {m n : Nat} (h : n < m) : ord m n = 1 := by rw [ord, if_neg (by omega), if_pos h]
theorem ord_eq (m : Nat) : ord m m = 0 := by rw [ord, if_neg (by omega), if_neg (by omega)]

set_option maxHeartbeats 1600000 in
set_option maxRecDepth 100000 in
theorem cmp_far (pa pb : Option Addr) (ca cb : Nat) (a b : List Nat) (w : World) (ha : Digs a) (hb : Digs b) (na : Neat a) (nb : Neat b) (hl : ¬ a.length = b.length) (_hla : a.length ≤ 1000000) (_hlb : b.length ≤ 1000000) :
    Calls Tryz.prog 17 #[.slice pa a.length ca, .slice pb b.length cb] w fun e w' => e = .returned (.int .i64 (ord (val a) (val b))) ∧ w = w' := by
  by_cases h : a.length < b.length
  · rw [ord_lt (val_lt_of_length ha nb h)]
    go_enter Tryz.func17, Tryz.ntmps17
    go_wp2
    go_ret
    exact ⟨rfl, rfl⟩
  · rw [ord_gt (val_lt_of_length hb na (by omega))]
    go_enter Tryz.func17, Tryz.ntmps17
    go_wp2
    go_ret
    exact ⟨rfl, rfl⟩

set_option maxHeartbeats 1600000 in
set_option maxRecDepth 100000 in
theorem cmp_near (pa pb : Option Addr) (ba bb ca cb : Nat) (a b : List Nat) (w : World) (ha : Digs a) (hb : Digs b) (hl : b.length = a.length)
    (hpa : 0 < a.length → pa = some ⟨ba, 0, none⟩) (hpb : 0 < b.length → pb = some ⟨bb, 0, none⟩) (_hca : a.length ≤ ca) (_hcb : b.length ≤ cb)
    (hA : ∀ j (h : j < a.length), w.cell? ⟨ba, j, none⟩ = some (.int .i64 (a[j] : Int))) (hB : ∀ j (h : j < b.length), w.cell? ⟨bb, j, none⟩ = some (.int .i64 (b[j] : Int))) (hla : a.length ≤ 1000000) (hba : 0 < a.length → ba < w.heap.size) (hbb : 0 < a.length → bb < w.heap.size) :
    Calls Tryz.prog 17 #[.slice pa a.length ca, .slice pb a.length cb] w fun e w' => e = .returned (.int .i64 (ord (val a) (val b))) ∧ Below w.heap.size w w' := by
  go_enter Tryz.func17, Tryz.ntmps17
  go_wp2
  go_loopw [5] (fun i wr => ∃ k : Nat, i = .int .i64 ((k : Int) - 1) ∧ k ≤ a.length ∧ a.drop k = b.drop k ∧ Below w.heap.size w wr)
    (fun i _ => (intOf i + 1).toNat)
  case atStart => exact ⟨a.length, rfl, Nat.le_refl _, by rw [List.drop_length, ← hl, List.drop_length], Below.refl _ _⟩
  case round =>
    obtain ⟨k, rfl, hk, hd, hnx⟩ := hrel
    by_cases h0 : k = 0
    · subst h0
      have hab : a = b := hd
      have e0 : ord (val a) (val b) = 0 := by rw [hab, ord_eq]
      clear hpa hpb hA hB hd hab
      go_wp2
      go_ret
      first
        | exact ⟨by rw [e0]; rfl, hnx⟩
        | exact ⟨rfl, hnx⟩
    · have hppa := hpa (by omega)
      have hppb := hpb (by omega)
      subst hppa
      subst hppb
      have hca' := (hnx.cell (hba (by omega))).trans (hA (k - 1) (by omega))
      have hcb' := (hnx.cell (hbb (by omega))).trans (hB (k - 1) (by omega))
      have hcast : ((k : Int) - 1) = ((k - 1 : Nat) : Int) := by omega
      have hlt : a[k - 1]'(by omega) < b[k - 1]'(by omega) → val a < val b := fun h => val_lt_of_place (k - 1) ha (by omega) (by omega) (by rw [show k - 1 + 1 = k by omega]; exact hd) h
      have hgt : b[k - 1]'(by omega) < a[k - 1]'(by omega) → val b < val a := fun h => val_lt_of_place (k - 1) hb (by omega) (by omega) (by rw [show k - 1 + 1 = k by omega]; exact hd.symm) h
      have heq : a[k - 1]'(by omega) = b[k - 1]'(by omega) → a.drop (k - 1) = b.drop (k - 1) := fun h => by
        rw [List.drop_eq_getElem_cons (by omega), List.drop_eq_getElem_cons (show k - 1 < b.length by omega), h, show k - 1 + 1 = k by omega, hd]
      have HLT := Lib.hid hlt; have HGT := Lib.hid hgt; have HEQ := Lib.hid heq
      clear hlt hgt heq hA hB
      go_wp2
      go_quiet (fail)
      go_wp2
      · have h : a[k - 1]'(by omega) < b[k - 1]'(by omega) := by assumption
        have e0 := ord_lt (HLT.out h)
        go_ret
        exact ⟨by rw [e0]; rfl, below_drewN hnx _⟩
      · have h : ¬ a[k - 1]'(by omega) < b[k - 1]'(by omega) := by assumption
        go_quiet (fail)
        go_wp2
        case roundEnd =>
          have h' : ¬ b[k - 1]'(by omega) < a[k - 1]'(by omega) := by assumption
          exact ⟨⟨k - 1, rfl, by omega, HEQ.out (by omega), below_drewN hnx _⟩, by simp [intOf]; omega⟩
        · have h' : b[k - 1]'(by omega) < a[k - 1]'(by omega) := by assumption
          have e0 := ord_gt (HGT.out h')
          go_ret
          exact ⟨by rw [e0]; rfl, below_drewN (below_drewN hnx _) _⟩
end Go.Proofs.YtbjnglfapgpncaaGreatDoor
