/- ironbarkref01.Mul: what one place, one row and one carry do to the lists. ironbarkref01.Mul: the digits of a product: the walk of the two loops. -/
import Derived.Test.YtbjnglfapgpncaaGreatDoorDigLess
namespace Go.Proofs.YtbjnglfapgpncaaGreatDoor
open Go.RowKit

theorem mul_place {b l l2 : List Nat} {k m x : Nat} (hm : m < b.length) (hkm : k + m < l2.length) (hv : val l2 = val l + 10 ^ k * (x * val (b.take m))) :
    val (l2.set (k + m) (l2[k + m] + x * b[m])) = val l + 10 ^ k * (x * val (b.take (m + 1))) := by
  rw [val_set l2 (k + m) hkm, hv, val_take_succ b m hm, Nat.mul_add, Nat.mul_add, Nat.add_assoc]
  congr 2
  rw [Nat.pow_add, Nat.mul_assoc]
  congr 1
  rw [← Nat.mul_assoc, ← Nat.mul_assoc, Nat.mul_comm x (10 ^ m)]

theorem mul_bounds {l2 : List Nat} {k m y : Nat} (hkm : k + m < l2.length) (hy : y ≤ 81) (h1 : ∀ (j : Nat) (h : j < l2.length), l2[j] ≤ 81 * (k + 1)) (h2 : ∀ (j : Nat) (h : j < l2.length), k + m ≤ j → l2[j] ≤ 81 * k) :
    (∀ (j : Nat) (h : j < (l2.set (k + m) (l2[k + m] + y)).length), (l2.set (k + m) (l2[k + m] + y))[j] ≤ 81 * (k + 1)) ∧
      (∀ (j : Nat) (h : j < (l2.set (k + m) (l2[k + m] + y)).length), k + (m + 1) ≤ j → (l2.set (k + m) (l2[k + m] + y))[j] ≤ 81 * k) := by
  constructor
  · intro j h
    rw [List.getElem_set]
    split
    · have := h2 (k + m) hkm (Nat.le_refl _); omega
    · exact h1 j (by simpa using h)
  · intro j h hj
    rw [List.getElem_set]
    split
    · omega
    · exact h2 j (by simpa using h) (by omega)

theorem mul_row {a b l l2 : List Nat} {k : Nat} (hk : k < a.length) (hv : val l = val (a.take k) * val b) (hv2 : val l2 = val l + 10 ^ k * (a[k] * val (b.take b.length))) : val l2 = val (a.take (k + 1)) * val b := by
  rw [List.take_length] at hv2
  rw [hv2, hv, val_take_succ a k hk, Nat.add_mul, Nat.mul_assoc]

theorem carry_step {l : List Nat} {k c P : Nat} (hk : k < l.length) (hd : Digs (l.take k)) (h : val (l.take k) + 10 ^ k * (c + val (l.drop k)) = P) (d : Nat) (ed : d = l[k] + c) :
    Digs ((l.set k (d % 10)).take (k + 1)) ∧ val ((l.set k (d % 10)).take (k + 1)) + 10 ^ (k + 1) * (d / 10 + val ((l.set k (d % 10)).drop (k + 1))) = P := by
  have e1 : (l.set k (d % 10)).take (k + 1) = l.take k ++ [d % 10] := by
    rw [List.take_succ_eq_append_getElem (by simpa using hk), List.getElem_set_self, List.take_set_of_le (Nat.le_refl k)]
  have e2 : (l.set k (d % 10)).drop (k + 1) = l.drop (k + 1) := List.drop_set_of_lt (by omega)
  have e3 := val_drop l k
  rw [List.getElem?_eq_getElem hk] at e3
  have e3' : val (l.drop k) = l[k] + 10 * val (l.drop (k + 1)) := e3
  refine ⟨by rw [e1]; exact hd.push (by omega), ?_⟩
  rw [e1, e2, val_push, List.length_take_of_le (by omega), Nat.pow_succ, Nat.mul_assoc, Nat.add_assoc, ← Nat.mul_add, ← h, e3']
  congr 2
  omega

theorem mul_end {a b l : List Nat} {k c : Nat} (ha : Digs a) (hb : Digs b) (hl : l.length = a.length + b.length) (hk : k = l.length) (hd : Digs (l.take k)) (h : val (l.take k) + 10 ^ k * (c + val (l.drop k)) = val a * val b) :
    Digs l ∧ val l = val a * val b := by
  subst hk
  rw [List.take_length] at h hd
  have h1 := val_lt a ha
  have h2 := val_lt b hb
  have h3 : val a * val b < 10 ^ l.length := by
    rw [hl, Nat.pow_add]
    exact Nat.mul_lt_mul'' h1 h2
  rw [val_drop_end l _ (Nat.le_refl _), Nat.add_zero] at h
  by_cases hc : c = 0
  · subst hc
    exact ⟨hd, by simpa using h⟩
  · have : 10 ^ l.length * 1 ≤ 10 ^ l.length * c := Nat.mul_le_mul_left _ (by omega)
    omega

end Go.Proofs.YtbjnglfapgpncaaGreatDoor
namespace Go.Proofs.YtbjnglfapgpncaaGreatDoor
open Go.RowKit

set_option maxHeartbeats 4000000 in
set_option maxRecDepth 100000 in
theorem mul_any (pa pb : Option Addr) (ba bb ca cb : Nat) (a b : List Nat) (w : World) (ha : Digs a) (hb : Digs b) (hpa : 0 < a.length → pa = some ⟨ba, 0, none⟩) (hpb : 0 < b.length → pb = some ⟨bb, 0, none⟩)
    (_hca : a.length ≤ ca) (_hcb : b.length ≤ cb)
    (hA : ∀ j (h : j < a.length), w.cell? ⟨ba, j, none⟩ = some (.int .i64 (a[j] : Int))) (hB : ∀ j (h : j < b.length), w.cell? ⟨bb, j, none⟩ = some (.int .i64 (b[j] : Int)))
    (hla : a.length ≤ 10000) (hlb : b.length ≤ 10000) (hba : 0 < a.length → ba < w.heap.size) (hbb : 0 < b.length → bb < w.heap.size) :
    Calls Tryz.prog 26 #[.slice pa a.length ca, .slice pb b.length cb] w fun e w' =>
      ∃ v, e = .returned v ∧ w'.ownsRow w.heap.size 3 1 v (digs (val a * val b)).length (dcells (digs (val a * val b))) ∧ Below w.heap.size w w' := by
  have hmk := run_make_row' 33 3 (.int .i64 0) 8 Tryz.underlying33 Tryz.infoInt rfl .i64 .i64 (a.length + b.length) (by omega) (by omega)
  simp only [Int.natCast_add] at hmk
  have hown0 : (w.alloc (.cells (madeCells #[Value.int .i64 0] (a.length + b.length)) 3)).ownsRow w.heap.size 3 1 (.slice (some ⟨w.heap.size, 0, none⟩) (a.length + b.length) (a.length + b.length)) (a.length + b.length) (dcells (List.replicate (a.length + b.length) 0)) := by
    rw [← made_zeros]
    exact World.ownsRow_lit w _ _ (Nat.le_refl _) (by unfold maxLen; omega) (by simp [madeCells])
  have HO0 := Lib.hid hown0
  clear hown0
  go_enter Tryz.func26, Tryz.ntmps26
  go_wp2
  go_loopw [6] (fun i wr => ∃ (k : Nat) (l : List Nat), i = .int .i64 (k : Int) ∧ k ≤ a.length ∧ l.length = a.length + b.length ∧ val l = val (a.take k) * val b ∧ (∀ (j : Nat) (h : j < l.length), l[j] ≤ 81 * k) ∧
      wr.ownsRow w.heap.size 3 1 (.slice (some ⟨w.heap.size, 0, none⟩) (a.length + b.length) (a.length + b.length)) (a.length + b.length) (dcells l) ∧ Below w.heap.size w wr)
    (fun i _ => a.length - (intOf i).toNat)
  case atStart =>
    exact ⟨0, List.replicate (a.length + b.length) 0, rfl, Nat.zero_le _, by simp, by rw [val_zeros _ (fun d hd => List.eq_of_mem_replicate hd)]; simp [val], fun j h => by simp, HO0.out, (Below.refl _ w).alloc (Nat.le_refl _) _⟩
  case round =>
    obtain ⟨k, l, rfl, hk, hl, hv, hm, hown, hnx⟩ := hrel
    have HO := Lib.hid hown
    have HV := Lib.hid hv
    have HM := Lib.hid hm
    clear hown hv hm
    by_cases h1 : k < a.length
    · have hppa := hpa (by omega)
      subst hppa
      have hba' := hba (by omega)
      have n0 : ¬ w.heap.size = ba := by omega
      have hcA := (hnx.cell (by exact hba')).trans (hA k h1)
      clear hmk HO0
      go_wp2
      go_loopw [7] (fun i wr2 => ∃ (m : Nat) (l2 : List Nat), i = .int .i64 (m : Int) ∧ m ≤ b.length ∧ l2.length = a.length + b.length ∧ val l2 = val l + 10 ^ k * (a[k] * val (b.take m)) ∧ (∀ (j : Nat) (h : j < l2.length), l2[j] ≤ 81 * (k + 1)) ∧ (∀ (j : Nat) (h : j < l2.length), k + m ≤ j → l2[j] ≤ 81 * k) ∧
          wr2.ownsRow w.heap.size 3 1 (.slice (some ⟨w.heap.size, 0, none⟩) (a.length + b.length) (a.length + b.length)) (a.length + b.length) (dcells l2) ∧ Below w.heap.size w wr2)
        (fun i _ => b.length - (intOf i).toNat)
      case atStart => exact ⟨0, l, rfl, Nat.zero_le _, hl, by simp [val], fun j h => by have := HM.out j h; omega, fun j h _ => HM.out j h, HO.out, hnx⟩
      case round =>
        obtain ⟨m, l2, rfl, hm, hl2, hv2, hm2, hm3, hown2, hnx2⟩ := hrel
        by_cases h2 : m < b.length
        · have hppb := hpb (by omega)
          subst hppb
          have hbb' := hbb (by omega)
          have n1 : ¬ w.heap.size = bb := by omega
          have hcA2 := (hnx2.cell (by exact hba')).trans (hA k h1)
          have hcB2 := (hnx2.cell (by exact hbb')).trans (hB m h2)
          have hkm : k + m < l2.length := by omega
          have hcO : wr.cell? ⟨w.heap.size, k + m, none⟩ = some (.int .i64 (l2[k + m] : Int)) := by
            rw [hown2.cellAt (k + m) (by omega)]
            simp [dcells, List.getElem?_eq_getElem hkm]
          have hfO : wr.frozen? ⟨w.heap.size, k + m, none⟩ = false := hown2.frozenAt (k + m)
          have b1 := ha.at k h1
          have b2 := hb.at m h2
          have b3 := hm2 (k + m) hkm
          have b4 : a[k] * b[m] ≤ 81 := Nat.le_trans (Nat.mul_le_mul (by omega : a[k] ≤ 9) (by omega : b[m] ≤ 9)) (by decide)
          have b5 : (0 : Int) ≤ (a[k] : Int) * (b[m] : Int) := by rw [← Int.natCast_mul]; omega
          have b6 : (a[k] : Int) * (b[m] : Int) ≤ 81 := by rw [← Int.natCast_mul]; omega
          have MB := Lib.hid (mul_bounds hkm b4 hm2 hm3)
          have MP := Lib.hid (mul_place (x := a[k]) h2 hkm hv2)
          have HO2 := Lib.hid hown2
          clear b4 hown2 hm2 hm3 hv2 hA hB HV HM HO
          go_wp2
          go_region
          go_wp2
          case roundEnd =>
            refine ⟨⟨m + 1, l2.set (k + m) (l2[k + m] + a[k] * b[m]), by simp, by omega, by simpa using hl2, MP.out, MB.out.1, MB.out.2, ?_, (hnx2.setCell (p := ⟨w.heap.size, k + m, none⟩) (Nat.le_refl _) _).drew⟩, by simp [intOf]; omega⟩
            rw [dcells_set]
            have e : ((l2[k + m] + a[k] * b[m] : Nat) : Int) = (l2[k + m] : Int) + (a[k] : Int) * (b[m] : Int) := by push_cast; rfl
            rw [e]
            exact (HO2.out.stored (k + m) _).1
        · have hmb : m = b.length := by omega
          subst hmb
          have MR := Lib.hid (mul_row h1 HV.out hv2)
          have HO2 := Lib.hid hown2
          have HM2 := Lib.hid hm2
          clear hown2 hm2 hm3 hv2 hA hB HV HM HO
          go_wp2
          case roundEnd => exact ⟨⟨k + 1, l2, by simp, by omega, hl2, MR.out, HM2.out, HO2.out, hnx2⟩, by simp [intOf]; omega⟩
    · have hka : k = a.length := by omega
      subst hka
      have hv0 := HV.out
      rw [List.take_length] at hv0
      have HP := Lib.hid hv0
      clear hv0 hA hB hmk HO0 HV
      go_wp2
      go_loopw [8, 9] (fun c i wr3 => ∃ (k cc : Nat) (l3 : List Nat), i = .int .i64 (k : Int) ∧ c = .int .i64 (cc : Int) ∧ k ≤ a.length + b.length ∧ cc ≤ 100000000 ∧ l3.length = a.length + b.length ∧ Digs (l3.take k) ∧
          (∀ (j : Nat) (h : j < l3.length), l3[j] ≤ 81 * a.length + 10) ∧ val (l3.take k) + 10 ^ k * (cc + val (l3.drop k)) = val a * val b ∧
          wr3.ownsRow w.heap.size 3 1 (.slice (some ⟨w.heap.size, 0, none⟩) (a.length + b.length) (a.length + b.length)) (a.length + b.length) (dcells l3) ∧ Below w.heap.size w wr3)
        (fun _ i _ => a.length + b.length - (intOf i).toNat)
      case atStart => exact ⟨0, 0, l, rfl, rfl, Nat.zero_le _, by decide, hl, Digs.nil, fun j h => by have := HM.out j h; omega, by rw [← HP.out]; simp [val], HO.out, hnx⟩
      case round =>
        obtain ⟨k, cc, l3, rfl, rfl, hk3, hcc, hl3, hd3, hm3, hv3, hown3, hnx3⟩ := hrel
        clear HM HP HO hnx
        by_cases h1 : k < a.length + b.length
        · have hkl : k < l3.length := by omega
          have hcO : wr.cell? ⟨w.heap.size, k, none⟩ = some (.int .i64 (l3[k] : Int)) := by
            rw [hown3.cellAt k (by omega)]
            simp [dcells, List.getElem?_eq_getElem hkl]
          have hfO : wr.frozen? ⟨w.heap.size, k, none⟩ = false := hown3.frozenAt k
          have b3 := hm3 k hkl
          have CS := Lib.hid (carry_step hkl hd3 hv3 (l3[k] + cc) rfl)
          have HO3 := Lib.hid hown3
          have HM3 := Lib.hid hm3
          clear hown3 hm3 hv3 hd3
          go_wp2
          case roundEnd =>
            refine ⟨⟨k + 1, (l3[k] + cc) / 10, l3.set k ((l3[k] + cc) % 10), by simp, by simp, by omega, by omega, by simpa using hl3, CS.out.1, ?_, CS.out.2, ?_, hnx3.setCell (p := ⟨w.heap.size, k, none⟩) (Nat.le_refl _) _⟩, by simp [intOf]; omega⟩
            · intro j h
              rw [List.getElem_set]
              split
              · omega
              · exact HM3.out j (by simpa using h)
            · rw [dcells_set]
              have e : (((l3[k] + cc) % 10 : Nat) : Int) = ((l3[k] : Int) + (cc : Int)) % 10 := by omega
              rw [e]
              exact (HO3.out.stored k _).1
        · have hke : k = l3.length := by omega
          obtain ⟨hd4, hv4⟩ := mul_end ha hb hl3 hke hd3 hv3
          obtain ⟨p, bo, cap', he, t1, t2, t3, t4, t5, t6⟩ := own_trim (l := l3) (by rw [hl3]; exact hown3) hd4
          rw [hl3] at he
          obtain ⟨rfl, rfl⟩ : some (⟨w.heap.size, 0, none⟩ : Addr) = p ∧ a.length + b.length = cap' := by simpa using he
          have tr := trim_any _ bo (a.length + b.length) l3 wr hd4 t1 t2 t3 t4 t5 (by omega)
          rw [hl3, hv4] at tr
          rw [hv4] at t6
          have TR := Lib.hid tr
          have T6 := Lib.hid t6
          clear tr t1 t2 t3 t4 t5 t6 hown3 hl3 he hm3 hv3 hd3 hv4 hd4
          go_wp2_with (go_at_call 38; refine TR.out.mono ?_; rintro e w2 ⟨rfl, rfl⟩)
          go_ret
          exact ⟨_, rfl, T6.out, hnx3⟩
end Go.Proofs.YtbjnglfapgpncaaGreatDoor
