/- digit.product: the words of a product. -/
import Derived.Test.YtllpldndkojagaaGreatDoorWrdDiff
namespace Go.Proofs.YtllpldndkojagaaGreatDoor
open Go.RowKit

theorem wval_put (l : List Nat) (j : Nat) (h : j < l.length) (d : Nat) : wval (l.set j d) + 4294967296 ^ j * l[j] = wval l + 4294967296 ^ j * d := by
  have hm : j < (l.set j 0).length := by rw [List.length_set]; exact h
  have e0 : (l.set j 0)[j] = 0 := List.getElem_set_self ..
  have e1 := wval_set (l.set j 0) j hm l[j]
  have e2 := wval_set (l.set j 0) j hm d
  rw [e0, Nat.zero_add, List.set_set] at e1 e2
  rw [List.set_getElem_self] at e1
  omega
theorem wval_take_wrd (n i : Nat) (h : i < (wrds n).length) : wval ((wrds n).take (i + 1)) = wval ((wrds n).take i) + 4294967296 ^ i * wrd n i := by
  rw [wval_take_succ _ _ h, wrd, List.getElem?_eq_getElem h]; rfl

/-- What stands in product's outer loop, and in its inner one. -/
def MulR (w : World) (a b N i : Nat) (l : List Nat) (wr : World) : Prop :=
  i ≤ (wrds a).length ∧ l.length = N ∧ Wrds l ∧ wval l = wval ((wrds a).take i) * b ∧ (∀ k, i + (wrds b).length ≤ k → (l[k]?).getD 0 = 0) ∧ Row wr w.heap.size (wrow l) 76 ∧ Below w.heap.size w wr
def InR (w : World) (a b N i j c : Nat) (l : List Nat) (wr : World) : Prop :=
  j ≤ (wrds b).length ∧ c < 4294967296 ∧ l.length = N ∧ Wrds l ∧ wval l + 4294967296 ^ (i + j) * c = wval ((wrds a).take i) * b + 4294967296 ^ i * (wrd a i * wval ((wrds b).take j)) ∧ (∀ k, i + (wrds b).length ≤ k → (l[k]?).getD 0 = 0) ∧ Row wr w.heap.size (wrow l) 76 ∧ Below w.heap.size w wr
theorem MulR.inner {w wr : World} {a b N i : Nat} {l : List Nat} (h : MulR w a b N i l wr) : InR w a b N i 0 0 l wr :=
  ⟨Nat.zero_le _, by decide, h.2.1, h.2.2.1, by rw [h.2.2.2.1]; simp [wval], h.2.2.2.2⟩
theorem InR.next {w wr : World} {a b N i j c : Nat} {l : List Nat} (h : InR w a b N i j c l wr) (hN : N = (wrds a).length + (wrds b).length) (hi : i < (wrds a).length) (hj : j < (wrds b).length) (t : Nat) (ht : t = c + (wrd a i * wrd b j + (l[i + j]?).getD 0)) :
    InR w a b N i (j + 1) (t / 4294967296) (l.set (i + j) (t % 4294967296)) (wr.setCell ⟨w.heap.size, i + j, none⟩ (.int .u32 ((t % 4294967296 : Nat) : Int))) := by
  obtain ⟨h1, h2, h3, h4, h5, h6, h7, h8⟩ := h
  have hl : i + j < l.length := by omega
  have x1 := wrd_lt a i
  have x2 := wrd_lt b j
  have x3 := h4.at (i + j) hl
  have e0 : (l[i + j]?).getD 0 = l[i + j] := by rw [List.getElem?_eq_getElem hl]; rfl
  rw [e0] at ht
  have hp := wval_put l (i + j) hl (t % 4294967296)
  have hm : wrd a i * wrd b j ≤ 4294967295 * 4294967295 := Nat.mul_le_mul (by omega) (by omega)
  refine ⟨by omega, by omega, by rw [List.length_set]; exact h3, h4.set _ (Nat.mod_lt _ (by decide)), ?_, ?_, h7.wput _ _, h8.setCell (Nat.le_refl _) _⟩
  · rw [wval_take_wrd b j hj, ← Nat.add_assoc, Nat.pow_succ]
    have k2 : 4294967296 ^ (i + j) = 4294967296 ^ i * 4294967296 ^ j := Nat.pow_add _ _ _
    have k3 : 4294967296 ^ i * (wrd a i * (wval ((wrds b).take j) + 4294967296 ^ j * wrd b j)) = 4294967296 ^ i * (wrd a i * wval ((wrds b).take j)) + 4294967296 ^ (i + j) * (wrd a i * wrd b j) := by
      rw [k2, Nat.mul_add, Nat.mul_add, Nat.mul_assoc (4294967296 ^ i), Nat.mul_left_comm (wrd a i)]
    rw [k3, ← Nat.add_assoc, ← h5]
    generalize 4294967296 ^ (i + j) = P at hp ⊢
    have k4 : P * (t % 4294967296) + P * 4294967296 * (t / 4294967296) = P * c + P * (wrd a i * wrd b j) + P * l[i + j] := by
      rw [Nat.mul_assoc, ← Nat.mul_add, ← Nat.mul_add, ← Nat.mul_add, Nat.mod_add_div, ht]
      congr 1; omega
    omega
  · intro k hk
    rw [List.getElem?_set_ne (by omega)]
    exact h6 k hk
theorem InR.outer {w wr : World} {a b N i c : Nat} {l : List Nat} (h : InR w a b N i (wrds b).length c l wr) (hN : N = (wrds a).length + (wrds b).length) (hi : i < (wrds a).length) :
    MulR w a b N (i + 1) (l.set (i + (wrds b).length) c) (wr.setCell ⟨w.heap.size, i + (wrds b).length, none⟩ (.int .u32 (c : Int))) := by
  obtain ⟨_, h2, h3, h4, h5, h6, h7, h8⟩ := h
  have hl : i + (wrds b).length < l.length := by omega
  have hz := h6 (i + (wrds b).length) (Nat.le_refl _)
  rw [List.getElem?_eq_getElem hl] at hz
  have hz' : l[i + (wrds b).length] = 0 := hz
  have hp := wval_put l _ hl c
  rw [hz', Nat.mul_zero, Nat.add_zero] at hp
  refine ⟨by omega, by rw [List.length_set]; exact h3, h4.set _ h2, ?_, ?_, h7.wput _ _, h8.setCell (Nat.le_refl _) _⟩
  · rw [hp, h5, List.take_length, wval_digs, wval_take_wrd a i hi, Nat.add_mul, Nat.mul_assoc]
  · intro k hk
    rw [List.getElem?_set_ne (by omega)]
    exact h6 k (by omega)

set_option maxHeartbeats 4000000 in
set_option maxRecDepth 100000 in
theorem product_d {B C a b : Nat} {va vb : Value} {w : World} (hA : WArg B w va a) (hB : WArg C w vb b) (la : (wrds a).length ≤ 10000) (lb : (wrds b).length ≤ 10000) :
    Calls Tryz.prog 30 #[va, vb] w (GivesW w (a * b)) := by
  obtain ⟨pa, ka, rfl⟩ := hA.slice
  obtain ⟨pb, kb, rfl⟩ := hB.slice
  have HA := Lib.hid hA
  have HB := Lib.hid hB
  clear hA hB
  obtain ⟨N, hN⟩ : ∃ N, N = (wrds a).length + (wrds b).length := ⟨_, rfl⟩
  have hmk := run_make_row' 41 76 (.int .u32 0) 4 Tryz.underlying41 Tryz.infoWord rfl .i64 .i64 N (by omega) (by omega)
  have R0 := Lib.hid (Row.new w (madeCells #[Value.int .u32 0] N) 76)
  rw [wmade] at R0 hmk
  have HN := Lib.hid hN
  have hN2 : N ≤ 20000 := by omega
  have hN3 : ((wrds a).length : Int) + ((wrds b).length : Int) = N := by omega
  have hwn : IntKind.i64.wrap (((wrds a).length : Int) + ((wrds b).length : Int)) = N := by rw [hN3]; exact IntWalk.i64_in _ (by omega)
  have hz0 : Hid (∀ k, (((List.replicate N 0)[k]?).getD 0) = 0) := Lib.hid fun k => by
    rw [List.getElem?_replicate]; split <;> rfl
  clear hN
  go_enter Tryz.func30, Tryz.ntmps30
  go_wp2
  go_loopw [19] (fun i wr => ∃ (k : Nat) (l : List Nat), i = .int .i64 (k : Int) ∧ MulR w a b N k l wr) (fun i _ => (wrds a).length - (intOf i).toNat)
  case atStart => exact ⟨0, List.replicate N 0, rfl, Nat.zero_le _, by simp, by intro d hd; rw [List.mem_replicate] at hd; omega, by rw [wval_zeros _ (by intro d hd; exact (List.mem_replicate.1 hd).2)]; simp [wval], fun k _ => hz0.out k, R0.out, (Below.refl _ w).alloc (Nat.le_refl _) _⟩
  case round =>
    obtain ⟨i, l, rfl, hR⟩ := hrel
    have hB := hR.2.2.2.2.2.2
    by_cases h1 : i < (wrds a).length
    · obtain ⟨ba, rfl, hba, hcA⟩ := (HA.out.keep hB (Nat.le_refl _)).at h1
      have IN := Lib.hid hR.inner
      have i1 : (i : Int) < (wrds a).length := by omega
      clear hR hB hmk R0 hz0
      go_wp2
      go_loopw [8, 26] (fun c j wr2 => ∃ (jj cc : Nat) (l2 : List Nat), j = .int .i64 (jj : Int) ∧ c = .int .u64 (cc : Int) ∧ InR w a b N i jj cc l2 wr2) (fun _ j _ => (wrds b).length - (intOf j).toNat)
      case atStart => exact ⟨0, 0, l, rfl, rfl, IN.out⟩
      case round =>
        clear IN hcA
        obtain ⟨j, c, l2, rfl, rfl, hI⟩ := hrel
        have hB := hI.2.2.2.2.2.2.2
        have hrow := hI.2.2.2.2.2.2.1
        have hl2 := hI.2.2.1
        have hd2 := hI.2.2.2.1
        have hc := hI.2.1
        have hjl := hI.1
        by_cases h2 : j < (wrds b).length
        · obtain ⟨bb, rfl, hbb, hcB⟩ := (HB.out.keep hB (Nat.le_refl _)).at h2
          have j1 : (j : Int) < (wrds b).length := by omega
          obtain ⟨q, hq⟩ : ∃ q, i + j = q := ⟨_, rfl⟩
          obtain ⟨m, hm⟩ : ∃ m, wrd a i * wrd b j = m := ⟨_, rfl⟩
          have hql : q < l2.length := by have := HN.out; omega
          have hqN : q < N := by omega
          obtain ⟨o, ho⟩ : ∃ o, l2[q] = o := ⟨_, rfl⟩
          have hoW : o < 4294967296 := by rw [← ho]; exact hd2.at q hql
          have hmW : m ≤ 4294967295 * 4294967295 := by
            rw [← hm]; exact Nat.mul_le_mul (by have := wrd_lt a i; omega) (by have := wrd_lt b j; omega)
          have NX := hI.next HN.out h1 h2 (c + (m + o)) (by rw [hm, hq, List.getElem?_eq_getElem hql, ho]; rfl)
          rw [hq] at NX
          have hcO : wr.cell? ⟨w.heap.size, q, none⟩ = some (.int .u32 (o : Int)) := by rw [← ho]; exact hrow.wat hql
          have hfO := hrow.free q
          have hwi : IntKind.i64.wrap ((i : Int) + (j : Int)) = (q : Int) := by rw [show (i : Int) + (j : Int) = q by omega]; exact IntWalk.i64_in _ (by omega)
          have hw1 : IntKind.u64.wrap ((wrd a i : Int) * (wrd b j : Int)) = (m : Int) := by
            rw [show (wrd a i : Int) * (wrd b j : Int) = m by rw [← hm, Int.natCast_mul]]; exact IntWalk.u64_in _ (by omega)
          have hw2 : IntKind.u64.wrap ((m : Int) + (o : Int)) = (m : Int) + (o : Int) := IntWalk.u64_in _ (by omega)
          have hw3 : IntKind.u64.wrap ((c : Int) + ((m : Int) + (o : Int))) = (c : Int) + ((m : Int) + (o : Int)) := IntWalk.u64_in _ (by omega)
          have x1 := wrd_lt a i
          have x2 := wrd_lt b j
          have k1 : (q : Int) < N := by omega
          have HE : Hid (((c : Int) + ((m : Int) + (o : Int))) % 4294967296 = (((c + (m + o)) % 4294967296 : Nat) : Int)) := Lib.hid (by omega)
          have HF : Hid (((c : Int) + ((m : Int) + (o : Int))) / 4294967296 = (((c + (m + o)) / 4294967296 : Nat) : Int)) := Lib.hid (by omega)
          have NXh := Lib.hid NX
          clear NX hI hB hrow hq hm ho hd2
          go_wp2
          case roundEnd =>
            rw [HE.out, HF.out]
            exact ⟨⟨j + 1, _, _, rfl, rfl, NXh.out⟩, by simp [intOf]; omega⟩
        · have hje : j = (wrds b).length := by omega
          obtain ⟨q, hq⟩ : ∃ q, i + (wrds b).length = q := ⟨_, rfl⟩
          rw [hje] at hI
          have OU := hI.outer HN.out h1
          rw [hq] at OU
          have hql : q < l2.length := by have := HN.out; omega
          have hcO := hrow.wat hql
          have hfO := hrow.free q
          have hwi : IntKind.i64.wrap ((i : Int) + ((wrds b).length : Int)) = (q : Int) := by rw [show (i : Int) + ((wrds b).length : Int) = q by omega]; exact IntWalk.i64_in _ (by omega)
          have k1 : (q : Int) < N := by omega
          have hcm : (c : Int) % 4294967296 = c := by omega
          have OUh := Lib.hid OU
          clear OU hI hB hrow hq hd2
          go_wp2
          case roundEnd => exact ⟨⟨i + 1, _, rfl, OUh.out⟩, by simp [intOf]; omega⟩
    · have hie : i = (wrds a).length := by have := hR.1; omega
      obtain ⟨_, hl, hd, hv, _, hrow, _⟩ := hR
      rw [hie, List.take_length, wval_digs] at hv
      have HV := Lib.hid hv
      have HT := Lib.hid (trim_row (cap := N) hrow hd (by omega) (by omega))
      have HW := Lib.hid (WArg.of_row (B := w.heap.size) (cap := N) hrow (Nat.le_refl _) hd (by omega))
      rw [hl] at HT
      rw [HV.out] at HW HT
      have HB2 := Lib.hid hB
      clear hB hrow hd hv hmk R0
      go_wp2_with (go_at_call 75; refine HT.out.mono ?_; rintro e w2 ⟨rfl, rfl⟩)
      go_ret
      exact ⟨_, rfl, HW.out, HB2.out⟩
end Go.Proofs.YtllpldndkojagaaGreatDoor
