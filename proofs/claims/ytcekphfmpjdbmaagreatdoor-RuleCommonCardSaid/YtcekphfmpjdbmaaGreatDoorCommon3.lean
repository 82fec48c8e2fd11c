/- rule.Common, and the document's Common. -/
import Derived.Test.YtcekphfmpjdbmaaGreatDoorCommon2
import Derived.Outline
namespace Go.Proofs.YtcekphfmpjdbmaaGreatDoor
open Go.RowKit

set_option maxHeartbeats 1000000 in
theorem Common_no (sa : Option Addr) (len cap : Nat) (n : Int) (w : World)
    (h : ∀ (W : World) (bl : Nat), bl = w.heap.size → Below w.heap.size w W → W.cell? ⟨bl, 0, none⟩ = some (.slice sa len cap) → bl < W.heap.size → Calls Tryz.prog 81 #[.pointer (some ⟨bl, 0, none⟩)] W fun e w' => e = refusal n ∧ Below W.heap.size W w') :
    Calls Tryz.prog 28 #[.slice sa len cap] w fun e w' => e = .returned (.tuple #[numV 0 0 0, .int .i64 n]) ∧ Below w.heap.size w w' := by
  have hmf : ∀ (fn : Fn) (first cap : Array Value) (w : World), (Instr.makeFunc fn first cap).run Tryz.prog w = .ok (.func fn first cap) w := fun _ _ _ _ => rfl
  have H := Lib.hid h
  clear h
  go_enter Tryz.func28, Tryz.ntmps28
  go_wp2_with fail
  go_at_call 55
  refine (answeredT_no 81 #[.pointer (some ⟨w.heap.size, 0, none⟩)] n _ (fun W => by kernel_rfl) (fun W hW => H.out W w.heap.size rfl (below_then (by go_grown) hW (by simp <;> omega)) (cell_of_row W w.heap.size 0 _ _ _ ((hW.block _ (by simp <;> omega)).trans (heap_alloc2_old _ _ _))) (Nat.lt_of_lt_of_le (by simp <;> omega) hW.size))).mono ?_
  rintro e w1 ⟨rfl, hb1⟩
  have hz := hb1.size
  obtain ⟨r0, r1, r2, r3, r4, r5, rf⟩ := zcells (w2 := w1) (b := w.heap.size + 1) (heap_alloc2_new _ _ _) (by simp <;> omega) hb1
  go_wp2
  refine bodyPost_ret (v := .tuple #[numV 0 0 0, .int .i64 n]) (by simp [results, Tryz.results28, go_sem, r0, r1, r2, r3, r4, r5]) rfl ⟨rfl, ?_⟩
  (repeat refine Below.setCell ?_ (by simp <;> omega) _)
  exact below_then (by go_grown) hb1 (by simp <;> omega)

set_option maxHeartbeats 1000000 in
theorem Common_ok (sa : Option Addr) (len cap : Nat) (k p q : Int) (w : World)
    (h : ∀ (W : World) (bl : Nat), bl = w.heap.size → Below w.heap.size w W → W.cell? ⟨bl, 0, none⟩ = some (.slice sa len cap) → bl < W.heap.size → Calls Tryz.prog 81 #[.pointer (some ⟨bl, 0, none⟩)] W fun e w' => e = .returned (numV k p q) ∧ Below W.heap.size W w') :
    Calls Tryz.prog 28 #[.slice sa len cap] w fun e w' => e = .returned (.tuple #[numV k p q, .int .i64 0]) ∧ Below w.heap.size w w' := by
  have hmf : ∀ (fn : Fn) (first cap : Array Value) (w : World), (Instr.makeFunc fn first cap).run Tryz.prog w = .ok (.func fn first cap) w := fun _ _ _ _ => rfl
  have H := Lib.hid h
  clear h
  go_enter Tryz.func28, Tryz.ntmps28
  go_wp2_with fail
  go_at_call 55
  refine (answeredT_ok 81 #[.pointer (some ⟨w.heap.size, 0, none⟩)] k p q 0 false ⟨#[]⟩ _ (fun W => by kernel_rfl) (fun W hW => H.out W w.heap.size rfl (below_then (by go_grown) hW (by simp <;> omega)) (cell_of_row W w.heap.size 0 _ _ _ ((hW.block _ (by simp <;> omega)).trans (heap_alloc2_old _ _ _))) (Nat.lt_of_lt_of_le (by simp <;> omega) hW.size))).mono ?_
  rintro e w1 ⟨rfl, hb1⟩
  have hz := hb1.size
  obtain ⟨r0, r1, r2, r3, r4, r5, rf⟩ := zcells (w2 := w1) (b := w.heap.size + 1) (heap_alloc2_new _ _ _) (by simp <;> omega) hb1
  go_wp2
  refine bodyPost_ret (v := .tuple #[numV k p q, .int .i64 0]) (by simp [results, Tryz.results28, go_sem, r0, r1, r2, r3, r4, r5]) rfl ⟨rfl, ?_⟩
  (repeat refine Below.setCell ?_ (by simp <;> omega) _)
  exact below_then (by go_grown) hb1 (by simp <;> omega)

/- the document's -/
set_option maxHeartbeats 1000000 in
theorem rCommon_13 (ts : List Ty) (b o cap : Nat) (w : World) (hA : TysAt w b o ts) (hlen : ts.length ≤ 4000000000) (hb : b < w.heap.size) (hpic : ∀ t ∈ ts, t.pic.size ≤ maxLen) (hv : ¬ ∀ t ∈ ts, t.ok = true) :
    Calls Tryz.prog 29 #[.slice (some ⟨b, o, none⟩) ts.length cap] w fun e w' => e = .returned (.tuple #[numV 0 0 0, .int .i64 13]) ∧ Below w.heap.size w w' := by
  have HA := Lib.hid hA; have HV := Lib.hid hv; have HP := Lib.hid hpic
  clear hA hv hpic
  go_enter Tryz.func29, Tryz.ntmps29
  go_wp2_with fail
  go_at_call 59
  refine (asked_13 ts b o cap _ (HA.out.below hb (by go_grown)) hlen (by simp; omega) HP.out HV.out).mono ?_
  rintro e w1 ⟨rfl, hb1⟩
  have hz := hb1.size
  obtain ⟨r0, r1, r2, r3, r4, r5, rf⟩ := zcells (w2 := w1) (b := w.heap.size) (heap_alloc_last _ _) (by simp <;> omega) hb1
  go_wp2
  refine bodyPost_ret (v := .tuple #[numV 0 0 0, .int .i64 13]) (by simp [results, Tryz.results29, go_sem, r0, r1, r2, r3, r4, r5]) rfl ⟨rfl, ?_⟩
  (repeat refine Below.setCell ?_ (by simp <;> omega) _)
  exact below_then (by go_grown) hb1 (by simp <;> omega)

set_option maxHeartbeats 1000000 in
theorem rCommon_10 (ts : List Ty) (b o cap : Nat) (w : World) (hA : TysAt w b o ts) (hlen : ts.length ≤ 4000000000) (hb : b < w.heap.size) (hpic : ∀ t ∈ ts, t.pic.size ≤ maxLen) (hv : ∀ t ∈ ts, t.ok = true) (hn : ¬ ∀ t ∈ ts, t.num = true) :
    Calls Tryz.prog 29 #[.slice (some ⟨b, o, none⟩) ts.length cap] w fun e w' => e = .returned (.tuple #[numV 0 0 0, .int .i64 10]) ∧ Below w.heap.size w w' := by
  have HA := Lib.hid hA; have HV := Lib.hid hv; have HP := Lib.hid hpic; have HN := Lib.hid hn
  clear hA hv hpic hn
  go_enter Tryz.func29, Tryz.ntmps29
  go_wp2_with fail
  go_at_call 59
  refine (asked_10 ts b o cap _ (HA.out.below hb (by go_grown)) hlen (by simp; omega) HP.out HV.out HN.out).mono ?_
  rintro e w1 ⟨rfl, hb1⟩
  have hz := hb1.size
  obtain ⟨r0, r1, r2, r3, r4, r5, rf⟩ := zcells (w2 := w1) (b := w.heap.size) (heap_alloc_last _ _) (by simp <;> omega) hb1
  go_wp2
  refine bodyPost_ret (v := .tuple #[numV 0 0 0, .int .i64 10]) (by simp [results, Tryz.results29, go_sem, r0, r1, r2, r3, r4, r5]) rfl ⟨rfl, ?_⟩
  (repeat refine Below.setCell ?_ (by simp <;> omega) _)
  exact below_then (by go_grown) hb1 (by simp <;> omega)

set_option maxHeartbeats 1000000 in
theorem rCommon_8 (sa : Option Addr) (cap : Nat) (w : World) :
    Calls Tryz.prog 29 #[.slice sa 0 cap] w fun e w' => e = .returned (.tuple #[numV 0 0 0, .int .i64 8]) ∧ Below w.heap.size w w' := by
  go_enter Tryz.func29, Tryz.ntmps29
  go_wp2_with fail
  go_at_call 59
  refine (asked_nil sa cap _).mono ?_
  rintro e w1 ⟨rfl, rfl⟩
  go_wp2
  refine bodyPost_ret (v := .tuple #[numV 0 0 0, .int .i64 8]) (by simp [results, Tryz.results29, go_sem]) rfl ⟨rfl, by go_grown⟩

set_option maxRecDepth 100000 in
set_option maxHeartbeats 4000000 in
theorem rCommon_ok (t : Ty) (ts : List Ty) (b o cap : Nat) (w : World) (hA : TysAt w b o (t :: ts)) (hlen : ts.length ≤ 3000000000) (hb : b < w.heap.size) (ht : NumT t) (hts : ∀ t ∈ ts, NumT t) :
    Calls Tryz.prog 29 #[.slice (some ⟨b, o, none⟩) (ts.length + 1) cap] w fun e w' => e = .returned (.tuple #[(foldT t ts).v, .int .i64 0]) ∧ Below w.heap.size w w' := by
  obtain ⟨k0, p0, q0, rfl, N0⟩ := ht
  have HA := Lib.hid hA; have HT := Lib.hid hts; have M0 := Lib.hid N0
  clear hA hts N0
  have t1 : ((ts.length : Int) + 1 == 0) = false := by rw [beq_eq_false_iff_ne]; omega
  go_enter Tryz.func29, Tryz.ntmps29
  go_wp2_with fail
  go_at_call 59
  refine (asked_0 (nTy k0 p0 q0 :: ts) b o cap _ (HA.out.below hb (by go_grown)) (by simp; omega) (by simp; omega) (allN M0.out HT.out (fun t h => by obtain ⟨k, p, q, rfl, _⟩ := h; exact pic0)) (allN M0.out HT.out (fun t h => h.ok)) (allN M0.out HT.out (fun t h => h.num))).mono ?_
  rintro e w1 ⟨rfl, hb1⟩
  have hb0 : Below w.heap.size w w1 := below_then (by go_grown) hb1 (by simp <;> omega)
  have hR : BoxAt w1 w.heap.size zTy := BoxAt.fresh hb1
  obtain ⟨x0, x1, x2, x3, x4, x5⟩ := (HA.out.below hb hb0).atN 0 (by simp) (kd := k0) (p := p0) (q := q0) rfl
  simp only [Nat.zero_mul, Nat.add_zero] at x0 x1 x2 x3 x4 x5
  have g0 := hR.lt
  have HB0 := Lib.hid hb0; have HR := Lib.hid hR
  clear hb1 hb0 hR
  have s1 : (1 : Int) ≤ ↑ts.length + 1 := by omega
  go_wp2_with fail
  have hbox : BoxAt (w1.alloc (tyObj (nTy k0 p0 q0))) w1.heap.size (nTy k0 p0 q0) := heap_alloc_last _ _
  have HBOX := Lib.hid hbox
  clear hbox x0 x1 x2 x3 x4 x5
  obtain ⟨bx, hbx⟩ : ∃ bx, bx = w1.heap.size := ⟨_, rfl⟩
  rw [← hbx] at HBOX ⊢
  have hlx : w.heap.size < bx := by omega
  have HL := Lib.hid hlx
  clear hbx g0 hlx
  have l0 : w.heap.size < bx := HL.out
  have l0n : ¬ bx = w.heap.size := by omega
  have l0m : ¬ w.heap.size = bx := by omega
  have lb : ¬ bx = b := by omega
  have lb' : ¬ b = bx := by omega
  have e1 : (Value.int IntKind.i64 1) = .int .i64 ((1 : Nat) : Int) := rfl
  rw [e1]
  clear e1
  go_loopw [6] (fun i wr => ∃ m : Nat, 1 ≤ m ∧ m ≤ ts.length + 1 ∧ i = .int .i64 m ∧ BoxAt wr bx (foldT (nTy k0 p0 q0) (ts.take (m - 1))) ∧ BoxAt wr w.heap.size zTy ∧ Below w.heap.size w wr) (fun i _ => ts.length + 1 - (intOf i).toNat)
  case atStart => exact ⟨1, by omega, by omega, rfl, HBOX.out, (HR.out.past (by exact Below.refl _ _)), HB0.out.alloc HB0.out.size _⟩
  case round =>
    obtain ⟨m, hm, hm', rfl, hX, hZ, hB⟩ := hrel
    have hl1 := hX.lt
    by_cases hlt : m < ts.length + 1
    · obtain ⟨k1, p1, q1, e1, N1⟩ := foldT_take_num (m - 1) ⟨_, _, _, rfl, M0.out⟩ HT.out
      have hm1 : m - 1 < ts.length := by omega
      obtain ⟨k2, p2, q2, e2, N2⟩ := HT.out _ (List.getElem_mem hm1)
      have e3 : (nTy k0 p0 q0 :: ts)[m]'(by simpa using hlt) = nTy k2 p2 q2 := by
        rw [← e2, List.getElem_cons, dif_neg (by omega)]
      obtain ⟨c0, c1, c2, c3, c4, c5⟩ := (HA.out.below hb hB).atN m (by simpa using hlt) e3
      obtain ⟨x0, x1, x2, x3, x4, x5⟩ := hX.cells' e1
      have xf := hX.free
      have hlt' : (m : Int) < ↑ts.length + 1 := by omega
      have E1 := Lib.hid e1; have E2 := Lib.hid e2; have M1 := Lib.hid N1; have M2 := Lib.hid N2
      have HX := Lib.hid hX; have HZ := Lib.hid hZ; have HB := Lib.hid hB
      have gb : b < wr.heap.size := by omega
      clear e1 e2 e3 N1 N2 hX hZ hB
      go_wp2_with fail
      go_region_with (go_at_call 76; refine (rcommon k1 p1 q1 k2 p2 q2 _ M1.out M2.out).mono ?_; rintro e w2 ⟨rfl, hb2⟩; have hb2' : Below wr.heap.size wr w2 := below_then (by first | exact Below.refl _ _ | exact (Below.refl _ _).drew) hb2 (by simp); obtain ⟨y0, y1, y2, y3, y4, y5⟩ := (HX.out.below hl1 hb2').cells' E1.out; have yf := (HX.out.below hl1 hb2').free; have l2 := (HX.out.below hl1 hb2').lt)
      all_goals
        have HX2 := Lib.hid (HX.out.below hl1 hb2')
        have HZ2 := Lib.hid (HZ.out.below HZ.out.lt hb2')
        have HW2 := Lib.hid (below_then HB.out hb2' HB.out.size)
        clear hb2 hb2' yf x0 x1 x2 x3 x4 x5 xf c0 c1 c2 c3 c4 c5
        go_wp2
        go_roundw
        case rel =>
          refine ⟨m + 1, by omega, by omega, by go_num, ?_, ?_, ?_⟩
          · have e4 : m + 1 - 1 = (m - 1) + 1 := by omega
            rw [e4, foldT_succ _ ts (m - 1) hm1, E1.out, E2.out]; exact HX2.out.set _ _ _
          · exact HZ2.out.setOther (by omega) _ _ _
          · exact set6_below HW2.out (by omega)
        case measure => simp [intOf]; omega
    · obtain rfl : m = ts.length + 1 := by omega
      obtain ⟨k1, p1, q1, e1, N1⟩ := foldT_num (a := nTy k0 p0 q0) ⟨_, _, _, rfl, M0.out⟩ HT.out
      rw [Nat.add_sub_cancel, List.take_length] at hX
      obtain ⟨x0, x1, x2, x3, x4, x5⟩ := hX.cells' e1
      obtain ⟨z0, z1, z2, z3, z4, z5⟩ := hZ.cells
      have zf := hZ.free
      have g0 := hZ.lt
      have E1 := Lib.hid e1
      have HB := Lib.hid hB
      clear e1 N1 hX hZ hB
      go_wp2
      refine bodyPost_ret (v := .tuple #[numV k1 p1 q1, .int .i64 0]) (by simp [results, Tryz.results29, go_sem, *]) rfl ⟨by rw [E1.out], ?_⟩
      (repeat refine Below.setCell ?_ (by simp <;> omega) _)
      exact HB.out
end Go.Proofs.YtcekphfmpjdbmaaGreatDoor
