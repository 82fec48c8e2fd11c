/- rule.folded at types, by the common type's closure. -/
import Derived.Test.YtcekphfmpjdbmaaGreatDoorCommon0
import Derived.Outline
namespace Go.Proofs.YtcekphfmpjdbmaaGreatDoor
open Go.RowKit

abbrev fnC (bf : Nat) : Value := .func (.func 146) #[] #[.pointer (some ⟨bf, 0, none⟩)]
abbrev zTy : Ty := ⟨0, 0, 0, 0, false, ⟨#[]⟩⟩

theorem TysAt.atN {w : World} {b o : Nat} {ts : List Ty} (h : TysAt w b o ts) (k : Nat) (hk : k < ts.length) {kd p q : Int} (e : ts[k] = nTy kd p q) :
      w.cell? ⟨b, o + k * 6, none⟩ = some (.int .i64 kd) ∧ w.cell? ⟨b, o + k * 6 + 1, none⟩ = some (.int .i64 p) ∧ w.cell? ⟨b, o + k * 6 + 2, none⟩ = some (.int .i64 q) ∧
      w.cell? ⟨b, o + k * 6 + 3, none⟩ = some (.int .i64 0) ∧ w.cell? ⟨b, o + k * 6 + 4, none⟩ = some (.bool false) ∧ w.cell? ⟨b, o + k * 6 + 5, none⟩ = some (.string ⟨#[]⟩) := by
  have h' := h k hk
  rw [e] at h'
  exact ⟨h' 0 _ rfl, h' 1 _ rfl, h' 2 _ rfl, h' 3 _ rfl, h' 4 _ rfl, h' 5 _ rfl⟩

theorem BoxAt.cells' {w : World} {b : Nat} {t : Ty} {k p q : Int} (h : BoxAt w b t) (e : t = nTy k p q) :
    w.cell? ⟨b, 0, none⟩ = some (.int .i64 k) ∧ w.cell? ⟨b, 1, none⟩ = some (.int .i64 p) ∧ w.cell? ⟨b, 2, none⟩ = some (.int .i64 q) ∧
      w.cell? ⟨b, 3, none⟩ = some (.int .i64 0) ∧ w.cell? ⟨b, 4, none⟩ = some (.bool false) ∧ w.cell? ⟨b, 5, none⟩ = some (.string ⟨#[]⟩) := by
  subst e; exact h.cells

set_option maxRecDepth 100000 in
set_option maxHeartbeats 2000000 in
theorem folded_any (a : Ty) (ts : List Ty) (b o cap bf : Nat) (w : World) (ha : NumT a) (hts : ∀ t ∈ ts, NumT t) (hA : TysAt w b o ts) (hlen : ts.length ≤ 4000000000) (hb : b < w.heap.size)
    (hbf : w.cell? ⟨bf, 0, none⟩ = some (.func (.func 85) #[] #[])) (hlf : bf < w.heap.size) :
    Calls Tryz.prog 83 #[a.v, .slice (some ⟨b, o, none⟩) ts.length cap, fnC bf] w fun e w' => e = .returned (foldT a ts).v ∧ Below w.heap.size w w' := by
  have HA := Lib.hid hA
  have HT := Lib.hid hts
  have HN := Lib.hid ha
  have HBF := Lib.hid hbf
  clear hA hts ha hbf
  go_enter Tryz.func83, Tryz.ntmps83
  go_wp2
  go_loopw [11] (fun i wr => ∃ k : Nat, k ≤ ts.length ∧ i = .int .i64 k ∧ BoxAt wr w.heap.size (foldT a (ts.take k)) ∧ BoxAt wr (w.heap.size + 1) zTy ∧ Below w.heap.size w wr) (fun i _ => ts.length - (intOf i).toNat)
  case atStart => exact ⟨0, Nat.zero_le _, rfl, heap_alloc2_old _ _ _, heap_alloc2_new _ _ _, by go_grown⟩
  case round =>
    obtain ⟨k, hk, rfl, hX, hZ, hB⟩ := hrel
    have hl1 := hZ.lt
    by_cases hlt : k < ts.length
    · obtain ⟨k1, p1, q1, e1, N1⟩ := foldT_take_num k HN.out HT.out
      obtain ⟨k2, p2, q2, e2, N2⟩ := HT.out _ (List.getElem_mem hlt)
      obtain ⟨c0, c1, c2, c3, c4, c5⟩ := (HA.out.below hb hB).atN k hlt e2
      obtain ⟨x0, x1, x2, x3, x4, x5⟩ := hX.cells' e1
      have E1 := Lib.hid e1; have E2 := Lib.hid e2; have M1 := Lib.hid N1; have M2 := Lib.hid N2
      have HX := Lib.hid hX; have HZ := Lib.hid hZ; have HB := Lib.hid hB
      clear e1 e2 N1 N2 hX hZ hB
      have g0 : w.heap.size < wr.heap.size := by omega
      go_wp2_with fail
      go_at_call 146
      refine (based_c k1 p1 q1 k2 p2 q2 bf _ M1.out M2.out (by rw [World.cell?_alloc_lt _ _ _ (by simp; omega)]; exact (HB.out.cell (p := ⟨bf, 0, none⟩) hlf).trans HBF.out) (by simp; omega)).mono ?_
      rintro e w2 ⟨rfl, hb2⟩
      have hX2 := HX.out.past hb2
      have hZ2 := HZ.out.past hb2
      obtain ⟨y0, y1, y2, y3, y4, y5⟩ := hX2.cells' E1.out
      have yf := hX2.free
      have hw2 : Below w.heap.size w w2 := below_then (HB.out.alloc (by omega) _) hb2 (by simp; omega)
      have hl2 := hZ2.lt
      have g2 : w.heap.size < w2.heap.size := by omega
      have HX2 := Lib.hid hX2; have HZ2 := Lib.hid hZ2; have HW2 := Lib.hid hw2
      clear hX2 hZ2 hw2 hb2 x0 x1 x2 x3 x4 x5 c0 c1 c2 c3 c4 c5
      go_wp2
      go_roundw
      case rel =>
        refine ⟨k + 1, by omega, by go_num, ?_, ?_, ?_⟩
        · rw [foldT_succ a ts k hlt, E1.out, E2.out]; exact HX2.out.set _ _ _
        · exact HZ2.out.setOther (by omega) _ _ _
        · exact set6_below HW2.out (Nat.le_refl _)
      case measure => simp [intOf]; omega
    · obtain rfl : k = ts.length := by omega
      obtain ⟨k1, p1, q1, e1, N1⟩ := foldT_num HN.out HT.out
      rw [List.take_length] at hX
      obtain ⟨x0, x1, x2, x3, x4, x5⟩ := hX.cells' e1
      obtain ⟨z0, z1, z2, z3, z4, z5⟩ := hZ.cells
      have zf := hZ.free
      have E1 := Lib.hid e1
      have HB := Lib.hid hB
      clear e1 N1 hX hZ hB
      have g0 : w.heap.size < wr.heap.size := by omega
      go_wp2
      refine bodyPost_ret (v := numV k1 p1 q1) (by simp [results, Tryz.results83, go_sem, *]) rfl ⟨by rw [E1.out], ?_⟩
      (repeat refine Below.setCell ?_ (by simp <;> omega) _)
      exact HB.out

set_option maxHeartbeats 2000000 in
theorem folded_nil (a : Ty) (sa : Option Addr) (cap : Nat) (fv : Value) (w : World) (ha : NumT a) :
    Calls Tryz.prog 83 #[a.v, .slice sa 0 cap, fv] w fun e w' => e = .returned a.v ∧ Below w.heap.size w w' := by
  obtain ⟨k, p, q, rfl, _⟩ := ha
  go_enter Tryz.func83, Tryz.ntmps83
  go_wp2
  refine wp_loop_rounds 1 ?_
  rw [rounds_succ]
  go_wp2
  refine bodyPost_ret (v := numV k p q) (by simp [results, Tryz.results83, go_sem]) rfl ⟨rfl, by go_grown⟩
end Go.Proofs.YtcekphfmpjdbmaaGreatDoor
