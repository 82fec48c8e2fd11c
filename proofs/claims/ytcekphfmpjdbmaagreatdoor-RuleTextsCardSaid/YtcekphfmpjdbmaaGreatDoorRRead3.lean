/- The document's Read of a text: fixed numbers. -/
import Derived.Test.YtcekphfmpjdbmaaGreatDoorRRead1
namespace Go.Proofs.YtcekphfmpjdbmaaGreatDoor
open Go.RowKit

set_option maxRecDepth 100000 in
set_option maxHeartbeats 8000000 in
theorem rRead_1a (s : ByteArray) (hs : s.size ≤ 100000) (e1 : Lib.hasPrefix s.data.toList (ByteArray.mk #[70, 73, 88, 69, 68, 32, 66, 73, 78, 40]).data.toList = true) (e2 : Lib.hasPrefix s.data.toList (ByteArray.mk #[70, 73, 88, 69, 68, 32, 68, 69, 67, 40]).data.toList = false) (e3 : Lib.hasPrefix s.data.toList (ByteArray.mk #[70, 76, 79, 65, 84, 32, 68, 69, 67, 40]).data.toList = false) (e4 : Lib.hasPrefix s.data.toList (ByteArray.mk #[67, 72, 65, 82, 40]).data.toList = false) (e5 : Lib.hasPrefix s.data.toList (ByteArray.mk #[66, 73, 84, 40]).data.toList = false) (e6 : Lib.hasPrefix s.data.toList (ByteArray.mk #[80, 73, 67, 39]).data.toList = false) (e7 : (s.toList == [80, 84, 82]) = false) (e8 : (s.toList == [76, 65, 66, 69, 76]) = false) (e9 : (s.toList == [69, 78, 84, 82, 89]) = false) (L : List UInt8) (n1 : Int) (hD : s.data.toList.drop (ByteArray.mk #[70, 73, 88, 69, 68, 32, 66, 73, 78, 40]).size = L) (hT : takeN 3 0 L = (n1, [])) : ReadsAs s ⟨1, n1, 0, 0, false, ⟨#[]⟩⟩ := by
  intro w
  have E1 := Lib.hid e1
  have E2 := Lib.hid e2
  have E3 := Lib.hid e3
  have E4 := Lib.hid e4
  have E5 := Lib.hid e5
  have E6 := Lib.hid e6
  clear e1 e2 e3 e4 e5 e6
  have HD := Lib.hid hD; have HT := Lib.hid hT
  have hls : (bs L).size ≤ 100000 := by rw [size_bs, ← hD, List.length_drop, size_list]; omega
  have HLS := Lib.hid hls
  clear hD hT hls
  have HPIC := Lib.hid pic0
  go_enter Tryz.func40, Tryz.ntmps40
  go_wp2_with (first
    | (go_at_call 105; ((with_reducible refine (begins_no s ⟨#[70, 73, 88, 69, 68, 32, 68, 69, 67, 40]⟩ _ hs (by decide) E2.out).mono ?_)); rintro e w2 ⟨rfl, rfl⟩)
    | (go_at_call 105; ((with_reducible refine (begins_no s ⟨#[70, 76, 79, 65, 84, 32, 68, 69, 67, 40]⟩ _ hs (by decide) E3.out).mono ?_)); rintro e w2 ⟨rfl, rfl⟩)
    | (go_at_call 105; ((with_reducible refine (begins_no s ⟨#[67, 72, 65, 82, 40]⟩ _ hs (by decide) E4.out).mono ?_)); rintro e w2 ⟨rfl, rfl⟩)
    | (go_at_call 105; ((with_reducible refine (begins_no s ⟨#[66, 73, 84, 40]⟩ _ hs (by decide) E5.out).mono ?_)); rintro e w2 ⟨rfl, rfl⟩)
    | (go_at_call 105; ((with_reducible refine (begins_no s ⟨#[80, 73, 67, 39]⟩ _ hs (by decide) E6.out).mono ?_)); rintro e w2 ⟨rfl, rfl⟩))
  go_at_call 105
  ((with_reducible refine (begins_yes s ⟨#[70, 73, 88, 69, 68, 32, 66, 73, 78, 40]⟩ _ hs (by decide) E1.out).mono ?_))
  rintro e w2 ⟨rfl, rfl⟩
  rw [show s.data.toList.drop (ByteArray.mk #[70, 73, 88, 69, 68, 32, 66, 73, 78, 40]).size = L from HD.out]
  go_wp2_with fail
  go_at_call 106
  refine (number_ref (bs L) _ HLS.out).mono ?_
  rintro e w2 ⟨rfl, hb⟩
  rw [show takeN 3 0 (bs L).data.toList = (n1, []) from HT.out]
  have xB1 := Lib.hid ((BoxAt.below (t := ⟨1, 0, 0, 0, false, ⟨#[]⟩⟩) (heap_alloc2_new _ _ _) (by simp) hb))
  have zB1 := Lib.hid ((BoxAt.below (t := zTy') (heap_alloc2_old _ _ _) (by simp <;> omega) hb))
  have hW1 := Lib.hid (below_then (by go_grown) hb (by simp <;> omega) : Below w.heap.size w w2)
  have lt1 := xB1.out.lt
  clear hb
  obtain ⟨x0, x1, x2, x3, x4, x5⟩ := xB1.out.cells
  have xf := xB1.out.free
  go_wp2_with (first
    | (go_at_call 105; ((with_reducible refine (begins_no s ⟨#[70, 73, 88, 69, 68, 32, 68, 69, 67, 40]⟩ _ hs (by decide) E2.out).mono ?_)); rintro e w2 ⟨rfl, rfl⟩)
    | (go_at_call 105; ((with_reducible refine (begins_no s ⟨#[70, 76, 79, 65, 84, 32, 68, 69, 67, 40]⟩ _ hs (by decide) E3.out).mono ?_)); rintro e w2 ⟨rfl, rfl⟩)
    | (go_at_call 105; ((with_reducible refine (begins_no s ⟨#[67, 72, 65, 82, 40]⟩ _ hs (by decide) E4.out).mono ?_)); rintro e w2 ⟨rfl, rfl⟩)
    | (go_at_call 105; ((with_reducible refine (begins_no s ⟨#[66, 73, 84, 40]⟩ _ hs (by decide) E5.out).mono ?_)); rintro e w2 ⟨rfl, rfl⟩)
    | (go_at_call 105; ((with_reducible refine (begins_no s ⟨#[80, 73, 67, 39]⟩ _ hs (by decide) E6.out).mono ?_)); rintro e w2 ⟨rfl, rfl⟩))
  have xB := Lib.hid (xB1.out.setP n1)
  have zB := Lib.hid (zB1.out.setC (a := ⟨w.heap.size + 1, 1, none⟩) (v := .int .i64 n1) (by simp))
  have hW := Lib.hid (show Below w.heap.size w (w2.setCell ⟨w.heap.size + 1, 1, none⟩ (.int .i64 n1)) from hW1.out.setCell (by simp) _)
  clear x0 x1 x2 x3 x4 x5 xf
  rcases Classical.em ((Ty.mk 1 n1 0 0 false ⟨#[]⟩).ok = true ∧ (Ty.mk 1 n1 0 0 false ⟨#[]⟩).txt = s.data.toList) with hy | hy
  · have HY := Lib.hid hy; have HR := Lib.hid (rd_yes hy)
    have q1 : ((Ty.mk 1 n1 0 0 false ⟨#[]⟩).txt == s.toList) = true := by rw [beq_iff_eq, ByteArray.toList_eq]; exact hy.2
    have q2 : ((Ty.mk 1 n1 0 0 false ⟨#[]⟩).txt != s.toList) = false := by rw [bne, q1]; rfl
    clear hy
    go_at_call 38
    refine (refText_any (Ty.mk 1 n1 0 0 false ⟨#[]⟩) _ HY.out.1).mono ?_
    rintro e w9 ⟨rfl, hb⟩
    have xB2 := Lib.hid (xB.out.below xB.out.lt hb)
    have zB2 := Lib.hid (zB.out.below zB.out.lt hb)
    have hW2 := Lib.hid (below_then hW.out hb hW.out.size)
    clear hb
    obtain ⟨x0, x1, x2, x3, x4, x5⟩ := xB2.out.cells
    obtain ⟨z0, z1, z2, z3, z4, z5⟩ := zB2.out.cells
    have zf := zB2.out.free
    go_upto_region 46 with fail
    iterate 40 (first | go_values | go_skip | go_guarded | go_step | go_upon | go_simp | skip)
    obtain ⟨hr1, hr2⟩ := HR.out
    rw [hr1, hr2]
    have hbx := zB2.out.set6g 1 n1 0 0 false ⟨#[]⟩
    obtain ⟨b0, b1, b2, b3, b4, b5⟩ := hbx.cells
    refine bodyPost_ret (v := .tuple #[tyV 1 n1 0 0 false ⟨#[]⟩, .int .i64 0]) (by simp only [results, Tryz.results40]; simp [go_sem, b0, b1, b2, b3, b4, b5, z0, z1, z2, z3, z4, z5]) rfl ⟨rfl, ?_⟩
    exact (((((hW2.out.setCell (Nat.le_refl _) _).setCell (Nat.le_refl _) _).setCell (Nat.le_refl _) _).setCell (Nat.le_refl _) _).setCell (Nat.le_refl _) _).setCell (Nat.le_refl _) _
  · have HR := Lib.hid (rd_no hy)
    cases hv : (Ty.mk 1 n1 0 0 false ⟨#[]⟩).ok with
    | false =>
      have HV := Lib.hid hv
      clear hv hy
      go_at_call 38
      refine (refText_13 _ _ _ _ _ _ _ HPIC.out HV.out).mono ?_
      rintro e w9 ⟨rfl, hb⟩
      have zB2 := Lib.hid (zB.out.below zB.out.lt hb)
      have hW2 := Lib.hid (below_then hW.out hb hW.out.size)
      clear hb
      obtain ⟨z0, z1, z2, z3, z4, z5⟩ := zB2.out.cells
      have zf := zB2.out.free
      go_upto_region 45 with fail
      iterate 40 (first | go_values | go_skip | go_guarded | go_step | go_upon | go_simp | skip)
      obtain ⟨hr1, hr2⟩ := HR.out
      rw [hr1, hr2]
      refine bodyPost_ret (v := .tuple #[tyV 0 0 0 0 false ⟨#[]⟩, .int .i64 2]) (by simp [results, Tryz.results40, go_sem, z0, z1, z2, z3, z4, z5]) rfl ⟨rfl, ?_⟩
      exact (((((hW2.out.setCell (Nat.le_refl _) _).setCell (Nat.le_refl _) _).setCell (Nat.le_refl _) _).setCell (Nat.le_refl _) _).setCell (Nat.le_refl _) _).setCell (Nat.le_refl _) _
    | true =>
      have HV := Lib.hid hv
      have q1 : ((Ty.mk 1 n1 0 0 false ⟨#[]⟩).txt == s.toList) = false := by rw [beq_eq_false_iff_ne, ByteArray.toList_eq]; exact fun h => hy ⟨hv, h⟩
      have q2 : ((Ty.mk 1 n1 0 0 false ⟨#[]⟩).txt != s.toList) = true := by rw [bne, q1]; rfl
      clear hv hy
      go_at_call 38
      refine (refText_any (Ty.mk 1 n1 0 0 false ⟨#[]⟩) _ HV.out).mono ?_
      rintro e w9 ⟨rfl, hb⟩
      have zB2 := Lib.hid (zB.out.below zB.out.lt hb)
      have hW2 := Lib.hid (below_then hW.out hb hW.out.size)
      clear hb
      obtain ⟨z0, z1, z2, z3, z4, z5⟩ := zB2.out.cells
      have zf := zB2.out.free
      go_upto_region 45 with fail
      iterate 40 (first | go_values | go_skip | go_guarded | go_step | go_upon | go_simp | skip)
      obtain ⟨hr1, hr2⟩ := HR.out
      rw [hr1, hr2]
      refine bodyPost_ret (v := .tuple #[tyV 0 0 0 0 false ⟨#[]⟩, .int .i64 2]) (by simp [results, Tryz.results40, go_sem, z0, z1, z2, z3, z4, z5]) rfl ⟨rfl, ?_⟩
      exact (((((hW2.out.setCell (Nat.le_refl _) _).setCell (Nat.le_refl _) _).setCell (Nat.le_refl _) _).setCell (Nat.le_refl _) _).setCell (Nat.le_refl _) _).setCell (Nat.le_refl _) _

set_option maxRecDepth 100000 in
set_option maxHeartbeats 8000000 in
theorem rRead_2a (s : ByteArray) (hs : s.size ≤ 100000) (e1 : Lib.hasPrefix s.data.toList (ByteArray.mk #[70, 73, 88, 69, 68, 32, 66, 73, 78, 40]).data.toList = false) (e2 : Lib.hasPrefix s.data.toList (ByteArray.mk #[70, 73, 88, 69, 68, 32, 68, 69, 67, 40]).data.toList = true) (e3 : Lib.hasPrefix s.data.toList (ByteArray.mk #[70, 76, 79, 65, 84, 32, 68, 69, 67, 40]).data.toList = false) (e4 : Lib.hasPrefix s.data.toList (ByteArray.mk #[67, 72, 65, 82, 40]).data.toList = false) (e5 : Lib.hasPrefix s.data.toList (ByteArray.mk #[66, 73, 84, 40]).data.toList = false) (e6 : Lib.hasPrefix s.data.toList (ByteArray.mk #[80, 73, 67, 39]).data.toList = false) (e7 : (s.toList == [80, 84, 82]) = false) (e8 : (s.toList == [76, 65, 66, 69, 76]) = false) (e9 : (s.toList == [69, 78, 84, 82, 89]) = false) (L : List UInt8) (n1 : Int) (hD : s.data.toList.drop (ByteArray.mk #[70, 73, 88, 69, 68, 32, 68, 69, 67, 40]).size = L) (hT : takeN 3 0 L = (n1, [])) : ReadsAs s ⟨2, n1, 0, 0, false, ⟨#[]⟩⟩ := by
  intro w
  have E1 := Lib.hid e1
  have E2 := Lib.hid e2
  have E3 := Lib.hid e3
  have E4 := Lib.hid e4
  have E5 := Lib.hid e5
  have E6 := Lib.hid e6
  clear e1 e2 e3 e4 e5 e6
  have HD := Lib.hid hD; have HT := Lib.hid hT
  have hls : (bs L).size ≤ 100000 := by rw [size_bs, ← hD, List.length_drop, size_list]; omega
  have HLS := Lib.hid hls
  clear hD hT hls
  have HPIC := Lib.hid pic0
  go_enter Tryz.func40, Tryz.ntmps40
  go_wp2_with (first
    | (go_at_call 105; ((with_reducible refine (begins_no s ⟨#[70, 73, 88, 69, 68, 32, 66, 73, 78, 40]⟩ _ hs (by decide) E1.out).mono ?_)); rintro e w2 ⟨rfl, rfl⟩)
    | (go_at_call 105; ((with_reducible refine (begins_no s ⟨#[70, 76, 79, 65, 84, 32, 68, 69, 67, 40]⟩ _ hs (by decide) E3.out).mono ?_)); rintro e w2 ⟨rfl, rfl⟩)
    | (go_at_call 105; ((with_reducible refine (begins_no s ⟨#[67, 72, 65, 82, 40]⟩ _ hs (by decide) E4.out).mono ?_)); rintro e w2 ⟨rfl, rfl⟩)
    | (go_at_call 105; ((with_reducible refine (begins_no s ⟨#[66, 73, 84, 40]⟩ _ hs (by decide) E5.out).mono ?_)); rintro e w2 ⟨rfl, rfl⟩)
    | (go_at_call 105; ((with_reducible refine (begins_no s ⟨#[80, 73, 67, 39]⟩ _ hs (by decide) E6.out).mono ?_)); rintro e w2 ⟨rfl, rfl⟩))
  go_at_call 105
  ((with_reducible refine (begins_yes s ⟨#[70, 73, 88, 69, 68, 32, 68, 69, 67, 40]⟩ _ hs (by decide) E2.out).mono ?_))
  rintro e w2 ⟨rfl, rfl⟩
  rw [show s.data.toList.drop (ByteArray.mk #[70, 73, 88, 69, 68, 32, 68, 69, 67, 40]).size = L from HD.out]
  go_wp2_with fail
  go_at_call 106
  refine (number_ref (bs L) _ HLS.out).mono ?_
  rintro e w2 ⟨rfl, hb⟩
  rw [show takeN 3 0 (bs L).data.toList = (n1, []) from HT.out]
  have xB1 := Lib.hid ((BoxAt.below (t := ⟨2, 0, 0, 0, false, ⟨#[]⟩⟩) (heap_alloc2_new _ _ _) (by simp) hb))
  have zB1 := Lib.hid ((BoxAt.below (t := zTy') (heap_alloc2_old _ _ _) (by simp <;> omega) hb))
  have hW1 := Lib.hid (below_then (by go_grown) hb (by simp <;> omega) : Below w.heap.size w w2)
  have lt1 := xB1.out.lt
  clear hb
  obtain ⟨x0, x1, x2, x3, x4, x5⟩ := xB1.out.cells
  have xf := xB1.out.free
  go_wp2_with (first
    | (go_at_call 105; ((with_reducible refine (begins_no s ⟨#[70, 73, 88, 69, 68, 32, 66, 73, 78, 40]⟩ _ hs (by decide) E1.out).mono ?_)); rintro e w2 ⟨rfl, rfl⟩)
    | (go_at_call 105; ((with_reducible refine (begins_no s ⟨#[70, 76, 79, 65, 84, 32, 68, 69, 67, 40]⟩ _ hs (by decide) E3.out).mono ?_)); rintro e w2 ⟨rfl, rfl⟩)
    | (go_at_call 105; ((with_reducible refine (begins_no s ⟨#[67, 72, 65, 82, 40]⟩ _ hs (by decide) E4.out).mono ?_)); rintro e w2 ⟨rfl, rfl⟩)
    | (go_at_call 105; ((with_reducible refine (begins_no s ⟨#[66, 73, 84, 40]⟩ _ hs (by decide) E5.out).mono ?_)); rintro e w2 ⟨rfl, rfl⟩)
    | (go_at_call 105; ((with_reducible refine (begins_no s ⟨#[80, 73, 67, 39]⟩ _ hs (by decide) E6.out).mono ?_)); rintro e w2 ⟨rfl, rfl⟩))
  have xB := Lib.hid (xB1.out.setP n1)
  have zB := Lib.hid (zB1.out.setC (a := ⟨w.heap.size + 1, 1, none⟩) (v := .int .i64 n1) (by simp))
  have hW := Lib.hid (show Below w.heap.size w (w2.setCell ⟨w.heap.size + 1, 1, none⟩ (.int .i64 n1)) from hW1.out.setCell (by simp) _)
  clear x0 x1 x2 x3 x4 x5 xf
  rcases Classical.em ((Ty.mk 2 n1 0 0 false ⟨#[]⟩).ok = true ∧ (Ty.mk 2 n1 0 0 false ⟨#[]⟩).txt = s.data.toList) with hy | hy
  · have HY := Lib.hid hy; have HR := Lib.hid (rd_yes hy)
    have q1 : ((Ty.mk 2 n1 0 0 false ⟨#[]⟩).txt == s.toList) = true := by rw [beq_iff_eq, ByteArray.toList_eq]; exact hy.2
    have q2 : ((Ty.mk 2 n1 0 0 false ⟨#[]⟩).txt != s.toList) = false := by rw [bne, q1]; rfl
    clear hy
    go_at_call 38
    refine (refText_any (Ty.mk 2 n1 0 0 false ⟨#[]⟩) _ HY.out.1).mono ?_
    rintro e w9 ⟨rfl, hb⟩
    have xB2 := Lib.hid (xB.out.below xB.out.lt hb)
    have zB2 := Lib.hid (zB.out.below zB.out.lt hb)
    have hW2 := Lib.hid (below_then hW.out hb hW.out.size)
    clear hb
    obtain ⟨x0, x1, x2, x3, x4, x5⟩ := xB2.out.cells
    obtain ⟨z0, z1, z2, z3, z4, z5⟩ := zB2.out.cells
    have zf := zB2.out.free
    go_upto_region 46 with fail
    iterate 40 (first | go_values | go_skip | go_guarded | go_step | go_upon | go_simp | skip)
    obtain ⟨hr1, hr2⟩ := HR.out
    rw [hr1, hr2]
    have hbx := zB2.out.set6g 2 n1 0 0 false ⟨#[]⟩
    obtain ⟨b0, b1, b2, b3, b4, b5⟩ := hbx.cells
    refine bodyPost_ret (v := .tuple #[tyV 2 n1 0 0 false ⟨#[]⟩, .int .i64 0]) (by simp only [results, Tryz.results40]; simp [go_sem, b0, b1, b2, b3, b4, b5, z0, z1, z2, z3, z4, z5]) rfl ⟨rfl, ?_⟩
    exact (((((hW2.out.setCell (Nat.le_refl _) _).setCell (Nat.le_refl _) _).setCell (Nat.le_refl _) _).setCell (Nat.le_refl _) _).setCell (Nat.le_refl _) _).setCell (Nat.le_refl _) _
  · have HR := Lib.hid (rd_no hy)
    cases hv : (Ty.mk 2 n1 0 0 false ⟨#[]⟩).ok with
    | false =>
      have HV := Lib.hid hv
      clear hv hy
      go_at_call 38
      refine (refText_13 _ _ _ _ _ _ _ HPIC.out HV.out).mono ?_
      rintro e w9 ⟨rfl, hb⟩
      have zB2 := Lib.hid (zB.out.below zB.out.lt hb)
      have hW2 := Lib.hid (below_then hW.out hb hW.out.size)
      clear hb
      obtain ⟨z0, z1, z2, z3, z4, z5⟩ := zB2.out.cells
      have zf := zB2.out.free
      go_upto_region 45 with fail
      iterate 40 (first | go_values | go_skip | go_guarded | go_step | go_upon | go_simp | skip)
      obtain ⟨hr1, hr2⟩ := HR.out
      rw [hr1, hr2]
      refine bodyPost_ret (v := .tuple #[tyV 0 0 0 0 false ⟨#[]⟩, .int .i64 2]) (by simp [results, Tryz.results40, go_sem, z0, z1, z2, z3, z4, z5]) rfl ⟨rfl, ?_⟩
      exact (((((hW2.out.setCell (Nat.le_refl _) _).setCell (Nat.le_refl _) _).setCell (Nat.le_refl _) _).setCell (Nat.le_refl _) _).setCell (Nat.le_refl _) _).setCell (Nat.le_refl _) _
    | true =>
      have HV := Lib.hid hv
      have q1 : ((Ty.mk 2 n1 0 0 false ⟨#[]⟩).txt == s.toList) = false := by rw [beq_eq_false_iff_ne, ByteArray.toList_eq]; exact fun h => hy ⟨hv, h⟩
      have q2 : ((Ty.mk 2 n1 0 0 false ⟨#[]⟩).txt != s.toList) = true := by rw [bne, q1]; rfl
      clear hv hy
      go_at_call 38
      refine (refText_any (Ty.mk 2 n1 0 0 false ⟨#[]⟩) _ HV.out).mono ?_
      rintro e w9 ⟨rfl, hb⟩
      have zB2 := Lib.hid (zB.out.below zB.out.lt hb)
      have hW2 := Lib.hid (below_then hW.out hb hW.out.size)
      clear hb
      obtain ⟨z0, z1, z2, z3, z4, z5⟩ := zB2.out.cells
      have zf := zB2.out.free
      go_upto_region 45 with fail
      iterate 40 (first | go_values | go_skip | go_guarded | go_step | go_upon | go_simp | skip)
      obtain ⟨hr1, hr2⟩ := HR.out
      rw [hr1, hr2]
      refine bodyPost_ret (v := .tuple #[tyV 0 0 0 0 false ⟨#[]⟩, .int .i64 2]) (by simp [results, Tryz.results40, go_sem, z0, z1, z2, z3, z4, z5]) rfl ⟨rfl, ?_⟩
      exact (((((hW2.out.setCell (Nat.le_refl _) _).setCell (Nat.le_refl _) _).setCell (Nat.le_refl _) _).setCell (Nat.le_refl _) _).setCell (Nat.le_refl _) _).setCell (Nat.le_refl _) _

end Go.Proofs.YtcekphfmpjdbmaaGreatDoor
