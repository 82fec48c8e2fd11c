/- The document's Read of a text: pictures. -/
import Derived.Test.YtcekphfmpjdbmaaGreatDoorRRead1
import Derived.StillTailTactics
import Derived.IntWalk
namespace Go.Proofs.YtcekphfmpjdbmaaGreatDoor
open Go.RowKit

theorem pairUp_short (l : List UInt8) (h : l.length ≤ 1) : pairUp l = [] := by
  match l, h with
  | [], _ => rfl
  | [_], _ => rfl
theorem pairUp_q (d : UInt8) (r : List UInt8) : pairUp (39 :: d :: r) = 39 :: pairUp r := by simp [pairUp]
theorem pairUp_c (c d : UInt8) (r : List UInt8) (h : c ≠ 39) : pairUp (c :: d :: r) = c :: pairUp (d :: r) := by simp [pairUp, h]
theorem pairUp_len : ∀ (n : Nat) (l : List UInt8), l.length ≤ n → (pairUp l).length ≤ n := by
  intro n
  induction n with
  | zero => intro l h; rw [pairUp_short l (by omega)]; simp
  | succ n ih =>
    intro l h
    match l, h with
    | [], _ => simp [pairUp]
    | [_], _ => simp [pairUp]
    | c :: d :: r, h =>
      simp only [List.length_cons] at h
      by_cases hc : c = 39
      · subst hc; rw [pairUp_q]; have := ih r (by omega); simp; omega
      · rw [pairUp_c c d r hc]; have := ih (d :: r) (by simp; omega); simp; omega

set_option maxRecDepth 100000 in
set_option maxHeartbeats 8000000 in
theorem rRead_6 (s : ByteArray) (hs : s.size ≤ 100000) (e1 : Lib.hasPrefix s.data.toList (ByteArray.mk #[70, 73, 88, 69, 68, 32, 66, 73, 78, 40]).data.toList = false) (e2 : Lib.hasPrefix s.data.toList (ByteArray.mk #[70, 73, 88, 69, 68, 32, 68, 69, 67, 40]).data.toList = false) (e3 : Lib.hasPrefix s.data.toList (ByteArray.mk #[70, 76, 79, 65, 84, 32, 68, 69, 67, 40]).data.toList = false) (e4 : Lib.hasPrefix s.data.toList (ByteArray.mk #[67, 72, 65, 82, 40]).data.toList = false) (e5 : Lib.hasPrefix s.data.toList (ByteArray.mk #[66, 73, 84, 40]).data.toList = false) (e6 : Lib.hasPrefix s.data.toList (ByteArray.mk #[80, 73, 67, 39]).data.toList = true) (e7 : (s.toList == [80, 84, 82]) = false) (e8 : (s.toList == [76, 65, 66, 69, 76]) = false) (e9 : (s.toList == [69, 78, 84, 82, 89]) = false) (L : ByteArray) (hD : bs (s.data.toList.drop (ByteArray.mk #[80, 73, 67, 39]).size) = L) (hlong : s.size ≤ 200) : ReadsAs s ⟨6, 0, 0, 0, false, (bs (pairUp L.data.toList))⟩ := by
  intro w
  have E1 := Lib.hid e1
  have E2 := Lib.hid e2
  have E3 := Lib.hid e3
  have E4 := Lib.hid e4
  have E5 := Lib.hid e5
  have E6 := Lib.hid e6
  clear e1 e2 e3 e4 e5 e6
  have hLn : L.size ≤ 200 := by rw [← hD, size_bs, List.length_drop, size_list]; omega
  have HD := Lib.hid hD
  have hpl : (bs (pairUp L.data.toList)).size ≤ maxLen := by
    have := pairUp_len 200 L.data.toList (by rw [size_list]; exact hLn)
    rw [size_bs]; unfold maxLen; omega
  have HPIC := Lib.hid hpl
  have hs200 : (s.size : Int) ≤ 200 := by omega
  clear hD hpl
  go_enter Tryz.func40, Tryz.ntmps40
  go_wp2_with (first
    | (go_at_call 105; ((with_reducible refine (begins_no s ⟨#[70, 73, 88, 69, 68, 32, 66, 73, 78, 40]⟩ _ hs (by decide) E1.out).mono ?_)); rintro e w2 ⟨rfl, rfl⟩)
    | (go_at_call 105; ((with_reducible refine (begins_no s ⟨#[70, 73, 88, 69, 68, 32, 68, 69, 67, 40]⟩ _ hs (by decide) E2.out).mono ?_)); rintro e w2 ⟨rfl, rfl⟩)
    | (go_at_call 105; ((with_reducible refine (begins_no s ⟨#[70, 76, 79, 65, 84, 32, 68, 69, 67, 40]⟩ _ hs (by decide) E3.out).mono ?_)); rintro e w2 ⟨rfl, rfl⟩)
    | (go_at_call 105; ((with_reducible refine (begins_no s ⟨#[67, 72, 65, 82, 40]⟩ _ hs (by decide) E4.out).mono ?_)); rintro e w2 ⟨rfl, rfl⟩)
    | (go_at_call 105; ((with_reducible refine (begins_no s ⟨#[66, 73, 84, 40]⟩ _ hs (by decide) E5.out).mono ?_)); rintro e w2 ⟨rfl, rfl⟩))
  go_at_call 105
  ((with_reducible refine (begins_yes s ⟨#[80, 73, 67, 39]⟩ _ hs (by decide) E6.out).mono ?_))
  rintro e w2 ⟨rfl, rfl⟩
  rw [show bs (s.data.toList.drop (ByteArray.mk #[80, 73, 67, 39]).size) = L from HD.out]
  have xB0 : Hid (BoxAt ((w.alloc zeroTy).alloc (tyObj ⟨6, 0, 0, 0, false, ⟨#[]⟩⟩)) (w.heap.size + 1) ⟨6, 0, 0, 0, false, ⟨#[]⟩⟩) := heap_alloc2_new _ _ _
  have zB0 : Hid (BoxAt ((w.alloc zeroTy).alloc (tyObj ⟨6, 0, 0, 0, false, ⟨#[]⟩⟩)) w.heap.size zTy') := heap_alloc2_old _ _ _
  have hW0 : Hid (Below w.heap.size w ((w.alloc zeroTy).alloc (tyObj ⟨6, 0, 0, 0, false, ⟨#[]⟩⟩))) := (by go_grown : Below w.heap.size w ((w.alloc zeroTy).alloc (tyObj ⟨6, 0, 0, 0, false, ⟨#[]⟩⟩)))
  go_wp2
  go_loopw [17] (fun u wr => ∃ (i : Nat) (l : List UInt8), i ≤ L.size + 1 ∧ l.length ≤ i ∧ u = .int .i64 i ∧ BoxAt wr (w.heap.size + 1) ⟨6, 0, 0, 0, false, bs l⟩ ∧ BoxAt wr w.heap.size zTy' ∧ Below w.heap.size w wr ∧ Hid (l ++ pairUp (L.data.toList.drop i) = pairUp L.data.toList)) (fun u _ => L.size + 2 - (intOf u).toNat)
  case atStart => exact ⟨0, [], by omega, by simp, rfl, xB0.out, zB0.out, hW0.out, rfl⟩
  case round =>
    obtain ⟨i, l, hi, hll, rfl, hX, hZ, hB, HP⟩ := hrel
    have lt1 := hX.lt
    obtain ⟨x0, x1, x2, x3, x4, x5⟩ := hX.cells
    have xf := hX.free
    have xB1 := Lib.hid hX; have zB1 := Lib.hid hZ; have hW1 := Lib.hid hB
    clear hX hZ hB
    by_cases hlt : i + 1 < L.size
    · have hlt' : (i : Int) + 1 < L.size := by omega
      have hi0 : (i : Int) < L.size := by omega
      have hi1 : i < L.size := by omega
      have hx := extract_one L i hi1
      have s2 : ∀ W : World, (Op.stringOp .add (bs l) (L.extract i (i + 1))).run Tryz.prog W = .ok (.string (bs (l ++ [L[i]]))) W := fun W => by
        rw [hx]; exact sadd l [L[i]] _ rfl (by omega) (by simp) W
      obtain ⟨z, hz⟩ : ∃ z, z = l ++ [L[i]] := ⟨_, rfl⟩
      rw [← hz] at s2
      have HZ := Lib.hid hz
      have hd1 := drop_cons L i hi1
      have hd2 := drop_cons L (i + 1) hlt
      have HD1 := Lib.hid hd1; have HD2 := Lib.hid hd2
      clear hz hx hd1 hd2
      by_cases hq : L[i] = 39
      · have hb1 : ((L[i].toNat : Int) == 39) = true := by rw [hq]; rfl
        have HQ := Lib.hid hq
        clear hq
        have e1 : IntKind.i64.wrap ((i : Int) + 1) = (i : Int) + 1 := IntWalk.i64_in _ (by omega)
        have e2 : ((i : Int) + 1).toNat = i + 1 := by omega
        go_wp2
        go_region_with (fail)
        all_goals
          clear e1 e2
          go_wp2
          go_roundw
          case rel =>
            refine ⟨i + 2, z, by omega, by rw [HZ.out]; simp; omega, by go_num, xB1.out.setS (bs z), zB1.out.setC (a := ⟨w.heap.size + 1, 5, none⟩) (by simp), ?_, ?_⟩
            · first
                | exact hW1.out.setCell (by simp) _
                | exact (hW1.out.setCell (by simp) _).drew
                | exact hW1.out.drew.setCell (by simp) _
            · have h := HP.out
              rw [HD1.out, HD2.out, HQ.out, pairUp_q] at h
              show z ++ pairUp (L.data.toList.drop (i + 2)) = _
              rw [HZ.out, HQ.out, List.append_assoc]
              exact h
          case measure => simp [intOf]; omega
      · have hb1 : ((L[i].toNat : Int) == 39) = false := by
          rw [beq_eq_false_iff_ne]
          intro h
          exact hq (UInt8.toNat_inj.1 (by show L[i].toNat = 39; omega))
        have HQ := Lib.hid hq
        clear hq
        have e1 : IntKind.i64.wrap ((i : Int) + 1) = (i : Int) + 1 := IntWalk.i64_in _ (by omega)
        have e2 : ((i : Int) + 1).toNat = i + 1 := by omega
        go_wp2
        go_region_with (fail)
        all_goals
          clear e1 e2
          go_wp2
          go_roundw
          case rel =>
            refine ⟨i + 1, z, by omega, by rw [HZ.out]; simp; omega, by go_num, xB1.out.setS (bs z), zB1.out.setC (a := ⟨w.heap.size + 1, 5, none⟩) (by simp), ?_, ?_⟩
            · first
                | exact hW1.out.setCell (by simp) _
                | exact (hW1.out.setCell (by simp) _).drew
                | exact hW1.out.drew.setCell (by simp) _
            · have h := HP.out
              rw [HD1.out, HD2.out, pairUp_c _ _ _ HQ.out, ← HD2.out] at h
              show z ++ pairUp (L.data.toList.drop (i + 1)) = _
              rw [HZ.out, List.append_assoc]
              exact h
          case measure => simp [intOf]; omega
    · have hge : ¬ (i : Int) + 1 < L.size := by omega
      have hl : l = pairUp L.data.toList := by
        have h := HP.out
        rw [pairUp_short _ (by rw [List.length_drop, size_list]; omega), List.append_nil] at h
        exact h
      subst hl
      have xB := xB1; have zB := zB1; have hW := hW1
      clear xB1 zB1 hW1
      go_wp2_with fail
      rcases Classical.em ((Ty.mk 6 0 0 0 false (bs (pairUp L.data.toList))).ok = true ∧ (Ty.mk 6 0 0 0 false (bs (pairUp L.data.toList))).txt = s.data.toList) with hy | hy
      · have HY := Lib.hid hy; have HR := Lib.hid (rd_yes hy)
        have q1 : ((Ty.mk 6 0 0 0 false (bs (pairUp L.data.toList))).txt == s.toList) = true := by rw [beq_iff_eq, ByteArray.toList_eq]; exact hy.2
        have q2 : ((Ty.mk 6 0 0 0 false (bs (pairUp L.data.toList))).txt != s.toList) = false := by rw [bne, q1]; rfl
        clear hy
        go_at_call 38
        refine (refText_any (Ty.mk 6 0 0 0 false (bs (pairUp L.data.toList))) _ HY.out.1).mono ?_
        rintro e w9 ⟨rfl, hb⟩
        have xB2 := Lib.hid (xB.out.below xB.out.lt hb)
        have zB2 := Lib.hid (zB.out.below zB.out.lt hb)
        have hW2 := Lib.hid (below_then hW.out hb hW.out.size)
        clear hb
        obtain ⟨x0, x1, x2, x3, x4, x5⟩ := xB2.out.cells
        obtain ⟨z0, z1, z2, z3, z4, z5⟩ := zB2.out.cells
        have zf := zB2.out.free
        go_upto_region 46 with fail
        iterate 40 (first | go_values | go_skip | go_guarded | go_step | go_upon | go_simp | skip)
        obtain ⟨hr1, hr2⟩ := HR.out
        rw [hr1, hr2]
        have hbx := zB2.out.set6g 6 0 0 0 false (bs (pairUp L.data.toList))
        obtain ⟨b0, b1, b2, b3, b4, b5⟩ := hbx.cells
        refine bodyPost_ret (v := .tuple #[tyV 6 0 0 0 false (bs (pairUp L.data.toList)), .int .i64 0]) (by simp only [results, Tryz.results40]; simp [go_sem, b0, b1, b2, b3, b4, b5, z0, z1, z2, z3, z4, z5]) rfl ⟨rfl, ?_⟩
        exact (((((hW2.out.setCell (Nat.le_refl _) _).setCell (Nat.le_refl _) _).setCell (Nat.le_refl _) _).setCell (Nat.le_refl _) _).setCell (Nat.le_refl _) _).setCell (Nat.le_refl _) _
      · have HR := Lib.hid (rd_no hy)
        cases hv : (Ty.mk 6 0 0 0 false (bs (pairUp L.data.toList))).ok with
        | false =>
          have HV := Lib.hid hv
          clear hv hy
          go_at_call 38
          refine (refText_13 _ _ _ _ _ _ _ HPIC.out HV.out).mono ?_
          rintro e w9 ⟨rfl, hb⟩
          have zB2 := Lib.hid (zB.out.below zB.out.lt hb)
          have hW2 := Lib.hid (below_then hW.out hb hW.out.size)
          clear hb
          obtain ⟨z0, z1, z2, z3, z4, z5⟩ := zB2.out.cells
          have zf := zB2.out.free
          go_upto_region 45 with fail
          iterate 40 (first | go_values | go_skip | go_guarded | go_step | go_upon | go_simp | skip)
          obtain ⟨hr1, hr2⟩ := HR.out
          rw [hr1, hr2]
          refine bodyPost_ret (v := .tuple #[tyV 0 0 0 0 false ⟨#[]⟩, .int .i64 2]) (by simp [results, Tryz.results40, go_sem, z0, z1, z2, z3, z4, z5]) rfl ⟨rfl, ?_⟩
          exact (((((hW2.out.setCell (Nat.le_refl _) _).setCell (Nat.le_refl _) _).setCell (Nat.le_refl _) _).setCell (Nat.le_refl _) _).setCell (Nat.le_refl _) _).setCell (Nat.le_refl _) _
        | true =>
          have HV := Lib.hid hv
          have q1 : ((Ty.mk 6 0 0 0 false (bs (pairUp L.data.toList))).txt == s.toList) = false := by rw [beq_eq_false_iff_ne, ByteArray.toList_eq]; exact fun h => hy ⟨hv, h⟩
          have q2 : ((Ty.mk 6 0 0 0 false (bs (pairUp L.data.toList))).txt != s.toList) = true := by rw [bne, q1]; rfl
          clear hv hy
          go_at_call 38
          refine (refText_any (Ty.mk 6 0 0 0 false (bs (pairUp L.data.toList))) _ HV.out).mono ?_
          rintro e w9 ⟨rfl, hb⟩
          have zB2 := Lib.hid (zB.out.below zB.out.lt hb)
          have hW2 := Lib.hid (below_then hW.out hb hW.out.size)
          clear hb
          obtain ⟨z0, z1, z2, z3, z4, z5⟩ := zB2.out.cells
          have zf := zB2.out.free
          go_upto_region 45 with fail
          iterate 40 (first | go_values | go_skip | go_guarded | go_step | go_upon | go_simp | skip)
          obtain ⟨hr1, hr2⟩ := HR.out
          rw [hr1, hr2]
          refine bodyPost_ret (v := .tuple #[tyV 0 0 0 0 false ⟨#[]⟩, .int .i64 2]) (by simp [results, Tryz.results40, go_sem, z0, z1, z2, z3, z4, z5]) rfl ⟨rfl, ?_⟩
          exact (((((hW2.out.setCell (Nat.le_refl _) _).setCell (Nat.le_refl _) _).setCell (Nat.le_refl _) _).setCell (Nat.le_refl _) _).setCell (Nat.le_refl _) _).setCell (Nat.le_refl _) _

end Go.Proofs.YtcekphfmpjdbmaaGreatDoor
