/- The document's Text of a picture, and of any valid type. -/
import Derived.Test.YtcekphfmpjdbmaaGreatDoorRTxt1
namespace Go.Proofs.YtcekphfmpjdbmaaGreatDoor
open Go.RowKit

theorem dbl_snoc (l : List UInt8) (c : UInt8) : dbl (l ++ [c]) = dbl l ++ (if c = 39 then [39, 39] else [c]) := by
  induction l with
  | nil => by_cases h : c = 39 <;> simp [dbl, h]
  | cons a r ih => by_cases h : a = 39 <;> simp [dbl, h, ih]
theorem take_one (s : ByteArray) (i : Nat) (h : i < s.size) : s.data.toList.take (i + 1) = s.data.toList.take i ++ [s[i]] := by
  rw [List.take_succ_eq_append_getElem (by rw [size_list]; exact h)]
  rfl
theorem extract_one (s : ByteArray) (i : Nat) (h : i < s.size) : s.extract i (i + 1) = bs [s[i]] := by
  have e : (s.extract i (i + 1)).data.toList = [s[i]] := by
    rw [Lib.extract_data, drop_cons s i h, show i + 1 - i = 1 by omega]
    rfl
  rw [← e]

set_option maxRecDepth 100000 in
set_option maxHeartbeats 4000000 in
theorem refText_6 (pic : ByteArray) (w : World) (hs : pic.size ≤ 80) (hok : (Ty.mk 6 0 0 0 false pic).ok = true) :
    Calls Tryz.prog 38 #[tyV 6 0 0 0 false pic] w fun e w' => e = .returned (.tuple #[.string (bs ([80, 73, 67, 39] ++ (dbl pic.data.toList ++ [39]))), .int .i64 0]) ∧ Below w.heap.size w w' := by
  have HV := Lib.hid hok
  have HS := Lib.hid (show pic.size ≤ maxLen by unfold maxLen; omega)
  clear hok
  go_enter Tryz.func38, Tryz.ntmps38
  go_wp2_with fail
  go_at_call 17
  refine (refValid_b true _ _ _ _ _ _ _ HS.out HV.out).mono ?_
  rintro e w1 ⟨rfl, hb⟩
  have xB := Lib.hid (BoxAt.fresh (t := Ty.mk 6 0 0 0 false pic) hb)
  have hW := Lib.hid (below_then (by go_grown) hb (by simp) : Below w.heap.size w w1)
  clear hb
  obtain ⟨x0, x1, x2, x3, x4, x5⟩ := xB.out.cells
  go_wp2
  go_loop [5, 6] (fun v u => ∃ (l : List UInt8) (i : Nat), i ≤ pic.size ∧ v = .string (bs l) ∧ u = .int .i64 i ∧ Hid (l = dbl (pic.data.toList.take i))) (fun _ u => pic.size - (intOf u).toNat)
  case atStart => exact ⟨[], 0, by omega, rfl, rfl, rfl⟩
  case round =>
    obtain ⟨l, i, hi, rfl, rfl, HL⟩ := hrel
    have hll : l.length ≤ 200 := by
      rw [HL.out]
      have := (dbl_length (pic.data.toList.take i)).2
      have h2 : (pic.data.toList.take i).length ≤ i := List.length_take_le _ _
      omega
    by_cases hlt : i < pic.size
    · have hx := extract_one pic i hlt
      have HX := Lib.hid hx
      have ht := take_one pic i hlt
      have HT := Lib.hid ht
      clear hx ht
      by_cases hq : pic[i] = 39
      · have hb1 : ((pic[i].toNat : Int) == 39) = true := by rw [hq]; rfl
        obtain ⟨y, hy⟩ : ∃ y, y = l ++ [39] := ⟨_, rfl⟩
        obtain ⟨z, hz⟩ : ∃ z, z = l ++ [39, 39] := ⟨_, rfl⟩
        have s1 := fun W => sadd l [39] y hy.symm (by omega) (by simp) W
        have s2 : ∀ W : World, (Op.stringOp .add (bs y) (pic.extract i (i + 1))).run Tryz.prog W = .ok (.string (bs z)) W := fun W => by
          rw [HX.out, hq]; exact sadd y [39] z (by rw [hy, hz]; simp) (by rw [hy]; simp; omega) (by simp) W
        have HZ := Lib.hid hz; have HQ := Lib.hid hq
        clear hy hz hq
        go_wp2
        go_round
        case rel => exact ⟨z, i + 1, by omega, rfl, by go_num, by rw [HZ.out, HT.out, HQ.out, dbl_snoc, ← HL.out, if_pos rfl]; exact rfl⟩
        case measure => simp [intOf]; omega
      · have hb1 : ((pic[i].toNat : Int) == 39) = false := by
          rw [beq_eq_false_iff_ne]
          intro h
          exact hq (UInt8.toNat_inj.1 (by show pic[i].toNat = 39; omega))
        obtain ⟨z, hz⟩ : ∃ z, z = l ++ [pic[i]] := ⟨_, rfl⟩
        have s2 : ∀ W : World, (Op.stringOp .add (bs l) (pic.extract i (i + 1))).run Tryz.prog W = .ok (.string (bs z)) W := fun W => by
          rw [HX.out]; exact sadd l [pic[i]] z hz.symm (by omega) (by simp) W
        have HZ := Lib.hid hz; have HQ := Lib.hid hq
        clear hz hq
        go_wp2
        go_round
        case rel => exact ⟨z, i + 1, by omega, rfl, by go_num, by rw [HZ.out, HT.out, dbl_snoc, ← HL.out, if_neg HQ.out]; exact rfl⟩
        case measure => simp [intOf]; omega
    · have hie : pic.data.toList.take i = pic.data.toList := List.take_of_length_le (by rw [size_list]; omega)
      obtain ⟨y, hy⟩ : ∃ y, y = [80, 73, 67, 39] ++ l := ⟨_, rfl⟩
      obtain ⟨z, hz⟩ : ∃ z, z = y ++ [39] := ⟨_, rfl⟩
      have s1 := fun W => sadd [80, 73, 67, 39] l y hy.symm (by simp) (by omega) W
      have s2 := fun W => sadd y [39] z hz.symm (by rw [hy]; simp; omega) (by simp) W
      have hfin : (80 :: 73 :: 67 :: 39 :: (dbl pic.data.toList ++ [39]) : List UInt8) = z := by rw [hz, hy, HL.out, hie]; simp
      have HF := Lib.hid hfin
      clear hy hz hfin hie
      go_wp2
      go_ret2
      exact ⟨by rw [HF.out]; rfl, hW.out⟩

theorem refText_any (t : Ty) (w : World) (h : t.ok = true) :
    Calls Tryz.prog 38 #[t.v] w fun e w' => e = .returned (.tuple #[.string (bs t.txt), .int .i64 0]) ∧ Below w.heap.size w w' := by
  obtain ⟨k, p, q, n, vy, pic⟩ := t
  obtain ⟨k1, k9⟩ := ok_kind h
  obtain rfl | rfl | rfl | rfl | rfl | rfl | rfl | rfl | rfl : k = 1 ∨ k = 2 ∨ k = 3 ∨ k = 4 ∨ k = 5 ∨ k = 6 ∨ k = 7 ∨ k = 8 ∨ k = 9 := by omega
  · obtain ⟨h1, h2, h3, h4, rfl, rfl, rfl⟩ := ok_1_of h
    exact refText_1 p q _ w rfl (by omega) (by omega) (by omega) (by omega) h
  · obtain ⟨h1, h2, h3, h4, rfl, rfl, rfl⟩ := ok_2_of h
    exact refText_2 p q _ w rfl (by omega) (by omega) (by omega) (by omega) h
  · obtain ⟨h1, h2, rfl, rfl, rfl, rfl⟩ := ok_3_of h
    exact refText_3 p _ w rfl (by omega) (by omega) h
  · obtain ⟨rfl, rfl, h1, h2, rfl⟩ := ok_45_of (.inl rfl) h
    refine refText_4 n vy _ w ?_ (by omega) (by omega) h
    simp [Ty.txt, txt, wCha, one1]
  · obtain ⟨rfl, rfl, h1, h2, rfl⟩ := ok_45_of (.inr rfl) h
    refine refText_5 n vy _ w ?_ (by omega) (by omega) h
    simp [Ty.txt, txt, wBit, one1]
  · obtain ⟨rfl, rfl, rfl, rfl, h1, h2⟩ := ok_6_of h
    exact refText_6 pic w h2 h
  · obtain ⟨rfl, rfl, rfl, rfl, rfl⟩ := ok_789_of (by omega) h
    exact refText_7 w h
  · obtain ⟨rfl, rfl, rfl, rfl, rfl⟩ := ok_789_of (by omega) h
    exact refText_8 w h
  · obtain ⟨rfl, rfl, rfl, rfl, rfl⟩ := ok_789_of (by omega) h
    exact refText_9 w h
end Go.Proofs.YtcekphfmpjdbmaaGreatDoor
