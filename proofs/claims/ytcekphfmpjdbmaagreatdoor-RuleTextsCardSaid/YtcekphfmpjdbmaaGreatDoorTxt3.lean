/- Package rule: textOf of any valid type; the texts of types, read. -/
import Derived.Test.YtcekphfmpjdbmaaGreatDoorTxt2
import Derived.Test.YtcekphfmpjdbmaaGreatDoorAwake2
namespace Go.Proofs.YtcekphfmpjdbmaaGreatDoor
open Go.RowKit

theorem two2_len (p q : Int) (hp : 0 ≤ p) (hp' : p < 1000) (hq : 0 ≤ q) (hq' : q < 1000) : (two2 p q).length ≤ 1000 := by
  have := itoa_len p hp hp'; have := itoa_len q hq hq'; simp [two2]; omega
theorem one1_len (p : Int) (hp : 0 ≤ p) (hp' : p < 1000) : (one1 p).length ≤ 10 := by
  have := itoa_len p hp hp'; simp [one1]; omega
theorem vary_len (v : Bool) : (vary v).length ≤ 4 := by cases v <;> simp [vary]

def Ty.txt (t : Ty) : List UInt8 := Go.Proofs.YtcekphfmpjdbmaaGreatDoor.txt t.k t.p t.q t.n t.vy t.pic.data.toList

theorem ok_45_of {k p q n : Int} {vy : Bool} {pic : ByteArray} (hk : k = 4 ∨ k = 5) (h : (Ty.mk k p q n vy pic).ok = true) : p = 0 ∧ q = 0 ∧ 0 ≤ n ∧ n ≤ 250 ∧ pic = ⟨#[]⟩ := by
  unfold Ty.ok validS at h
  simp only at h
  have e : validStringS k p q n vy pic = true := by
    rcases hk with rfl | rfl
    · simpa using h
    · simpa using h
  simp only [validStringS, Bool.and_eq_true, decide_eq_true_eq, beq_iff_eq] at e
  obtain ⟨⟨h1, h2⟩, ⟨h3, h4⟩, h5⟩ := e
  exact ⟨h3, h4, h1, h2, toList_nil _ (by rw [h5]; rfl)⟩
theorem ok_6_of {p q n : Int} {vy : Bool} {pic : ByteArray} (h : (Ty.mk 6 p q n vy pic).ok = true) : p = 0 ∧ q = 0 ∧ n = 0 ∧ vy = false ∧ 1 ≤ pic.size ∧ pic.size ≤ 80 := by
  unfold Ty.ok validS at h
  simp only at h
  have e : validPictureS 6 p q n vy pic = true := by simpa using h
  simp only [validPictureS, Bool.and_eq_true, decide_eq_true_eq, beq_iff_eq] at e
  obtain ⟨⟨h1, h2⟩, ⟨⟨h3, h4⟩, h5⟩, h6⟩ := e
  exact ⟨h3, h4, h5, h6, by omega, by omega⟩
theorem ok_789_of {k p q n : Int} {vy : Bool} {pic : ByteArray} (hk : 7 ≤ k) (h : (Ty.mk k p q n vy pic).ok = true) : p = 0 ∧ q = 0 ∧ n = 0 ∧ vy = false ∧ pic = ⟨#[]⟩ := by
  have hk9 := (ok_kind h).2
  unfold Ty.ok validS at h
  simp only at h
  have e : validPlainS k p q n vy pic = true := by
    obtain rfl | rfl | rfl : k = 7 ∨ k = 8 ∨ k = 9 := by omega
    · simpa using h
    · simpa using h
    · simpa using h
  simp only [validPlainS, Bool.and_eq_true, beq_iff_eq] at e
  obtain ⟨⟨⟨⟨h1, h2⟩, h3⟩, h4⟩, h5⟩ := e
  exact ⟨h1, h2, h3, h4, toList_nil _ (by rw [h5]; rfl)⟩

theorem textOf_any (t : Ty) (w : World) (h : t.ok = true) (hE : EnvT w) :
    Calls Tryz.prog 100 #[t.v] w fun e w' => e = .returned (.string (bs t.txt)) ∧ Below w.heap.size w w' := by
  obtain ⟨k, p, q, n, vy, pic⟩ := t
  obtain ⟨k1, k9⟩ := ok_kind h
  obtain rfl | rfl | rfl | rfl | rfl | rfl | rfl | rfl | rfl : k = 1 ∨ k = 2 ∨ k = 3 ∨ k = 4 ∨ k = 5 ∨ k = 6 ∨ k = 7 ∨ k = 8 ∨ k = 9 := by omega
  · obtain ⟨h1, h2, h3, h4, rfl, rfl, rfl⟩ := ok_1_of h
    exact textOf_g 1 (by omega) 196 197 wBin (two2 p q) rfl (by simp [wBin]) (two2_len p q (by omega) (by omega) (by omega) (by omega)) p q 0 false ⟨#[]⟩ w hE (fun _ _ => by kernel_rfl) (fun W _ => writeFixed_any _ p q _ _ _ W (by omega) (by omega) (by omega) (by omega))
  · obtain ⟨h1, h2, h3, h4, rfl, rfl, rfl⟩ := ok_2_of h
    exact textOf_g 2 (by omega) 196 197 wDec (two2 p q) rfl (by simp [wDec]) (two2_len p q (by omega) (by omega) (by omega) (by omega)) p q 0 false ⟨#[]⟩ w hE (fun _ _ => by kernel_rfl) (fun W _ => writeFixed_any _ p q _ _ _ W (by omega) (by omega) (by omega) (by omega))
  · obtain ⟨h1, h2, rfl, rfl, rfl, rfl⟩ := ok_3_of h
    exact textOf_g 3 (by omega) 198 199 wFlo (one1 p) rfl (by simp [wFlo]) (by have := one1_len p (by omega) (by omega); omega) p 0 0 false ⟨#[]⟩ w hE (fun _ _ => by kernel_rfl) (fun W _ => writeFloat_any _ p _ _ _ _ W (by omega) (by omega))
  · obtain ⟨rfl, rfl, h1, h2, rfl⟩ := ok_45_of (.inl rfl) h
    exact textOf_g 4 (by omega) 200 201 wCha (one1 n ++ vary vy) rfl (by simp [wCha]) (by have := one1_len n (by omega) (by omega); have := vary_len vy; simp; omega) 0 0 n vy ⟨#[]⟩ w hE (fun _ _ => by kernel_rfl) (fun W hE' => writeLength_any _ _ _ n _ _ W (by omega) (by omega) hE')
  · obtain ⟨rfl, rfl, h1, h2, rfl⟩ := ok_45_of (.inr rfl) h
    exact textOf_g 5 (by omega) 200 201 wBit (one1 n ++ vary vy) rfl (by simp [wBit]) (by have := one1_len n (by omega) (by omega); have := vary_len vy; simp; omega) 0 0 n vy ⟨#[]⟩ w hE (fun _ _ => by kernel_rfl) (fun W hE' => writeLength_any _ _ _ n _ _ W (by omega) (by omega) hE')
  · obtain ⟨rfl, rfl, rfl, rfl, h1, h2⟩ := ok_6_of h
    exact textOf_g 6 (by omega) 202 203 wPic (39 :: (dbl pic.data.toList ++ [39])) rfl (by simp [wPic]) (by have := (dbl_length pic.data.toList).2; rw [size_list] at this; simp; omega) 0 0 0 false pic w hE (fun _ _ => by kernel_rfl) (fun W hE' => writePicture_any _ _ _ _ _ pic W h2 hE')
  · obtain ⟨rfl, rfl, rfl, rfl, rfl⟩ := ok_789_of (by omega) h
    exact textOf_g 7 (by omega) 204 205 wPtr [] rfl (by simp [wPtr]) (by simp) 0 0 0 false ⟨#[]⟩ w hE (fun _ _ => by kernel_rfl) (fun W _ => writeNothing_any ⟨7, 0, 0, 0, false, ⟨#[]⟩⟩ W)
  · obtain ⟨rfl, rfl, rfl, rfl, rfl⟩ := ok_789_of (by omega) h
    exact textOf_g 8 (by omega) 204 205 wLab [] rfl (by simp [wLab]) (by simp) 0 0 0 false ⟨#[]⟩ w hE (fun _ _ => by kernel_rfl) (fun W _ => writeNothing_any ⟨8, 0, 0, 0, false, ⟨#[]⟩⟩ W)
  · obtain ⟨rfl, rfl, rfl, rfl, rfl⟩ := ok_789_of (by omega) h
    exact textOf_g 9 (by omega) 204 205 wEnt [] rfl (by simp [wEnt]) (by simp) 0 0 0 false ⟨#[]⟩ w hE (fun _ _ => by kernel_rfl) (fun W _ => writeNothing_any ⟨9, 0, 0, 0, false, ⟨#[]⟩⟩ W)

/- Read. -/
theorem below_dN {B : Nat} {a w : World} (h : Below B a w) (n : Nat) : Below B a (w.drewN n) := h.trans ⟨rfl, rfl, rfl, Nat.le_refl _, fun _ _ => rfl⟩
theorem cut_len (s sep : List UInt8) : (Lib.cut s sep).1.length ≤ s.length ∧ (Lib.cut s sep).2.1.length ≤ s.length := by
  unfold Lib.cut; split <;> simp <;> omega

set_option maxHeartbeats 1000000 in
theorem readFloat_any (s : ByteArray) (w : World) (hs : s.size ≤ 100000) (hE : EnvT w) :
    Calls Tryz.prog 199 #[.string s] w fun e w' => e = .returned (tyV 0 (numL (insideL s.data.toList)) 0 0 false ⟨#[]⟩) ∧ Below w.heap.size w w' := by
  have HE := Lib.hid (hE.below (by go_grown : Below w.heap.size w (w.alloc zeroTy)))
  have hl : (bs (insideL s.data.toList)).size ≤ 1000000 := by have := inside_len s.data.toList; rw [size_list] at this; rw [size_bs]; omega
  have HL := Lib.hid hl
  clear hE hl
  go_enter Tryz.func199, Tryz.ntmps199
  go_wp2_with fail
  go_at_call 260
  refine (inside_any s _ (by omega)).mono ?_
  rintro e w1 ⟨rfl, rfl⟩
  go_wp2_with fail
  go_at_call 261
  refine (number_any (bs (insideL s.data.toList)) _ HL.out HE.out).mono ?_
  rintro e w1 ⟨rfl, hb⟩
  have hz := hb.size
  obtain ⟨r0, r1, r2, r3, r4, r5, rf⟩ := zcells (w2 := w1) (heap_alloc_last _ _) (by simp <;> omega) hb
  generalize hx : numL (bs (insideL s.data.toList)).data.toList = x
  have HX := Lib.hid hx; clear hx
  go_wp2
  refine bodyPost_ret (v := tyV 0 x 0 0 false ⟨#[]⟩) (by simp [results, Tryz.results199, go_sem, r0, r1, r2, r3, r4, r5]) rfl ⟨by rw [← HX.out], ?_⟩
  (repeat refine Below.setCell ?_ (by simp) _)
  exact below_then (by go_grown) hb (by simp <;> omega)

set_option maxHeartbeats 1000000 in
theorem readNothing_any (s : ByteArray) (w : World) :
    Calls Tryz.prog 205 #[.string s] w fun e w' => e = .returned (tyV 0 0 0 0 false ⟨#[]⟩) ∧ Below w.heap.size w w' := by
  go_enter Tryz.func205, Tryz.ntmps205
  go_wp2
  refine bodyPost_ret (v := tyV 0 0 0 0 false ⟨#[]⟩) (by simp [results, Tryz.results205, go_sem]) rfl ⟨rfl, by go_grown⟩

set_option maxHeartbeats 1000000 in
theorem readFixed_any (s : ByteArray) (w : World) (hs : s.size ≤ 100000) (hE : EnvT w) :
    Calls Tryz.prog 197 #[.string s] w fun e w' => e = .returned (tyV 0 (numL (Lib.cut (insideL s.data.toList) [44]).1) (numL (Lib.cut (insideL s.data.toList) [44]).2.1) 0 false ⟨#[]⟩) ∧ Below w.heap.size w w' := by
  obtain ⟨m, hm⟩ := (hE.below (by go_grown : Below w.heap.size w (w.alloc zeroTy))).m
  have HM := Lib.hid hm
  have HE := Lib.hid (hE.below (by go_grown : Below w.heap.size w (w.alloc zeroTy)))
  have hi := inside_len s.data.toList
  rw [size_list] at hi
  have hc := cut_len (insideL s.data.toList) [44]
  have hl : (bs (insideL s.data.toList)).size < 4294967281 := by rw [size_bs]; omega
  have hl1 : (bs (Lib.cut (insideL s.data.toList) [44]).1).size ≤ 1000000 := by rw [size_bs]; omega
  have hl2 : (bs (Lib.cut (insideL s.data.toList) [44]).2.1).size ≤ 1000000 := by rw [size_bs]; omega
  have HL := Lib.hid hl; have HL1 := Lib.hid hl1; have HL2 := Lib.hid hl2
  clear hE hm hi hc hl hl1 hl2
  go_enter Tryz.func197, Tryz.ntmps197
  go_wp2_with fail
  go_at_call 260
  refine (inside_any s _ (by omega)).mono ?_
  rintro e w1 ⟨rfl, rfl⟩
  go_wp2_with fail
  go_at_call 259
  refine (Tryz.strings_Cut (bs (insideL s.data.toList)) _ m _ HL.out HM.out).mono ?_
  rintro e w1 ⟨rfl, nd, rfl⟩
  rw [show (Lib.cut (bs (insideL s.data.toList)).data.toList (ByteArray.mk #[44]).data.toList) = Lib.cut (insideL s.data.toList) [44] from rfl]
  generalize hx1 : numL (Lib.cut (insideL s.data.toList) [44]).1 = x1
  generalize hx2 : numL (Lib.cut (insideL s.data.toList) [44]).2.1 = x2
  have HX1 := Lib.hid hx1; have HX2 := Lib.hid hx2; clear hx1 hx2
  have HE2 := Lib.hid (HE.out.below (below_dN (Below.refl _ _) nd))
  go_wp2_with fail
  go_at_call 261
  refine (number_any (bs (Lib.cut (insideL s.data.toList) [44]).1) _ HL1.out HE2.out).mono ?_
  rintro e w1 ⟨rfl, hb1⟩
  rw [show numL (bs (Lib.cut (insideL s.data.toList) [44]).1).data.toList = x1 from HX1.out]
  have HE3 := Lib.hid (HE2.out.below hb1)
  go_wp2_with fail
  go_at_call 261
  refine (number_any (bs (Lib.cut (insideL s.data.toList) [44]).2.1) _ HL2.out HE3.out).mono ?_
  rintro e w2 ⟨rfl, hb2⟩
  rw [show numL (bs (Lib.cut (insideL s.data.toList) [44]).2.1).data.toList = x2 from HX2.out]
  have hb3 : Below (w.alloc zeroTy).heap.size (w.alloc zeroTy) w2 := below_then (below_then (below_dN (Below.refl _ _) nd) hb1 (by simp)) hb2 (by have := hb1.size; simp at this ⊢; omega)
  have hz := hb3.size
  obtain ⟨r0, r1, r2, r3, r4, r5, rf⟩ := zcells (w2 := w2) (heap_alloc_last _ _) (by simp <;> omega) hb3
  go_wp2
  refine bodyPost_ret (v := tyV 0 x1 x2 0 false ⟨#[]⟩) (by simp [results, Tryz.results197, go_sem, r0, r1, r2, r3, r4, r5]) rfl ⟨by rw [HX1.out, HX2.out], ?_⟩
  (repeat refine Below.setCell ?_ (by simp) _)
  exact below_then (by go_grown) hb3 (by simp <;> omega)

set_option maxHeartbeats 1000000 in
theorem readLength_any (s : ByteArray) (w : World) (hs : s.size ≤ 100000) (hE : EnvT w) :
    Calls Tryz.prog 201 #[.string s] w fun e w' => e = .returned (tyV 0 0 0 (lenL s.data.toList).1 (lenL s.data.toList).2 ⟨#[]⟩) ∧ Below w.heap.size w w' := by
  have HE := Lib.hid (hE.below (by go_grown : Below w.heap.size w (w.alloc zeroTy)))
  have ht := trimSuffix_len s.data.toList [32, 86, 65, 82]
  rw [size_list] at ht
  have hi := inside_len (Lib.trimSuffix s.data.toList [32, 86, 65, 82])
  have hl1 : (bs (Lib.trimSuffix s.data.toList [32, 86, 65, 82])).size ≤ 1000000 := by rw [size_bs]; omega
  have hl2 : (bs (insideL (Lib.trimSuffix s.data.toList [32, 86, 65, 82]))).size ≤ 1000000 := by rw [size_bs]; omega
  have HL1 := Lib.hid hl1; have HL2 := Lib.hid hl2
  clear hE ht hi hl1 hl2
  go_enter Tryz.func201, Tryz.ntmps201
  go_wp2_with fail
  go_at_call 262
  refine (Tryz.strings_CutSuffix s _ _ (by omega)).mono ?_
  rintro e w1 ⟨rfl, rfl⟩
  rw [show (ByteArray.mk #[32, 86, 65, 82]).data.toList = [32, 86, 65, 82] from rfl]
  generalize hx1 : (lenL s.data.toList).1 = x1
  generalize hx2 : (lenL s.data.toList).2 = x2
  have HX1 := Lib.hid hx1; have HX2 := Lib.hid hx2; clear hx1 hx2
  rw [show Lib.hasSuffix s.data.toList [32, 86, 65, 82] = x2 from HX2.out]
  go_wp2_with fail
  go_at_call 260
  refine (inside_any (bs (Lib.trimSuffix s.data.toList [32, 86, 65, 82])) _ HL1.out).mono ?_
  rintro e w1 ⟨rfl, rfl⟩
  go_wp2_with fail
  go_at_call 261
  refine (number_any (bs (insideL (Lib.trimSuffix s.data.toList [32, 86, 65, 82]))) _ HL2.out HE.out).mono ?_
  rintro e w1 ⟨rfl, hb⟩
  rw [show numL (bs (insideL (Lib.trimSuffix s.data.toList [32, 86, 65, 82]))).data.toList = x1 from HX1.out]
  have hz := hb.size
  obtain ⟨r0, r1, r2, r3, r4, r5, rf⟩ := zcells (w2 := w1) (heap_alloc_last _ _) (by simp <;> omega) hb
  go_wp2
  refine bodyPost_ret (v := tyV 0 0 0 x1 x2 ⟨#[]⟩) (by simp [results, Tryz.results201, go_sem, r0, r1, r2, r3, r4, r5]) rfl ⟨by rw [HX1.out, HX2.out], ?_⟩
  (repeat refine Below.setCell ?_ (by simp) _)
  exact below_then (by go_grown) hb (by simp <;> omega)

theorem count3939 (s : ByteArray) : Lib.countB s ⟨#[39, 39]⟩ ≤ s.size + 1 := by
  have := Lib.count_le s.data.toList [39, 39]
  rw [size_list] at this
  exact this

set_option maxHeartbeats 1000000 in
theorem readPicture_any (s : ByteArray) (w : World) (hs : s.size ≤ 100000) (hE : EnvT w) :
    Calls Tryz.prog 203 #[.string s] w fun e w' => e = .returned (tyV 0 0 0 0 false (bs (picL s.data.toList))) ∧ Below w.heap.size w w' := by
  obtain ⟨m, hm⟩ := (hE.below (by go_grown : Below w.heap.size w (w.alloc zeroTy))).m
  have HM := Lib.hid hm
  have h1 := trimPrefix_len s.data.toList [39]
  rw [size_list] at h1
  have h2 := trimSuffix_len (Lib.trimPrefix s.data.toList [39]) [39]
  have hl1 : (bs (Lib.trimPrefix s.data.toList [39])).size ≤ 9223372036854775807 := by rw [size_bs]; omega
  have hl2 : (bs (Lib.trimSuffix (Lib.trimPrefix s.data.toList [39]) [39])).size < 4294967281 := by rw [size_bs]; omega
  have hl3 : (bs (Lib.trimSuffix (Lib.trimPrefix s.data.toList [39]) [39])).size + Lib.countB (bs (Lib.trimSuffix (Lib.trimPrefix s.data.toList [39]) [39])) ⟨#[39, 39]⟩ * (ByteArray.mk #[39]).size ≤ 140737488355328 := by
    have := count3939 (bs (Lib.trimSuffix (Lib.trimPrefix s.data.toList [39]) [39]))
    have e : (ByteArray.mk #[39]).size = 1 := rfl
    rw [e]; rw [size_bs] at this ⊢; omega
  have HL1 := Lib.hid hl1; have HL2 := Lib.hid hl2; have HL3 := Lib.hid hl3
  clear hE hm h1 h2 hl1 hl2 hl3
  generalize hx : picL s.data.toList = x
  have HX := Lib.hid hx; clear hx
  go_enter Tryz.func203, Tryz.ntmps203
  go_wp2_with fail
  go_at_call 265
  refine (Tryz.strings_TrimPrefix s _ _).mono ?_
  rintro e w1 ⟨rfl, rfl⟩
  rw [show (ByteArray.mk #[39]).data.toList = [39] from rfl]
  go_wp2_with fail
  go_at_call 264
  refine (Tryz.strings_TrimSuffix (bs (Lib.trimPrefix s.data.toList [39])) _ _ HL1.out).mono ?_
  rintro e w1 ⟨rfl, rfl⟩
  rw [show Lib.trimSuffix (bs (Lib.trimPrefix s.data.toList [39])).data.toList (ByteArray.mk #[39]).data.toList = Lib.trimSuffix (Lib.trimPrefix s.data.toList [39]) [39] from rfl]
  go_wp2_with fail
  go_at_call 263
  refine (Tryz.strings_ReplaceAll (bs (Lib.trimSuffix (Lib.trimPrefix s.data.toList [39]) [39])) _ _ m _ HL2.out HM.out (by decide) HL3.out).mono ?_
  rintro e w1 ⟨rfl, hb⟩
  rw [show Lib.replaceAll (bs (Lib.trimSuffix (Lib.trimPrefix s.data.toList [39]) [39])).data.toList (ByteArray.mk #[39, 39]).data.toList (ByteArray.mk #[39]).data.toList = x from HX.out]
  have hz := hb.size
  obtain ⟨r0, r1, r2, r3, r4, r5, rf⟩ := zcells (w2 := w1) (heap_alloc_last _ _) (by simp <;> omega) hb
  go_wp2
  refine bodyPost_ret (v := tyV 0 0 0 0 false (bs x)) (by simp [results, Tryz.results203, go_sem, r0, r1, r2, r3, r4, r5]) rfl ⟨rfl, ?_⟩
  (repeat refine Below.setCell ?_ (by simp) _)
  exact below_then (by go_grown) hb (by simp <;> omega)
end Go.Proofs.YtcekphfmpjdbmaaGreatDoor
