/- The document's Text of a type. -/
import Derived.Test.YtcekphfmpjdbmaaGreatDoorRTxt0
namespace Go.Proofs.YtcekphfmpjdbmaaGreatDoor
open Go.RowKit

set_option maxHeartbeats 1000000 in
theorem refText_13 (k p q n : Int) (vy : Bool) (pic : ByteArray) (w : World) (hs : pic.size ≤ maxLen) (hv : (Ty.mk k p q n vy pic).ok = false) :
    Calls Tryz.prog 38 #[tyV k p q n vy pic] w fun e w' => e = .returned (.tuple #[.string ⟨#[]⟩, .int .i64 13]) ∧ Below w.heap.size w w' := by
  have HV := Lib.hid hv; have HS := Lib.hid hs
  clear hv hs
  go_enter Tryz.func38, Tryz.ntmps38
  go_wp2_with fail
  go_at_call 17
  refine (refValid_b false _ _ _ _ _ _ _ HS.out HV.out).mono ?_
  rintro e w1 ⟨rfl, hb⟩
  go_wp2
  go_ret2
  exact ⟨rfl, below_then (by go_grown) hb (by simp)⟩

set_option maxRecDepth 100000 in
set_option maxHeartbeats 2000000 in
theorem refText_1 (p q : Int) (z : List UInt8) (w : World) (hz : z = [70, 73, 88, 69, 68, 32, 66, 73, 78] ++ two2 p q) (hp : 0 ≤ p) (hp' : p < 1000) (hq : 0 ≤ q) (hq' : q < 1000) (hok : (Ty.mk 1 p q 0 false ⟨#[]⟩).ok = true) :
    Calls Tryz.prog 38 #[tyV 1 p q 0 false ⟨#[]⟩] w fun e w' => e = .returned (.tuple #[.string (bs z), .int .i64 0]) ∧ Below w.heap.size w w' := by
  have s1 := fun W => sadd [70, 73, 88, 69, 68, 32, 66, 73, 78] (two2 p q) z hz.symm (by simp) (by have := two2_len p q hp hp' hq hq'; omega) W
  clear hz
  have HV := Lib.hid hok
  clear hok
  go_enter Tryz.func38, Tryz.ntmps38
  go_wp2_with fail
  go_at_call 17
  refine (refValid_b true _ _ _ _ _ _ _ pic0 HV.out).mono ?_
  rintro e w1 ⟨rfl, hb⟩
  have xB := Lib.hid (BoxAt.fresh (t := Ty.mk 1 p q 0 false ⟨#[]⟩) hb)
  have hW := Lib.hid (below_then (by go_grown) hb (by simp) : Below w.heap.size w w1)
  clear hb
  obtain ⟨x0, x1, x2, x3, x4, x5⟩ := xB.out.cells
  go_wp2_with fail
  go_at_call 101
  refine (two_ref p q _ hp hp' hq hq').mono ?_
  rintro e w2 ⟨rfl, hb⟩
  have hW2 := Lib.hid (below_then hW.out hb hW.out.size)
  clear hb x0 x1 x2 x3 x4 x5
  go_wp2
  go_ret2
  exact ⟨rfl, hW2.out⟩

set_option maxRecDepth 100000 in
set_option maxHeartbeats 2000000 in
theorem refText_2 (p q : Int) (z : List UInt8) (w : World) (hz : z = [70, 73, 88, 69, 68, 32, 68, 69, 67] ++ two2 p q) (hp : 0 ≤ p) (hp' : p < 1000) (hq : 0 ≤ q) (hq' : q < 1000) (hok : (Ty.mk 2 p q 0 false ⟨#[]⟩).ok = true) :
    Calls Tryz.prog 38 #[tyV 2 p q 0 false ⟨#[]⟩] w fun e w' => e = .returned (.tuple #[.string (bs z), .int .i64 0]) ∧ Below w.heap.size w w' := by
  have s1 := fun W => sadd [70, 73, 88, 69, 68, 32, 68, 69, 67] (two2 p q) z hz.symm (by simp) (by have := two2_len p q hp hp' hq hq'; omega) W
  clear hz
  have HV := Lib.hid hok
  clear hok
  go_enter Tryz.func38, Tryz.ntmps38
  go_wp2_with fail
  go_at_call 17
  refine (refValid_b true _ _ _ _ _ _ _ pic0 HV.out).mono ?_
  rintro e w1 ⟨rfl, hb⟩
  have xB := Lib.hid (BoxAt.fresh (t := Ty.mk 2 p q 0 false ⟨#[]⟩) hb)
  have hW := Lib.hid (below_then (by go_grown) hb (by simp) : Below w.heap.size w w1)
  clear hb
  obtain ⟨x0, x1, x2, x3, x4, x5⟩ := xB.out.cells
  go_wp2_with fail
  go_at_call 101
  refine (two_ref p q _ hp hp' hq hq').mono ?_
  rintro e w2 ⟨rfl, hb⟩
  have hW2 := Lib.hid (below_then hW.out hb hW.out.size)
  clear hb x0 x1 x2 x3 x4 x5
  go_wp2
  go_ret2
  exact ⟨rfl, hW2.out⟩

set_option maxRecDepth 100000 in
set_option maxHeartbeats 2000000 in
theorem refText_3 (p : Int) (z : List UInt8) (w : World) (hz : z = [70, 76, 79, 65, 84, 32, 68, 69, 67, 40] ++ (Lib.itoa p ++ [41])) (hp : 0 ≤ p) (hp' : p < 1000) (hok : (Ty.mk 3 p 0 0 false ⟨#[]⟩).ok = true) :
    Calls Tryz.prog 38 #[tyV 3 p 0 0 false ⟨#[]⟩] w fun e w' => e = .returned (.tuple #[.string (bs z), .int .i64 0]) ∧ Below w.heap.size w w' := by
  have a1 := itoa_len p hp hp'
  obtain ⟨x1, hx1⟩ : ∃ x, x = [70, 76, 79, 65, 84, 32, 68, 69, 67, 40] ++ Lib.itoa p := ⟨_, rfl⟩
  have l1 : x1.length ≤ 20 := by rw [hx1]; simp; omega
  have s1 := fun W => sadd [70, 76, 79, 65, 84, 32, 68, 69, 67, 40] (Lib.itoa p) x1 hx1.symm (by simp) (by omega) W
  have s2 := fun W => sadd x1 [41] z (by rw [hx1, hz]; simp) (by omega) (by simp) W
  clear hz hx1 l1 a1
  have HV := Lib.hid hok
  clear hok
  go_enter Tryz.func38, Tryz.ntmps38
  go_wp2_with fail
  go_at_call 17
  refine (refValid_b true _ _ _ _ _ _ _ pic0 HV.out).mono ?_
  rintro e w1 ⟨rfl, hb⟩
  have xB := Lib.hid (BoxAt.fresh (t := Ty.mk 3 p 0 0 false ⟨#[]⟩) hb)
  have hW := Lib.hid (below_then (by go_grown) hb (by simp) : Below w.heap.size w w1)
  clear hb
  obtain ⟨x0, x1, x2, x3, x4, x5⟩ := xB.out.cells
  go_wp2_with fail
  go_at_call 102
  refine (decimal_i p _ hp hp').mono ?_
  rintro e w2 ⟨rfl, hb⟩
  have hW2 := Lib.hid (below_then hW.out hb hW.out.size)
  clear hb x0 x1 x2 x3 x4 x5
  go_wp2
  go_ret2
  exact ⟨rfl, hW2.out⟩

set_option maxRecDepth 100000 in
set_option maxHeartbeats 2000000 in
theorem refText_4 (n : Int) (vy : Bool) (z : List UInt8) (w : World) (hz : z = [67, 72, 65, 82, 40] ++ (Lib.itoa n ++ 41 :: vary vy)) (hn : 0 ≤ n) (hn' : n < 1000) (hok : (Ty.mk 4 0 0 n vy ⟨#[]⟩).ok = true) :
    Calls Tryz.prog 38 #[tyV 4 0 0 n vy ⟨#[]⟩] w fun e w' => e = .returned (.tuple #[.string (bs z), .int .i64 0]) ∧ Below w.heap.size w w' := by
  have a1 := itoa_len n hn hn'
  obtain ⟨x1, hx1⟩ : ∃ x, x = [67, 72, 65, 82, 40] ++ Lib.itoa n := ⟨_, rfl⟩
  obtain ⟨x2, hx2⟩ : ∃ x, x = x1 ++ [41] := ⟨_, rfl⟩
  have l1 : x1.length ≤ 20 := by rw [hx1]; simp; omega
  have l2 : x2.length ≤ 21 := by rw [hx2]; simp; omega
  have s1 := fun W => sadd [67, 72, 65, 82, 40] (Lib.itoa n) x1 hx1.symm (by simp) (by omega) W
  have s2 := fun W => sadd x1 [41] x2 hx2.symm (by omega) (by simp) W
  have s3 := fun W => sadd x2 (vary vy) z (by rw [hx2, hx1, hz]; simp) (by omega) (by have := vary_len vy; omega) W
  clear hz hx1 hx2 l1 l2 a1
  have HV := Lib.hid hok
  clear hok
  cases vy
  all_goals
    simp only [vary, if_true, Bool.false_eq_true, if_false] at s3
    go_enter Tryz.func38, Tryz.ntmps38
    go_wp2_with fail
    go_at_call 17
    refine (refValid_b true _ _ _ _ _ _ _ pic0 HV.out).mono ?_
    rintro e w1 ⟨rfl, hb⟩
    have xB := Lib.hid (BoxAt.fresh (t := Ty.mk 4 0 0 n _ ⟨#[]⟩) hb)
    have hW := Lib.hid (below_then (by go_grown) hb (by simp) : Below w.heap.size w w1)
    clear hb
    obtain ⟨x0, x1, x2, x3, x4, x5⟩ := xB.out.cells
    go_wp2_with fail
    go_at_call 102
    refine (decimal_i n _ hn hn').mono ?_
    rintro e w2 ⟨rfl, hb⟩
    have hW2 := Lib.hid (below_then hW.out hb hW.out.size)
    clear hb x0 x1 x2 x3 x4 x5
    go_wp2
    go_ret2
    exact ⟨rfl, hW2.out⟩

set_option maxRecDepth 100000 in
set_option maxHeartbeats 2000000 in
theorem refText_5 (n : Int) (vy : Bool) (z : List UInt8) (w : World) (hz : z = [66, 73, 84, 40] ++ (Lib.itoa n ++ 41 :: vary vy)) (hn : 0 ≤ n) (hn' : n < 1000) (hok : (Ty.mk 5 0 0 n vy ⟨#[]⟩).ok = true) :
    Calls Tryz.prog 38 #[tyV 5 0 0 n vy ⟨#[]⟩] w fun e w' => e = .returned (.tuple #[.string (bs z), .int .i64 0]) ∧ Below w.heap.size w w' := by
  have a1 := itoa_len n hn hn'
  obtain ⟨x1, hx1⟩ : ∃ x, x = [66, 73, 84, 40] ++ Lib.itoa n := ⟨_, rfl⟩
  obtain ⟨x2, hx2⟩ : ∃ x, x = x1 ++ [41] := ⟨_, rfl⟩
  have l1 : x1.length ≤ 20 := by rw [hx1]; simp; omega
  have l2 : x2.length ≤ 21 := by rw [hx2]; simp; omega
  have s1 := fun W => sadd [66, 73, 84, 40] (Lib.itoa n) x1 hx1.symm (by simp) (by omega) W
  have s2 := fun W => sadd x1 [41] x2 hx2.symm (by omega) (by simp) W
  have s3 := fun W => sadd x2 (vary vy) z (by rw [hx2, hx1, hz]; simp) (by omega) (by have := vary_len vy; omega) W
  clear hz hx1 hx2 l1 l2 a1
  have HV := Lib.hid hok
  clear hok
  cases vy
  all_goals
    simp only [vary, if_true, Bool.false_eq_true, if_false] at s3
    go_enter Tryz.func38, Tryz.ntmps38
    go_wp2_with fail
    go_at_call 17
    refine (refValid_b true _ _ _ _ _ _ _ pic0 HV.out).mono ?_
    rintro e w1 ⟨rfl, hb⟩
    have xB := Lib.hid (BoxAt.fresh (t := Ty.mk 5 0 0 n _ ⟨#[]⟩) hb)
    have hW := Lib.hid (below_then (by go_grown) hb (by simp) : Below w.heap.size w w1)
    clear hb
    obtain ⟨x0, x1, x2, x3, x4, x5⟩ := xB.out.cells
    go_wp2_with fail
    go_at_call 102
    refine (decimal_i n _ hn hn').mono ?_
    rintro e w2 ⟨rfl, hb⟩
    have hW2 := Lib.hid (below_then hW.out hb hW.out.size)
    clear hb x0 x1 x2 x3 x4 x5
    go_wp2
    go_ret2
    exact ⟨rfl, hW2.out⟩

set_option maxRecDepth 100000 in
set_option maxHeartbeats 2000000 in
theorem refText_7 (w : World) (hok : (Ty.mk 7 0 0 0 false ⟨#[]⟩).ok = true) :
    Calls Tryz.prog 38 #[tyV 7 0 0 0 false ⟨#[]⟩] w fun e w' => e = .returned (.tuple #[.string (bs [80, 84, 82]), .int .i64 0]) ∧ Below w.heap.size w w' := by
  have HV := Lib.hid hok
  clear hok
  go_enter Tryz.func38, Tryz.ntmps38
  go_wp2_with fail
  go_at_call 17
  refine (refValid_b true _ _ _ _ _ _ _ pic0 HV.out).mono ?_
  rintro e w1 ⟨rfl, hb⟩
  have xB := Lib.hid (BoxAt.fresh (t := Ty.mk 7 0 0 0 false ⟨#[]⟩) hb)
  have hW := Lib.hid (below_then (by go_grown) hb (by simp) : Below w.heap.size w w1)
  clear hb
  obtain ⟨x0, x1, x2, x3, x4, x5⟩ := xB.out.cells
  go_wp2
  go_ret2
  exact ⟨rfl, hW.out⟩

set_option maxRecDepth 100000 in
set_option maxHeartbeats 2000000 in
theorem refText_8 (w : World) (hok : (Ty.mk 8 0 0 0 false ⟨#[]⟩).ok = true) :
    Calls Tryz.prog 38 #[tyV 8 0 0 0 false ⟨#[]⟩] w fun e w' => e = .returned (.tuple #[.string (bs [76, 65, 66, 69, 76]), .int .i64 0]) ∧ Below w.heap.size w w' := by
  have HV := Lib.hid hok
  clear hok
  go_enter Tryz.func38, Tryz.ntmps38
  go_wp2_with fail
  go_at_call 17
  refine (refValid_b true _ _ _ _ _ _ _ pic0 HV.out).mono ?_
  rintro e w1 ⟨rfl, hb⟩
  have xB := Lib.hid (BoxAt.fresh (t := Ty.mk 8 0 0 0 false ⟨#[]⟩) hb)
  have hW := Lib.hid (below_then (by go_grown) hb (by simp) : Below w.heap.size w w1)
  clear hb
  obtain ⟨x0, x1, x2, x3, x4, x5⟩ := xB.out.cells
  go_wp2
  go_ret2
  exact ⟨rfl, hW.out⟩

set_option maxRecDepth 100000 in
set_option maxHeartbeats 2000000 in
theorem refText_9 (w : World) (hok : (Ty.mk 9 0 0 0 false ⟨#[]⟩).ok = true) :
    Calls Tryz.prog 38 #[tyV 9 0 0 0 false ⟨#[]⟩] w fun e w' => e = .returned (.tuple #[.string (bs [69, 78, 84, 82, 89]), .int .i64 0]) ∧ Below w.heap.size w w' := by
  have HV := Lib.hid hok
  clear hok
  go_enter Tryz.func38, Tryz.ntmps38
  go_wp2_with fail
  go_at_call 17
  refine (refValid_b true _ _ _ _ _ _ _ pic0 HV.out).mono ?_
  rintro e w1 ⟨rfl, hb⟩
  have xB := Lib.hid (BoxAt.fresh (t := Ty.mk 9 0 0 0 false ⟨#[]⟩) hb)
  have hW := Lib.hid (below_then (by go_grown) hb (by simp) : Below w.heap.size w w1)
  clear hb
  obtain ⟨x0, x1, x2, x3, x4, x5⟩ := xB.out.cells
  go_wp2
  go_ret2
  exact ⟨rfl, hW.out⟩

end Go.Proofs.YtcekphfmpjdbmaaGreatDoor
