/- Package rule: the texts of types, written. -/
import Derived.Test.YtcekphfmpjdbmaaGreatDoorTxt0
import Derived.Deep.RegionHeld3
import Derived.Laws.Concat
import Derived.Lib.AppendIntMem
namespace Go.Proofs.YtcekphfmpjdbmaaGreatDoor
open Go.RowKit

theorem itoaS (n : Int) (w : World) (h0 : 0 ≤ n) (h1 : n < 100) :
    Calls Tryz.prog 258 #[.int .i64 n] w fun e w' => e = .returned (.string (bs (Lib.itoa n))) ∧ w = w' := by
  obtain ⟨u, rfl⟩ := Int.eq_ofNat_of_zero_le h0
  rw [Lib.itoa_nonneg]
  exact (Tryz.strconv_Itoa_small u (by omega) w).mono fun _ _ ⟨he, hw⟩ => ⟨he, hw.symm⟩
theorem itoaE (n : Int) (w : World) (h0 : 0 ≤ n) (h1 : n ≤ 250) (hE : EnvT w) :
    Calls Tryz.prog 258 #[.int .i64 n] w fun e w' => e = .returned (.string (bs (Lib.itoa n))) ∧ Below w.heap.size w w' :=
  (Tryz.strconv_Itoa n (by omega) (by omega) w hE.tab).mono fun _ _ ⟨he, k, os, hw⟩ => ⟨he, by rw [hw]; exact Lib.below_grow _ _ (Nat.le_refl _) _ _⟩
theorem itoa_len (n : Int) (h0 : 0 ≤ n) (h1 : n < 1000) : (Lib.itoa n).length ≤ 3 := by
  have := num3_itoa n h0 h1
  generalize Lib.itoa n = l at this
  generalize n.toNat = m at this
  cases this <;> simp

def tP (p : Int) : List UInt8 := Lib.itoa p ++ [44]
def tPQ (p q : Int) : List UInt8 := Lib.itoa p ++ 44 :: Lib.itoa q
theorem sadd (x y z : List UInt8) (h : x ++ y = z) (hx : x.length ≤ 8388608) (hy : y.length ≤ 8388608) (w : World) : (Op.stringOp .add (bs x) (bs y)).run Tryz.prog w = .ok (.string (bs z)) w := by
  rw [← h]; exact run_string_add_lists w x y (by omega) (by omega)

set_option maxHeartbeats 1000000 in
theorem writeFixed_any (k p q n : Int) (vy : Bool) (pic : ByteArray) (w : World) (hp : 0 ≤ p) (hp' : p < 100) (hq : 0 ≤ q) (hq' : q < 100) :
    Calls Tryz.prog 196 #[tyV k p q n vy pic] w fun e w' => e = .returned (.string (bs (two2 p q))) ∧ Below w.heap.size w w' := by
  have a1 := itoa_len p hp (by omega)
  have a2 := itoa_len q hq (by omega)
  have s1 := fun W => sadd (Lib.itoa p) [44] (tP p) rfl (by omega) (by simp) W
  have s2 := fun W => sadd (tP p) (Lib.itoa q) (tPQ p q) (by simp [tP, tPQ]) (by simp [tP]; omega) (by omega) W
  have hl : (bs (tPQ p q)).size ≤ 1000000 := by rw [size_bs]; simp [tPQ]; omega
  have HL := Lib.hid hl; clear hl a1 a2
  go_enter Tryz.func196, Tryz.ntmps196
  go_wp2_with fail
  go_region_held3 (fun w' => w'.cell? ⟨w.heap.size, 1, none⟩ = some (.int .i64 p) ∧ w'.cell? ⟨w.heap.size, 2, none⟩ = some (.int .i64 q))
    (first | go_keep)
    (first
      | (go_at_call 258; refine (itoaS _ _ (by assumption) (by assumption)).mono ?_; rintro e w2 ⟨rfl, rfl⟩)
      | (go_at_call 257; refine (inPar_any (bs (tPQ p q)) _ HL.out).mono ?_; rintro e w2 ⟨rfl, rfl⟩))
  go_wp2
  go_ret
  refine ⟨ret_str (by simp [two2, tPQ]), ?_⟩
  go_grown

set_option maxHeartbeats 1000000 in
theorem writeFloat_any (k p q n : Int) (vy : Bool) (pic : ByteArray) (w : World) (hp : 0 ≤ p) (hp' : p < 100) :
    Calls Tryz.prog 198 #[tyV k p q n vy pic] w fun e w' => e = .returned (.string (bs (one1 p))) ∧ Below w.heap.size w w' := by
  have a1 := itoa_len p hp (by omega)
  have hl : (bs (Lib.itoa p)).size ≤ 1000000 := by rw [size_bs]; omega
  have HL := Lib.hid hl; clear hl a1
  go_enter Tryz.func198, Tryz.ntmps198
  go_wp2_with (first
      | (go_at_call 258; refine (itoaS _ _ (by assumption) (by assumption)).mono ?_; rintro e w2 ⟨rfl, rfl⟩)
      | (go_at_call 257; refine (inPar_any (bs (Lib.itoa p)) _ HL.out).mono ?_; rintro e w2 ⟨rfl, rfl⟩))
  go_ret
  exact ⟨ret_str rfl, by go_grown⟩

set_option maxHeartbeats 1000000 in
theorem writeLength_any (k p q n : Int) (vy : Bool) (pic : ByteArray) (w : World) (hn : 0 ≤ n) (hn' : n ≤ 250) (hE : EnvT w) :
    Calls Tryz.prog 200 #[tyV k p q n vy pic] w fun e w' => e = .returned (.string (bs (one1 n ++ vary vy))) ∧ Below w.heap.size w w' := by
  have a1 := itoa_len n hn (by omega)
  have hl : (bs (Lib.itoa n)).size ≤ 1000000 := by rw [size_bs]; omega
  have s1 := fun W => sadd (one1 n) [32, 86, 65, 82] (one1 n ++ vary true) rfl (by simp [one1]; omega) (by simp) W
  have HL := Lib.hid hl
  have HE := Lib.hid (hE.below (by go_grown : Below w.heap.size w (w.alloc (tyObj ⟨k, p, q, n, vy, pic⟩))))
  clear hl a1 hE
  generalize ho : one1 n = on at s1 ⊢
  have HO := Lib.hid ho; clear ho
  generalize hv : on ++ vary true = onv at s1
  have HV := Lib.hid hv; clear hv
  cases vy
  all_goals
    go_enter Tryz.func200, Tryz.ntmps200
    go_wp2_with fail
    go_at_call 258
    refine (itoaE _ _ (by assumption) (by assumption) HE.out).mono ?_
    rintro e w2 ⟨rfl, hb⟩
    obtain ⟨hc, hf⟩ := bcell hb
    have hz := hb.size
    go_wp2_with fail
    go_at_call 257
    refine (inPar_any (bs (Lib.itoa n)) _ HL.out).mono ?_
    rintro e w3 ⟨rfl, rfl⟩
    rw [show bs (40 :: ((bs (Lib.itoa n)).data.toList ++ [41])) = bs on by rw [← HO.out]; rfl]
    go_wp2
    go_ret
    refine ⟨ret_str ?_, below_then (by go_grown) hb (by simp)⟩
    first | (rw [← HV.out]; done) | simp [vary]

theorem writeNothing_any (t : Ty) (w : World) :
    Calls Tryz.prog 204 #[t.v] w fun e w' => e = .returned (.string (bs [])) ∧ Below w.heap.size w w' := by
  go_enter Tryz.func204, Tryz.ntmps204
  go_wp2
  go_ret
  exact ⟨rfl, by go_grown⟩
end Go.Proofs.YtcekphfmpjdbmaaGreatDoor
