/- Package bits: combined. -/
import Derived.Test.YtgoghblfficfpaaBitComb
namespace Go.Proofs.Ytgoghblfficfpaa
open Go.RowKit

set_option maxRecDepth 100000 in
set_option maxHeartbeats 4000000 in
theorem combined_any (a b : Vl) (t : List UInt8) (fd : Nat) (cd : Array Value) (w : World) (la : a.s.size ≤ 1000) (lb : b.s.size ≤ 1000) (hka : a.k = 5) (hkb : b.k = 5) (oka : ∀ c ∈ a.s.data.toList, okC 5 c = true) (okb : ∀ c ∈ b.s.data.toList, okC 5 c = true) (TD : Does w fd cd t) :
    Calls Try.prog 105 #[a.v, b.v, fnC fd cd] w fun e w' => e = .returned (vlV 5 0 0 (bsz (boolL a.s.data.toList b.s.data.toList t))) ∧ Below w.heap.size w w' := by
  have hmf : ∀ (fn : Fn) (first cap : Array Value) (w : World), (Instr.makeFunc fn first cap).run Try.prog w = .ok (.func fn first cap) w := fun _ _ _ _ => rfl
  have RA := ((((Row.new w (vlC a.k a.n a.q a.s) 23).alloc (.cells (vlC b.k b.n b.q b.s) 23)).alloc (.cells #[fnC fd cd] 105)).alloc (.cells (vlC 0 0 0 ⟨#[]⟩) 23))
  have RB := (((Row.new2 w (.cells (vlC a.k a.n a.q a.s) 23) (vlC b.k b.n b.q b.s) 23).alloc (.cells #[fnC fd cd] 105)).alloc (.cells (vlC 0 0 0 ⟨#[]⟩) 23))
  have RD := ((Row.new3 w (.cells (vlC a.k a.n a.q a.s) 23) (.cells (vlC b.k b.n b.q b.s) 23) #[fnC fd cd] 105).alloc (.cells (vlC 0 0 0 ⟨#[]⟩) 23))
  have RZ := row_new4 w (.cells (vlC a.k a.n a.q a.s) 23) (.cells (vlC b.k b.n b.q b.s) 23) (.cells #[fnC fd cd] 105) (vlC 0 0 0 ⟨#[]⟩) 23
  have HKA : Hid (a.k = 4 ∨ a.k = 5) := Lib.hid (Or.inr hka)
  have HKB : Hid (b.k = 4 ∨ b.k = 5) := Lib.hid (Or.inr hkb)
  have HA := Lib.hid hka; have HB := Lib.hid hkb; have HD := Lib.hid TD
  have hcd := TD.1
  have KA : Hid (∀ i, getF 5 a.s.data.toList i = 48 ∨ getF 5 a.s.data.toList i = 49) := Lib.hid fun i => bit_of (getF_ok (.inr rfl) oka i)
  have KB : Hid (∀ i, getF 5 b.s.data.toList i = 48 ∨ getF 5 b.s.data.toList i = 49) := Lib.hid fun i => bit_of (getF_ok (.inr rfl) okb i)
  have la' : a.s.size ≤ 100000 := by omega
  have lb' : b.s.size ≤ 100000 := by omega
  obtain ⟨F, hF⟩ : ∃ F : Nat → UInt8, F = fun i => bitF t (getF 5 a.s.data.toList i) (getF 5 b.s.data.toList i) := ⟨_, rfl⟩
  have HF : Hid (boolL a.s.data.toList b.s.data.toList t = tellL (max a.s.size b.s.size) F) := by
    show _ = _
    rw [hF]; unfold boolL; rw [lsz, lsz]
  have HFd := Lib.hid hF
  rw [HF.out, ← HA.out]
  clear hka hkb TD oka okb hF
  go_enter Try.func105, Try.ntmps105
  go_wp2
  generalize hw : (((w.alloc (.cells (vlC a.k a.n a.q a.s) 23)).alloc (.cells (vlC b.k b.n b.q b.s) 23)).alloc (.cells #[fnC fd cd] 105)).alloc (.cells (vlC 0 0 0 ⟨#[]⟩) 23) = W at *
  have B0 : Hid (Below w.heap.size w W) := by show Below _ _ _; rw [← hw]; go_grown
  clear hw
  obtain ⟨x0, x1, x2, x3⟩ := RA.four
  obtain ⟨y0, y1, y2, y3⟩ := RB.four
  have KS : Hid (∀ w', Below W.heap.size W w' → Below W.heap.size W w' ∧ (w'.cell? ⟨w.heap.size, 0, none⟩ = some (.int .i64 a.k) ∧ w'.cell? ⟨w.heap.size, 1, none⟩ = some (.int .i64 a.n) ∧ w'.cell? ⟨w.heap.size, 2, none⟩ = some (.int .i64 a.q) ∧ w'.cell? ⟨w.heap.size, 3, none⟩ = some (.string a.s)) ∧ (w'.cell? ⟨w.heap.size + 1, 0, none⟩ = some (.int .i64 b.k) ∧ w'.cell? ⟨w.heap.size + 1, 1, none⟩ = some (.int .i64 b.n) ∧ w'.cell? ⟨w.heap.size + 1, 2, none⟩ = some (.int .i64 b.q) ∧ w'.cell? ⟨w.heap.size + 1, 3, none⟩ = some (.string b.s))) := by
    show ∀ _, _
    exact fun w' h => ⟨h, (RA.keep h).four, (RB.keep h).four⟩
  go_cut [7, 8] (fun s7 s8 wx => CombRel W (max a.s.size b.s.size) 5 a.s.data.toList b.s.data.toList s7 s8 wx)
  case first =>
    go_region_held3 (fun w' => Below W.heap.size W w' ∧ (w'.cell? ⟨w.heap.size, 0, none⟩ = some (.int .i64 a.k) ∧ w'.cell? ⟨w.heap.size, 1, none⟩ = some (.int .i64 a.n) ∧ w'.cell? ⟨w.heap.size, 2, none⟩ = some (.int .i64 a.q) ∧ w'.cell? ⟨w.heap.size, 3, none⟩ = some (.string a.s)) ∧ (w'.cell? ⟨w.heap.size + 1, 0, none⟩ = some (.int .i64 b.k) ∧ w'.cell? ⟨w.heap.size + 1, 1, none⟩ = some (.int .i64 b.n) ∧ w'.cell? ⟨w.heap.size + 1, 2, none⟩ = some (.int .i64 b.q) ∧ w'.cell? ⟨w.heap.size + 1, 3, none⟩ = some (.string b.s)))
      (exact KS.out _ (by (repeat' (with_reducible first | assumption | exact Below.refl _ _ | exact (Below.refl _ _).drew | refine Below.drew ?_ | refine Below.alloc ?_ (by first | omega | (simp; omega) | simp) _ | refine Below.setCell ?_ (by first | omega | (simp; omega) | simp) _))))
      (first
        | (go_at_call 124; first
          | ((with_reducible refine (filled_rows a.k a.n a.q a.s _ HKA.out).mono ?_); rintro e w2 ⟨sx, ix, rfl, hsx, hix, RS2, RI2, hb2⟩; have C2 : Below W.heap.size W w2 := (by refine bl_then ?_ hb2; (repeat' (with_reducible first | assumption | exact Below.refl _ _ | exact (Below.refl _ _).drew | refine Below.drew ?_ | refine Below.alloc ?_ (by first | omega | (simp; omega) | simp) _ | refine Below.setCell ?_ (by first | omega | (simp; omega) | simp) _))); have z2 := C2.size; have ls2 := RS2.lt; have li2 := RI2.lt; (try simp at hsx); (try simp at hix); (try have P2 : Row w2 W.heap.size #[.nilFunc] 84 := (by first | exact Row.keep (Row.new W _ _).drew hb2 | exact Row.keep ((Row.new W _ _).alloc _).drew hb2)); (try have Q2 : Row w2 (W.heap.size + 1) #[.nilFunc] 84 := Row.keep (Row.new2 W _ _ _).drew hb2))
          | ((with_reducible refine (filled_rows b.k b.n b.q b.s _ HKB.out).mono ?_); rintro e w3 ⟨sy, iy, rfl, hsy, hiy, RS3, RI3, hb3⟩; have C3 : Below W.heap.size W w3 := (by refine bl_then ?_ hb3; (repeat' (with_reducible first | assumption | exact Below.refl _ _ | exact (Below.refl _ _).drew | refine Below.drew ?_ | refine Below.alloc ?_ (by first | omega | (simp; omega) | simp) _ | refine Below.setCell ?_ (by first | omega | (simp; omega) | simp) _))); have z3 := C3.size; have ls3 := RS3.lt; have li3 := RI3.lt; (try simp at hsy); (try simp at hiy); have RSx := (by first | exact RS2.keep hb3 | exact (RS2.alloc _).keep hb3 | exact ((RS2.alloc _).alloc _).keep hb3 : Row w3 sx (vlC a.k a.n a.q a.s) 23); have RIx := (by first | exact RI2.keep hb3 | exact (RI2.alloc _).keep hb3 | exact ((RI2.alloc _).alloc _).keep hb3 : Row w3 ix (spC a.k) 90); (try have P3 : Row w3 W.heap.size #[.nilFunc] 84 := (by first | exact Row.keep P2 hb3 | exact Row.keep (P2.alloc _) hb3)); (try have Q3 : Row w3 (W.heap.size + 1) #[.nilFunc] 84 := Row.keep Q2 hb3); (try have U3 : Row w3 w2.heap.size #[.nilFunc] 84 := (by first | exact Row.keep (Row.new w2 _ _) hb3 | exact Row.keep ((Row.new w2 _ _).alloc _) hb3)); (try have V3 : Row w3 (w2.heap.size + 1) #[.nilFunc] 84 := Row.keep (Row.new2 w2 _ _ _) hb3); (try have p0 := P3.one); (try have pf := P3.free 0); (try have q0 := Q3.one); (try have qf := Q3.free 0); (try have u0 := U3.one); (try have uf := U3.free 0); (try have v0 := V3.one); (try have vf := V3.free 0); have hb3z := hb3.size; have hb2z := hb2.size; (try have lp := P3.lt); (try have lq := Q3.lt); (try have lu := U3.lt); (try have lv := V3.lt); (try have lp2 := P2.lt); (try have ne1 : ¬ W.heap.size = w2.heap.size := (by omega)); (try have ne2 : ¬ w2.heap.size = W.heap.size := (by omega)))))
    all_goals
      go_wp2_with fail
      go_meet
      refine combRel_mk (sx := sx) (ix := ix) (sy := sy) (iy := iy) la' lb' HA.out HB.out ?_ ?_ ?_ ?_ ?_ ?_ ?_
      case refine_7 => (repeat' (with_reducible first | assumption | exact Below.refl _ _ | exact (Below.refl _ _).drew | refine Below.drew ?_ | refine Below.alloc ?_ (by first | omega | (simp; omega) | simp) _ | refine Below.setCell ?_ (by first | omega | (simp; omega) | simp) _))
      all_goals (repeat' (with_reducible first | assumption | exact Row.new _ _ _ | exact row_news _ _ _ _ _ | exact Row.new2 _ _ _ _ | refine Row.alloc ?_ _ | refine row_put1 ?_ | refine Row.set ?_ (by simp only [ne_eq]; omega)))
  case rest =>
    obtain ⟨W1, rfl⟩ : ∃ W1 : World, W1 = wc := ⟨_, rfl⟩
    obtain ⟨bX, bY, cx, cy, rfl, rfl, RX, RY, TX, TY, BB⟩ := hcut
    have A1 := RA.keep BB; have C1 := RB.keep BB; have D1 := RD.keep BB; have Z1 := RZ.keep BB
    obtain ⟨x0, x1, x2, x3⟩ := A1.four
    obtain ⟨y0, y1, y2, y3⟩ := C1.four
    have lz := Z1.lt
    have HBB := Lib.hid (bl_then B0.out BB)
    have TS : Hid (∀ M, M ≤ max a.s.size b.s.size → Tells W1 141 #[ptr (w.heap.size + 1 + 1), ptr bX, ptr bY] M F) := by
      show ∀ _, _
      intro M hM
      rw [HFd.out]
      exact ⟨fun _ _ => by kernel_rfl, fun i W' hi hB => combined1 t (getF 5 a.s.data.toList) (getF 5 b.s.data.toList) fd _ _ cd cx cy _ _ _ _ i W' (D1.keep hB) (RX.keep hB) (RY.keep hB) (HD.out.later (bl_then HBB.out hB)) (TX.later hB) (TY.later hB) (Nat.lt_of_lt_of_le hi hM) (KA.out i) (KB.out i)⟩
    clear RA RB RD RZ BB RX RY TX TY A1 C1 D1 KS B0 hcd
    rcases Nat.lt_or_ge a.s.size b.s.size with hm | hm
    · have HM : Hid (max a.s.size b.s.size = b.s.size) := Lib.hid (Nat.max_eq_right (Nat.le_of_lt hm))
      have TM := TS.out b.s.size (Nat.le_max_right _ _)
      have hm2 : (a.s.size : Int) < b.s.size := by omega
      have hm3 : max (a.s.size : Int) b.s.size = b.s.size := by omega
      clear hm
      go_wp2_with (go_at_call 87; refine (like_any _ _ _ _ b.s.size _ _ _ _ lb' TM).mono ?_; rintro e w4 ⟨rfl, hb4⟩; have Z4 := Z1.keep hb4; obtain ⟨z0, z1, z2, z3⟩ := Z4.four; have f0 := Z4.free 0; have f1 := Z4.free 1; have f2 := Z4.free 2; have f3 := Z4.free 3)
      refine bodyPost_ret (v := vlV a.k 0 0 (bsz (tellL b.s.size F))) (by simp [results, Try.results105, go_sem, z0, z1, z2, z3]) rfl ⟨by rw [HM.out], ?_⟩
      (repeat refine Below.setCell ?_ (by simp <;> omega) _)
      exact bl_then HBB.out hb4
    · have HM : Hid (max a.s.size b.s.size = a.s.size) := Lib.hid (Nat.max_eq_left hm)
      have TM := TS.out a.s.size (Nat.le_max_left _ _)
      have hm2 : (b.s.size : Int) ≤ a.s.size := by omega
      have hm2' : ¬ (a.s.size : Int) < b.s.size := by omega
      have hm3 : max (a.s.size : Int) b.s.size = a.s.size := by omega
      clear hm
      go_wp2_with (go_at_call 87; refine (like_any _ _ _ _ a.s.size _ _ _ _ la' TM).mono ?_; rintro e w4 ⟨rfl, hb4⟩; have Z4 := Z1.keep hb4; obtain ⟨z0, z1, z2, z3⟩ := Z4.four; have f0 := Z4.free 0; have f1 := Z4.free 1; have f2 := Z4.free 2; have f3 := Z4.free 3)
      refine bodyPost_ret (v := vlV a.k 0 0 (bsz (tellL a.s.size F))) (by simp [results, Try.results105, go_sem, z0, z1, z2, z3]) rfl ⟨by rw [HM.out], ?_⟩
      (repeat refine Below.setCell ?_ (by simp <;> omega) _)
      exact bl_then HBB.out hb4
end Go.Proofs.Ytgoghblfficfpaa
