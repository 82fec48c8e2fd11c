/- digit: the power of ten of a number's first digit. -/
import Derived.Test.YtpdoddhieblooaaGreatDoorKFltMod
import Derived.Test.YtpdoddhieblooaaGreatDoorKWrdIter
import Derived.Test.YtpdoddhieblooaaGreatDoorKDigArg
namespace Go.Proofs.YtpdoddhieblooaaGreatDoor
open Go.RowKit

def ExpOf (a u : Nat) (E : Int) : Prop := ∃ i j : Nat, E = (i : Int) - j ∧ u * 10 ^ i ≤ a * 10 ^ j ∧ a * 10 ^ j < 10 * (u * 10 ^ i)
theorem digs_ge {n : Nat} (h : 0 < n) : 10 ^ ((digs n).length - 1) ≤ n := by
 have := val_ge (digs n) (digs_neat n) (digs_len_pos h)
 rwa [val_digs] at this
theorem pow_up {n : Nat} (h : 0 < n) : 10 ^ (digs n).length ≤ 10 * n := by
 have h1 := digs_ge h
 have h2 := digs_len_pos h
 have h3 := pow_pred (P := (digs n).length) (by omega)
 omega
theorem exp_up {a u i j : Nat} (hu : 0 < u) (he : (digs a).length + j = (digs u).length + i) : a * 10 ^ j < 10 * (u * 10 ^ i) := by
 have h1 : a * 10 ^ j < 10 ^ (digs a).length * 10 ^ j := Nat.mul_lt_mul_of_pos_right (digs_lt a) (Nat.pow_pos (by decide))
 have h2 : 10 ^ (digs u).length * 10 ^ i ≤ 10 * u * 10 ^ i := Nat.mul_le_mul_right _ (pow_up hu)
 rw [← Nat.pow_add, he, Nat.pow_add] at h1
 rw [Nat.mul_assoc] at h2
 omega
theorem exp_at {a u i j : Nat} (hu : 0 < u) (he : (digs a).length + j = (digs u).length + i) (h : u * 10 ^ i ≤ a * 10 ^ j) : ExpOf a u ((i : Int) - j) := ⟨i, j, rfl, h, exp_up hu he⟩
theorem exp_less {a u i j : Nat} (ha : 0 < a) (he : (digs a).length + j = (digs u).length + i) (h : a * 10 ^ j < u * 10 ^ i) : ExpOf a u ((i : Int) - j - 1) := by
 have h1 := exp_up (a := u) (u := a) (i := j) (j := i) ha he.symm
 have e : a * 10 ^ (j + 1) = 10 * (a * 10 ^ j) := by rw [Nat.pow_succ, ← Nat.mul_assoc, Nat.mul_comm]
 exact ⟨i, j + 1, by omega, by rw [e]; omega, by rw [e]; omega⟩
theorem ExpOf.flo {a u P i j : Nat} {E : Int} (h : ExpOf a u E) (hP : 1 ≤ P) (hij : (i : Int) - j = P - 1 - E) : 10 ^ (P - 1) * (u * 10 ^ j) ≤ a * 10 ^ i ∧ a * 10 ^ i < 10 ^ P * (u * 10 ^ j) := by
 obtain ⟨m, n, rfl, h1, h2⟩ := h
 have e : i + m = P - 1 + n + j := by omega
 have hn : 0 < 10 ^ n := Nat.pow_pos (by decide)
 have a1 : u * 10 ^ m * 10 ^ i ≤ a * 10 ^ n * 10 ^ i := Nat.mul_le_mul_right _ h1
 have a2 : a * 10 ^ n * 10 ^ i < 10 * (u * 10 ^ m) * 10 ^ i := Nat.mul_lt_mul_of_pos_right h2 (Nat.pow_pos (by decide))
 have e1 : a * 10 ^ n * 10 ^ i = a * 10 ^ i * 10 ^ n := Nat.mul_right_comm _ _ _
 have e2 : u * 10 ^ m * 10 ^ i = 10 ^ (P - 1) * (u * 10 ^ j) * 10 ^ n := by
   have e3 : 10 ^ m * 10 ^ i = 10 ^ (P - 1) * 10 ^ n * 10 ^ j := by rw [← Nat.pow_add, ← Nat.pow_add, ← Nat.pow_add, Nat.add_comm m i, e]
   rw [Nat.mul_assoc, e3]
   generalize 10 ^ (P - 1) = x1
   generalize 10 ^ n = x2
   generalize 10 ^ j = x3
   ac_rfl
 rw [e1, e2] at a1
 rw [e1, Nat.mul_assoc 10, e2, ← Nat.mul_assoc, ← Nat.mul_assoc, ← pow_pred hP] at a2
 exact ⟨Nat.le_of_mul_le_mul_right a1 hn, Nat.lt_of_mul_lt_mul_right a2⟩
theorem sh_abs (z n : Int) : (shN z n).natAbs = z.natAbs * 10 ^ n.toNat := by
 unfold shN
 split
 · rw [show n.toNat = 0 by omega, Nat.pow_zero, Nat.mul_one]
 · rw [Int.natAbs_mul, Int.natAbs_natCast]
theorem shU_eq (u : Nat) (n : Int) : shU u n = u * 10 ^ (-n).toNat := by
 unfold shU
 split
 · rfl
 · rw [show (-n).toNat = 0 by omega, Nat.pow_zero, Nat.mul_one]
def expE (a u : Nat) : Int :=
 if u * 10 ^ (((digs a).length : Int) - (digs u).length).toNat ≤ a * 10 ^ (-(((digs a).length : Int) - (digs u).length)).toNat then ((digs a).length : Int) - (digs u).length else ((digs a).length : Int) - (digs u).length - 1
theorem expE_of {a u : Nat} (ha : 0 < a) (hu : 0 < u) : ExpOf a u (expE a u) := by
 unfold expE
 generalize hE : ((digs a).length : Int) - (digs u).length = E0
 have hd : E0 = (E0.toNat : Int) - ((-E0).toNat : Int) := by omega
 have hl : (digs a).length + (-E0).toNat = (digs u).length + E0.toNat := by omega
 split
 · rename_i h; have := exp_at hu hl h; rwa [← hd] at this
 · rename_i h; have := exp_less ha hl (by omega); rwa [← hd] at this
theorem expE_bd {a u : Nat} (ha : (digs a).length ≤ 10000) (hu : (digs u).length ≤ 10000) : -10001 ≤ expE a u ∧ expE a u ≤ 10000 := by
 unfold expE
 split <;> omega
set_option maxRecDepth 100000 in
set_option maxHeartbeats 8000000 in
theorem expo_x {B : Nat} {z : Int} {u : Nat} {v : Value} {w : World} (hX : XArg B w v z u) (hz : z ≠ 0) (hu : 0 < u) (la : (wrds z.natAbs).length ≤ 4000) (lu : (wrds u).length ≤ 4000) (da : (digs z.natAbs).length ≤ 10000) (du : (digs u).length ≤ 10000) :
   Calls Tryz.prog 131 #[v] w fun e w' => e = .returned (.int .i64 (expE z.natAbs u)) ∧ Below w.heap.size w w' := by
 obtain ⟨px, kx, qx, mx, rfl⟩ := hX.open
 have HX := Lib.hid hX
 have HL1 : Hid (∀ W, Below w.heap.size w W → Calls Tryz.prog 128 #[.slice px (wrds z.natAbs).length kx] W fun e w' => e = .returned (.int .i64 ((digs z.natAbs).length : Int)) ∧ Below W.heap.size W w') := Lib.hid fun W hW => length_d (hX.args.1.keep hW (Nat.le_refl _)) (by omega) (by omega)
 have HL2 : Hid (∀ W, Below w.heap.size w W → Calls Tryz.prog 128 #[.slice qx (wrds u).length mx] W fun e w' => e = .returned (.int .i64 ((digs u).length : Int)) ∧ Below W.heap.size W w') := Lib.hid fun W hW => length_d (hX.args.2.1.keep hW (Nat.le_refl _)) (by omega) (by omega)
 have p1 := digs_len_pos (n := z.natAbs) (by omega)
 have p2 := digs_len_pos hu
 obtain ⟨E0, hE⟩ : ∃ E0 : Int, ((digs z.natAbs).length : Int) - (digs u).length = E0 := ⟨_, rfl⟩
 obtain ⟨n, hn⟩ : ∃ n : Int, -E0 = n := ⟨_, rfl⟩
 have b1 : -10000 ≤ E0 ∧ E0 ≤ 10000 := by omega
 have HSH : Hid (∀ (v : Value) (W : World), XArg 0 W v z u → Calls Tryz.prog 129 #[v, .int .i64 n] W fun e w' => ∃ y, e = .returned y ∧ XArg 0 w' y (shN z n) (shU u n) ∧ Below W.heap.size W w') := Lib.hid fun v W h =>
   (shift_x (P := fun c => 0 ≤ c) n h (fun _ _ => Nat.zero_le _) la lu (by omega) (by omega)).mono fun _ _ ⟨y, he, hx, hb⟩ => ⟨y, he, hx, hb⟩
 have lw1 := wrds_ten (q := n.toNat) (by omega)
 have lw2 := wrds_ten (q := (-n).toNat) (by omega)
 have lw3 := wrds_mul_len z.natAbs (10 ^ n.toNat)
 have lw4 := wrds_mul_len u (10 ^ (-n).toNat)
 have eA := sh_abs z n
 have eU := shU_eq u n
 have hcase : (0 ≤ cmpZ ((shN z n).natAbs : Int) (shU u n : Int) ∧ expE z.natAbs u = E0) ∨ (cmpZ ((shN z n).natAbs : Int) (shU u n : Int) < 0 ∧ expE z.natAbs u = E0 - 1) := by
   rw [eA, eU]
   unfold expE
   rw [hE, hn, show E0.toNat = (-n).toNat by rw [← hn]; simp]
   by_cases h : u * 10 ^ (-n).toNat ≤ z.natAbs * 10 ^ n.toNat
   · refine .inl ⟨?_, by rw [if_pos h]⟩
     by_cases he : u * 10 ^ (-n).toNat = z.natAbs * 10 ^ n.toNat
     · rw [cmpZ_eq (by rw [he])]; decide
     · rw [cmpZ_gt (by exact_mod_cast (show u * 10 ^ (-n).toNat < z.natAbs * 10 ^ n.toNat by omega))]; decide
   · refine .inr ⟨?_, by rw [if_neg h]⟩
     rw [cmpZ_lt (by exact_mod_cast (show z.natAbs * 10 ^ n.toNat < u * 10 ^ (-n).toNat by omega))]; decide
 obtain ⟨N, hN⟩ : ∃ N, shN z n = N := ⟨_, rfl⟩
 obtain ⟨U, hU⟩ : ∃ U, shU u n = U := ⟨_, rfl⟩
 rw [hN, hU] at HSH hcase
 rw [hN] at eA
 rw [hU] at eU
 have lN : (wrds N.natAbs).length ≤ 10000 := by rw [eA]; omega
 have lU : (wrds U).length ≤ 10000 := by rw [eU]; omega
 have HCM : Hid (∀ (v1 v2 : Value) (W : World), WArg 0 W v1 N.natAbs → WArg 0 W v2 U → Calls Tryz.prog 58 #[v1, v2] W fun e w' => e = .returned (.int .i64 (cmpZ (N.natAbs : Int) (U : Int))) ∧ Below W.heap.size W w') := Lib.hid fun v1 v2 W h1 h2 => compare_d h1 h2 (by omega) (by omega)
 obtain ⟨c, hc⟩ : ∃ c, cmpZ (N.natAbs : Int) (U : Int) = c := ⟨_, rfl⟩
 rw [hc] at HCM hcase
 obtain ⟨L1, hL1⟩ : ∃ L1 : Int, ((digs z.natAbs).length : Int) = L1 := ⟨_, rfl⟩
 obtain ⟨L2, hL2⟩ : ∃ L2 : Int, ((digs u).length : Int) = L2 := ⟨_, rfl⟩
 rw [hL1] at HL1 hE
 rw [hL2] at HL2 hE
 have hw1 : IntKind.i64.wrap (L1 - L2) = E0 := by rw [hE]; exact IntWalk.i64_in _ (by omega)
 have hw2 : IntKind.i64.wrap (-E0) = n := by rw [hn]; exact IntWalk.i64_in _ (by omega)
 have hw3 : IntKind.i64.wrap (E0 - 1) = E0 - 1 := IntWalk.i64_in _ (by omega)
 obtain ⟨dz, hdz⟩ : ∃ d, decide (z < 0) = d := ⟨_, rfl⟩
 rw [hdz] at HX ⊢
 have RX := Row.new w (exC (.slice px (wrds z.natAbs).length kx) dz (.slice qx (wrds u).length mx)) 43
 clear hX hz hu la lu da du p1 p2 hn b1 lw1 lw2 lw3 lw4 eA eU hN hU lN lU hc hL1 hL2 hdz hE
 rcases hcase with ⟨hc, hF⟩ | ⟨hc, hF⟩
 all_goals
   rw [hF]
   clear hF
   go_enter Tryz.func131, Tryz.ntmps131
   go_wp2_with fail
   generalize hw : w.alloc (.cells (exC (.slice px (wrds z.natAbs).length kx) dz (.slice qx (wrds u).length mx)) 43) = W at *
   have B0 : Hid (Below w.heap.size w W) := by show Below _ _ _; rw [← hw]; go_grown
   have XW : Hid (XArg 0 W (exV (.slice px (wrds z.natAbs).length kx) dz (.slice qx (wrds u).length mx)) z u) := Lib.hid ((HX.out.keep B0.out (Nat.le_refl _)).base (Nat.zero_le _))
   clear hw
   obtain ⟨x0, x1, x2⟩ := RX.ex
   go_region_held3 (fun w' => w'.cell? ⟨w.heap.size, 0, none⟩ = some (.slice px (wrds z.natAbs).length kx) ∧ w'.cell? ⟨w.heap.size, 2, none⟩ = some (.slice qx (wrds u).length mx))
     (first | go_keep | exact ⟨A3.ex.1, A3.ex.2.2⟩ | exact ⟨A2.ex.1, A2.ex.2.2⟩ | ((try dsimp only); (repeat' apply And.intro) <;> go_keep))
     (first
       | (go_at_call 128; (with_reducible refine (HL1.out _ B0.out.drew).mono ?_); rintro e w2 ⟨rfl, hb2⟩; have A2 := RX.keep (bl_drew hb2); have BW2 := Lib.hid (bl_then B0.out (bl_drew hb2)); have X2 := Lib.hid (XW.out.keep (bl_drew hb2) (Nat.le_refl _)))
       | (go_at_call 128; (with_reducible refine (HL2.out _ BW2.out).mono ?_); rintro e w3 ⟨rfl, hb3⟩; have A3 := A2.keep hb3; have BW3 := Lib.hid (bl_then BW2.out hb3); have X3 := Lib.hid (X2.out.keep hb3 (Nat.le_refl _)); obtain ⟨x0, x1, x2⟩ := A3.ex))
   go_wp2_with (first
     | (go_at_call 129; (with_reducible refine (HSH.out _ _ X3.out).mono ?_); rintro e w4 ⟨v4, rfl, X4, hb4⟩; have BW4 := Lib.hid (bl_then BW3.out hb4); have X5 : ∀ o : Obj, Hid (XArg 0 (w4.alloc o) v4 N U) := (fun o => Lib.hid (X4.keep ((Below.refl _ w4).alloc (Nat.le_refl _) o) (Nat.le_refl _))); obtain ⟨p4, k4, q4, m4, rfl⟩ := X4.open; clear X4 hb4)
     | (go_at_call 58; (with_reducible refine (HCM.out _ _ _ (X5 _).out.args.1 (X5 _).out.args.2.1).mono ?_); rintro e w5 ⟨rfl, hb5⟩; have BW5 := Lib.hid (bl_box BW4.out hb5)))
   go_ret
   exact ⟨rfl, BW5.out⟩
end Go.Proofs.YtpdoddhieblooaaGreatDoor
