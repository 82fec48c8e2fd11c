/- digit: exact numbers: over. -/
import Derived.Test.YtjdgefgdekanjaaGreatDoorWrdXs
namespace Go.Proofs.YtjdgefgdekanjaaGreatDoor
open Go.RowKit

/-- A quotient's numerator as digit makes it. -/
def ovN (a b : Int) (t : Nat) : Int := if b < 0 then -(a * t) else a * t
theorem ovN_abs (a b : Int) (t : Nat) : (ovN a b t).natAbs = a.natAbs * t := by
  unfold ovN
  split
  · rw [Int.natAbs_neg, Int.natAbs_mul, Int.natAbs_natCast]
  · rw [Int.natAbs_mul, Int.natAbs_natCast]
theorem ovN_neg (a b : Int) (t : Nat) (h : ovN a b t ≠ 0) : (decide (a < 0) != decide (b < 0)) = decide (ovN a b t < 0) := by
  have ha : a ≠ 0 := by rintro rfl; apply h; unfold ovN; split <;> simp
  have ht : t ≠ 0 := by rintro rfl; apply h; unfold ovN; split <;> simp
  have hp : 0 < (t : Int) := by omega
  have hs : a * t < 0 ↔ a < 0 := by
    constructor
    · intro h1
      rcases Int.lt_or_lt_of_ne ha with h2 | h2
      · exact h2
      · have := Int.mul_pos h2 hp; omega
    · intro h1; exact Int.mul_neg_of_neg_of_pos h1 hp
  have hz : a * t ≠ 0 := Int.mul_ne_zero ha (by omega)
  unfold ovN
  by_cases hb : b < 0
  · rw [if_pos hb, decide_eq_true hb]
    by_cases h2 : a < 0
    · have h3 := hs.2 h2
      rw [decide_eq_true h2, decide_eq_false (by omega)]; rfl
    · have h3 : ¬ a * t < 0 := fun x => h2 (hs.1 x)
      rw [decide_eq_false h2, decide_eq_true (by omega)]; rfl
  · rw [if_neg hb, decide_eq_false hb]
    by_cases h2 : a < 0
    · rw [decide_eq_true h2, decide_eq_true (hs.2 h2)]; rfl
    · rw [decide_eq_false h2, decide_eq_false (fun x => h2 (hs.1 x))]; rfl

set_option maxRecDepth 100000 in
set_option maxHeartbeats 8000000 in
theorem over_x {P : Nat → Prop} {a b : Int} {u t : Nat} {va vb : Value} {w : World} (hX : XArgP P w va a u) (hY : XArgP P w vb b t) (hP : ∀ c, w.heap.size ≤ c → P c) (la : (wrds a.natAbs).length ≤ 4000) (lb : (wrds b.natAbs).length ≤ 4000) (lu : (wrds u).length ≤ 4000) (lt : (wrds t).length ≤ 4000) :
    Calls Tryz.prog 29 #[va, vb] w fun e w' => ∃ y, e = .returned y ∧ XArgP P w' y (ovN a b t) (u * b.natAbs) ∧ Below w.heap.size w w' := by
  obtain ⟨pa, ka, qa, ma, rfl⟩ := hX.x.open
  obtain ⟨pb, kb, qb, mb, rfl⟩ := hY.x.open
  have HX := Lib.hid hX.x
  have HY := Lib.hid hY.x
  have HPP := Lib.hid hP
  clear hX hY hP
  have hng := ovN_neg a b t
  have hab := ovN_abs a b t
  have k1 := wrds_mul_len a.natAbs t
  have k2 := wrds_mul_len u b.natAbs
  obtain ⟨Z, hZ⟩ : ∃ Z : Int, ovN a b t = Z := ⟨_, rfl⟩
  obtain ⟨U, hU⟩ : ∃ U : Nat, u * b.natAbs = U := ⟨_, rfl⟩
  rw [hZ] at hng hab ⊢
  obtain ⟨da, hda⟩ : ∃ d, decide (a < 0) = d := ⟨_, rfl⟩
  obtain ⟨db, hdb⟩ : ∃ d, decide (b < 0) = d := ⟨_, rfl⟩
  rw [hda] at HX hng ⊢
  rw [hdb] at HY hng ⊢
  obtain ⟨dx, hdx⟩ : ∃ d, (da != db) = d := ⟨_, rfl⟩
  rw [hdx] at hng
  have HPA : Hid (∀ (W : World), Below w.heap.size w W → Calls Tryz.prog 71 #[.slice pa (wrds a.natAbs).length ka, .slice qb (wrds t).length mb] W (GivesW W Z.natAbs)) := Lib.hid fun W hW => by
    rw [hab]; exact product_d (HX.out.args.1.keep hW (Nat.le_refl _)) (HY.out.args.2.1.keep hW (Nat.le_refl _)) (by omega) (by omega)
  have HPU : Hid (∀ (W : World), Below w.heap.size w W → Calls Tryz.prog 71 #[.slice qa (wrds u).length ma, .slice pb (wrds b.natAbs).length kb] W (GivesW W U)) := Lib.hid fun W hW => by
    rw [← hU]; exact product_d (HX.out.args.2.1.keep hW (Nat.le_refl _)) (HY.out.args.1.keep hW (Nat.le_refl _)) (by omega) (by omega)
  have HSG : Hid (∀ (B : Nat) (v : Value) (W : World), WArg B W v Z.natAbs → Calls Tryz.prog 72 #[v, .bool dx] W fun e w' => ∃ s, e = .returned s ∧ LArg B w' s Z ∧ Below W.heap.size W w') := Lib.hid fun B v W h => signed_z h (by rw [hab]; omega) hng
  rw [hU]
  have hqn : ∀ W, (binOp .neq 4 (.bool da) (.bool db)).run Tryz.prog W = .ok (.bool dx) W := fun W => by
    rw [← hdx]; cases da <;> cases db <;> kernel_rfl
  clear hda hdb hZ hU hng hab k1 k2 HX HY hdx
  have RA := ((Row.new w (exC (.slice pa (wrds a.natAbs).length ka) da (.slice qa (wrds u).length ma)) 65).alloc (.cells (exC (.slice pb (wrds b.natAbs).length kb) db (.slice qb (wrds t).length mb)) 65)).alloc (.cells (exC (.slice none 0 0) false (.slice none 0 0)) 65)
  have RC := (Row.new2 w (.cells (exC (.slice pa (wrds a.natAbs).length ka) da (.slice qa (wrds u).length ma)) 65) (exC (.slice pb (wrds b.natAbs).length kb) db (.slice qb (wrds t).length mb)) 65).alloc (.cells (exC (.slice none 0 0) false (.slice none 0 0)) 65)
  have RZ := Row.new3 w (.cells (exC (.slice pa (wrds a.natAbs).length ka) da (.slice qa (wrds u).length ma)) 65) (.cells (exC (.slice pb (wrds b.natAbs).length kb) db (.slice qb (wrds t).length mb)) 65) (exC (.slice none 0 0) false (.slice none 0 0)) 65
  go_enter Tryz.func29, Tryz.ntmps29
  go_wp2_with fail
  generalize hw : ((w.alloc (.cells (exC (.slice pa (wrds a.natAbs).length ka) da (.slice qa (wrds u).length ma)) 65)).alloc (.cells (exC (.slice pb (wrds b.natAbs).length kb) db (.slice qb (wrds t).length mb)) 65)).alloc (.cells (exC (.slice none 0 0) false (.slice none 0 0)) 65) = W at *
  have B0 : Hid (Below w.heap.size w W) := by show Below _ _ _; rw [← hw]; go_grown
  have hsz : w.heap.size + 1 + 1 + 1 ≤ W.heap.size := by rw [← hw]; simp
  clear hw
  have n1 : ¬ w.heap.size + 1 + 1 = w.heap.size := by omega
  have n2 : ¬ w.heap.size = w.heap.size + 1 + 1 := by omega
  have n3 : ¬ w.heap.size + 1 + 1 = w.heap.size + 1 := by omega
  have n4 : ¬ w.heap.size + 1 = w.heap.size + 1 + 1 := by omega
  obtain ⟨x0, x1, x2⟩ := RA.ex
  obtain ⟨y0, y1, y2⟩ := RC.ex
  go_wp2_with (go_at_call 71; (with_reducible refine (HPA.out _ B0.out).mono ?_); rintro e w1 ⟨v1, rfl, W1, hb1⟩; have RA := RA.keep hb1; have RC := RC.keep hb1; have RZ := RZ.keep hb1; have W1 := W1.base hsz; have B0 := Lib.hid (bl_then B0.out hb1); have hsz := Nat.le_trans hsz hb1.size; obtain ⟨x0, x1, x2⟩ := RA.ex; obtain ⟨y0, y1, y2⟩ := RC.ex; have W1' := Lib.hid W1; obtain ⟨p1, k1, rfl⟩ := W1.slice; clear hb1 W1)
  go_region_held3 (fun w' => (w'.cell? ⟨w.heap.size, 0, none⟩ = some (.slice pa (wrds a.natAbs).length ka) ∧ w'.cell? ⟨w.heap.size, 1, none⟩ = some (.bool da) ∧ w'.cell? ⟨w.heap.size, 2, none⟩ = some (.slice qa (wrds u).length ma)) ∧ (w'.cell? ⟨w.heap.size + 1, 0, none⟩ = some (.slice pb (wrds b.natAbs).length kb) ∧ w'.cell? ⟨w.heap.size + 1, 1, none⟩ = some (.bool db) ∧ w'.cell? ⟨w.heap.size + 1, 2, none⟩ = some (.slice qb (wrds t).length mb)))
    (first | go_keep | exact ⟨A3.ex, C3.ex⟩ | exact ⟨A2.ex, C2.ex⟩ | ((try dsimp only); (repeat' apply And.intro) <;> go_keep))
    (first
      | (go_at_call 72; (with_reducible refine (HSG.out _ _ _ (W1'.out.keep ((Below.refl _ _).drew) (Nat.le_refl _))).mono ?_); rintro e w2 ⟨v2, rfl, L2, hb2⟩; have A2 := RA.keep (bl_drew hb2); have C2 := RC.keep (bl_drew hb2); have Z2 := RZ.keep (bl_drew hb2); have BW2 := Lib.hid (bl_then B0.out (bl_drew hb2)); have hs2 := Nat.le_trans hsz (bl_drew hb2).size; have L2' := Lib.hid L2; obtain ⟨p2, k2, rfl⟩ := L2.open; clear L2)
      | (go_at_call 71; (with_reducible refine (HPU.out _ BW2.out).mono ?_); rintro e w3 ⟨v3, rfl, W3, hb3⟩; have A3 := A2.keep hb3; have C3 := C2.keep hb3; have Z3 := Z2.keep hb3; have W3' := Lib.hid (W3.base hs2); obtain ⟨p3, k3, rfl⟩ := W3.slice; clear W3; obtain ⟨z0, z1, z2⟩ := Z3.ex; have f0 := Z3.free 0; have f1 := Z3.free 1; have f2 := Z3.free 2))
  go_wp2
  refine bodyPost_ret (v := exV (.slice p2 (wrds Z.natAbs).length k2) (decide (Z < 0)) (.slice p3 (wrds U).length k3)) (by simp [results, Tryz.results29, go_sem, z0, z1, z2]) rfl ⟨_, rfl, ?_, ?_⟩
  · have h2 := L2'.out.keep hb3 (Nat.le_refl _)
    exact plusx_mk (((h2.put _ _ (by simp)).put _ _ (by simp)).put _ _ (by simp)) (fun c hc => HPP.out c (by omega)) ((((W3'.out.setCell _ (by simp)).setCell _ (by simp)).setCell _ (by simp)).inP fun c hc _ => HPP.out c (by omega))
  · (repeat refine Below.setCell ?_ (by simp <;> omega) _)
    exact bl_then BW2.out hb3
end Go.Proofs.YtjdgefgdekanjaaGreatDoor
