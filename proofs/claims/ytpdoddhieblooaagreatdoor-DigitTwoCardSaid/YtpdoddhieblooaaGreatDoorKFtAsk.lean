/- ironbarkref01.Over, Floor. ironbarkref01.Floor. ironbarkref01.numbers, asked: the errors of values and a type, exactly; digit.demandRight, exactly. -/
import Derived.Test.YtpdoddhieblooaaGreatDoorKExTurn
import Derived.Test.YtpdoddhieblooaaGreatDoorKBit0
import Derived.Test.YtpdoddhieblooaaGreatDoorKFtOutB
import Derived.Test.YtpdoddhieblooaaGreatDoorKWrdXs
import Derived.Test.YtpdoddhieblooaaGreatDoorKGood
import Derived.Test.YtpdoddhieblooaaGreatDoorKTwoLaw
import Derived.Test.YtpdoddhieblooaaGreatDoorKGoodHas
namespace Go.Proofs.YtpdoddhieblooaaGreatDoor
open Go.RowKit

abbrev rc (n : Bool) (a b : Value) : Array Value := #[.bool n, a, b]
theorem rarg_mk {B : Nat} {w : World} {neg : Bool} {p q : Option Addr} {k l num den : Nat} (h1 : DArg B w (.slice p (digs num).length k) num) (h2 : DArg B w (.slice q (digs den).length l) den) : RArg B w (reV neg (.slice p (digs num).length k) (.slice q (digs den).length l)) neg num den := ⟨_, _, rfl, h1, h2⟩
set_option maxRecDepth 100000 in
set_option maxHeartbeats 4000000 in
theorem over_d {B C : Nat} {w : World} {u v : Value} {na nb : Bool} {a b c d : Nat} (hx : RArg B w u na a b) (hy : RArg C w v nb c d) (la : (digs a).length ≤ 4000) (lb : (digs b).length ≤ 4000) (lc : (digs c).length ≤ 4000) (ld : (digs d).length ≤ 4000) :
   Calls Tryz.prog 41 #[u, v] w (GivesR w ((na != nb) && decide (0 < a * d)) (a * d) (b * c)) := by
 obtain ⟨va, vb, rfl, Da, Db⟩ := hx
 obtain ⟨vc, vd, rfl, Dc, Dd⟩ := hy
 obtain ⟨pa, ka, rfl⟩ := Da.slice
 obtain ⟨pb, kb, rfl⟩ := Db.slice
 obtain ⟨pc, kc, rfl⟩ := Dc.slice
 obtain ⟨pd, kd, rfl⟩ := Dd.slice
 have HM1 : Hid (∀ W, Below w.heap.size w W → Calls Tryz.prog 54 #[.slice pa (digs a).length ka, .slice pd (digs d).length kd] W (Gives W (a * d))) := Lib.hid fun W hW => mul_d (Da.keep hW (Nat.le_refl _)) (Dd.keep hW (Nat.le_refl _)) (by omega) (by omega)
 have HM2 : Hid (∀ W, Below w.heap.size w W → Calls Tryz.prog 54 #[.slice pb (digs b).length kb, .slice pc (digs c).length kc] W (Gives W (b * c))) := Lib.hid fun W hW => mul_d (Db.keep hW (Nat.le_refl _)) (Dc.keep hW (Nat.le_refl _)) (by omega) (by omega)
 have RA := ((Row.new w (rc na (.slice pa (digs a).length ka) (.slice pb (digs b).length kb)) 52).alloc (.cells (rc nb (.slice pc (digs c).length kc) (.slice pd (digs d).length kd)) 52)).alloc (.cells (rc false (.slice none 0 0) (.slice none 0 0)) 52)
 have RC := (Row.new2 w (.cells (rc na (.slice pa (digs a).length ka) (.slice pb (digs b).length kb)) 52) (rc nb (.slice pc (digs c).length kc) (.slice pd (digs d).length kd)) 52).alloc (.cells (rc false (.slice none 0 0) (.slice none 0 0)) 52)
 have RZ := Row.new3 w (.cells (rc na (.slice pa (digs a).length ka) (.slice pb (digs b).length kb)) 52) (.cells (rc nb (.slice pc (digs c).length kc) (.slice pd (digs d).length kd)) 52) (rc false (.slice none 0 0) (.slice none 0 0)) 52
 obtain ⟨dx, hdx⟩ : ∃ x, (na != nb) = x := ⟨_, rfl⟩
 have hqn : ∀ W, (binOp .neq 4 (.bool na) (.bool nb)).run Tryz.prog W = .ok (.bool dx) W := fun W => by
   rw [← hdx]; cases na <;> cases nb <;> kernel_rfl
 have hcase : (dx = false ∧ (dx && decide (0 < a * d)) = false) ∨ (dx = true ∧ 0 < (digs (a * d)).length ∧ (dx && decide (0 < a * d)) = true) ∨ (dx = true ∧ ¬ 0 < (digs (a * d)).length ∧ (dx && decide (0 < a * d)) = false) := by
   cases dx
   · exact .inl ⟨rfl, rfl⟩
   · by_cases h : 0 < a * d
     · exact .inr (.inl ⟨rfl, digs_len_pos h, by rw [decide_eq_true h]; rfl⟩)
     · exact .inr (.inr ⟨rfl, digs_len_not h, by rw [decide_eq_false h]; rfl⟩)
 rw [hdx]
 obtain ⟨ad, had⟩ : ∃ x, a * d = x := ⟨_, rfl⟩
 obtain ⟨bc, hbc⟩ : ∃ x, b * c = x := ⟨_, rfl⟩
 rw [had] at HM1 hcase ⊢
 rw [hbc] at HM2 ⊢
 obtain ⟨dr, hdr⟩ : ∃ x, (dx && decide (0 < ad)) = x := ⟨_, rfl⟩
 rw [hdr] at hcase ⊢
 clear had hbc hdx hdr Da Db Dc Dd la lb lc ld
 rcases hcase with ⟨rfl, rfl⟩ | ⟨rfl, hl, rfl⟩ | ⟨rfl, hl, rfl⟩
 all_goals
   go_enter Tryz.func41, Tryz.ntmps41
   go_wp2_with fail
   generalize hw : ((w.alloc (.cells (rc na (.slice pa (digs a).length ka) (.slice pb (digs b).length kb)) 52)).alloc (.cells (rc nb (.slice pc (digs c).length kc) (.slice pd (digs d).length kd)) 52)).alloc (.cells (rc false (.slice none 0 0) (.slice none 0 0)) 52) = W at *
   have B0 : Hid (Below w.heap.size w W) := by show Below _ _ _; rw [← hw]; go_grown
   have hsz : w.heap.size + 1 + 1 + 1 ≤ W.heap.size := by rw [← hw]; simp
   clear hw
   obtain ⟨x0, x1, x2⟩ := RA.ex
   obtain ⟨y0, y1, y2⟩ := RC.ex
   go_wp2_with (first
     | (go_at_call 54; (with_reducible refine (HM1.out _ B0.out).mono ?_); rintro e w1 ⟨v1, rfl, D1, hb1⟩; have RA1 := RA.keep hb1; have RC1 := RC.keep hb1; have RZ1 := RZ.keep hb1; have BW1 := Lib.hid (bl_then B0.out hb1); have hs1 := Nat.le_trans hsz hb1.size; have D1 := Lib.hid (D1.base hsz); obtain ⟨p1, k1, rfl⟩ := D1.out.slice; obtain ⟨x0, x1, x2⟩ := RA1.ex; obtain ⟨y0, y1, y2⟩ := RC1.ex; clear hb1)
     | (go_at_call 54; (with_reducible refine (HM2.out _ BW1.out).mono ?_); rintro e w2 ⟨v2, rfl, D2, hb2⟩; have RZ2 := RZ1.keep hb2; have BW2 := Lib.hid (bl_then BW1.out hb2); have D1' := Lib.hid (D1.out.keep hb2 (Nat.le_refl _)); have D2 := Lib.hid (D2.base hs1); obtain ⟨p2, k2, rfl⟩ := D2.out.slice; obtain ⟨z0, z1, z2⟩ := RZ2.ex; have f0 := RZ2.free 0; have f1 := RZ2.free 1; have f2 := RZ2.free 2; clear hb2))
   refine bodyPost_ret (v := reV _ (.slice p1 (digs ad).length k1) (.slice p2 (digs bc).length k2)) (by simp [results, Tryz.results41, go_sem, z0, z1, z2]; rfl) rfl ⟨_, rfl, ?_, ?_⟩
   · exact RArg.base (B := w.heap.size + 1 + 1 + 1) (rarg_mk (((D1'.out.setCell _ (by simp)).setCell _ (by simp)).setCell _ (by simp)) (((D2.out.setCell _ (by simp)).setCell _ (by simp)).setCell _ (by simp))) (by omega)
   · (repeat refine Below.setCell ?_ (by simp <;> omega) _)
     exact BW2.out
def flM (neg : Bool) (num den : Nat) : Nat := if neg = true ∧ num % den ≠ 0 then num / den + 1 else num / den
set_option maxRecDepth 100000 in
set_option maxHeartbeats 4000000 in
theorem floor_d {B : Nat} {w : World} {u : Value} {neg : Bool} {num den : Nat} (hx : RArg B w u neg num den) (hd : 0 < den) (la : (digs num).length ≤ 4000) (lb : (digs den).length ≤ 4000) :
   Calls Tryz.prog 40 #[u] w (GivesR w (neg && decide (0 < flM neg num den)) (flM neg num den) 1) := by
 obtain ⟨va, vb, rfl, Da, Db⟩ := hx
 obtain ⟨pa, ka, rfl⟩ := Da.slice
 obtain ⟨pb, kb, rfl⟩ := Db.slice
 have lq : (digs (num / den)).length ≤ 4000 := Nat.le_trans (digs_len_mono (Nat.div_le_self _ _)) la
 have HDV : Hid (∀ W, Below w.heap.size w W → Calls Tryz.prog 67 #[.slice pa (digs num).length ka, .slice pb (digs den).length kb] W (Gives2 W (num / den) (num % den))) := Lib.hid fun W hW => div_d (Da.keep hW (Nat.le_refl _)) (Db.keep hW (Nat.le_refl _)) hd (by omega) (by omega)
 unfold flM
 obtain ⟨q, hq⟩ : ∃ x, num / den = x := ⟨_, rfl⟩
 obtain ⟨r, hr⟩ : ∃ x, num % den = x := ⟨_, rfl⟩
 unfold Gives2 at HDV
 rw [hq, hr] at HDV ⊢
 rw [hq] at lq
 have HPL : Hid (∀ (B C : Nat) (v1 v2 : Value) (W : World), DArg B W v1 q → DArg C W v2 1 → Calls Tryz.prog 71 #[v1, v2] W (Gives W (q + 1))) := Lib.hid fun B C v1 v2 W h1 h2 => plus_d h1 h2 (by omega) (by rw [digs_one]; decide)
 have hcase : (neg = false ∧ (if neg = true ∧ r ≠ 0 then q + 1 else q) = q) ∨ (neg = true ∧ ¬ 0 < (digs r).length ∧ (0 < (digs q).length) ∧ (if neg = true ∧ r ≠ 0 then q + 1 else q) = q ∧ decide (0 < q) = true) ∨ (neg = true ∧ ¬ 0 < (digs r).length ∧ (¬ 0 < (digs q).length) ∧ (if neg = true ∧ r ≠ 0 then q + 1 else q) = q ∧ decide (0 < q) = false) ∨ (neg = true ∧ 0 < (digs r).length ∧ 0 < (digs (q + 1)).length ∧ (if neg = true ∧ r ≠ 0 then q + 1 else q) = q + 1 ∧ decide (0 < q + 1) = true) := by
   cases neg
   · exact .inl ⟨rfl, if_neg (by rintro ⟨h, _⟩; cases h)⟩
   · by_cases h : r = 0
     · have hr0 : ¬ 0 < (digs r).length := digs_len_not (by omega)
       by_cases h2 : 0 < q
       · exact .inr (.inl ⟨rfl, hr0, digs_len_pos h2, if_neg (by rintro ⟨_, h'⟩; exact h' h), decide_eq_true h2⟩)
       · exact .inr (.inr (.inl ⟨rfl, hr0, digs_len_not h2, if_neg (by rintro ⟨_, h'⟩; exact h' h), decide_eq_false h2⟩))
     · exact .inr (.inr (.inr ⟨rfl, digs_len_pos (by omega), digs_len_pos (by omega), if_pos ⟨rfl, h⟩, decide_eq_true (by omega)⟩))
 obtain ⟨M, hM⟩ : ∃ x, (if neg = true ∧ r ≠ 0 then q + 1 else q) = x := ⟨_, rfl⟩
 rw [hM] at hcase ⊢
 have RA := (Row.new w (rc neg (.slice pa (digs num).length ka) (.slice pb (digs den).length kb)) 52).alloc (.cells (rc false (.slice none 0 0) (.slice none 0 0)) 52)
 have RZ := Row.new2 w (.cells (rc neg (.slice pa (digs num).length ka) (.slice pb (digs den).length kb)) 52) (rc false (.slice none 0 0) (.slice none 0 0)) 52
 have e1 : (digs 1).length = 1 := by rw [digs_one]; rfl
 have E1 := Lib.hid e1
 clear hM hq hr Da Db la lb lq e1 hd
 rcases hcase with ⟨rfl, hMM⟩ | ⟨rfl, hr, hl, hMM, hdd⟩ | ⟨rfl, hr, hl, hMM, hdd⟩ | ⟨rfl, hr, hl, hMM, hdd⟩
 · rw [hMM]
   clear hMM
   go_enter Tryz.func40, Tryz.ntmps40
   go_wp2_with fail
   generalize hw : (w.alloc (.cells (rc false (.slice pa (digs num).length ka) (.slice pb (digs den).length kb)) 52)).alloc (.cells (rc false (.slice none 0 0) (.slice none 0 0)) 52) = W at *
   have B0 : Hid (Below w.heap.size w W) := by show Below _ _ _; rw [← hw]; go_grown
   have hsz : w.heap.size + 1 + 1 ≤ W.heap.size := by rw [← hw]; simp
   clear hw
   obtain ⟨x0, x1, x2⟩ := RA.ex
   go_wp2_with (go_at_call 67; (with_reducible refine (HDV.out _ B0.out).mono ?_); rintro e w1 ⟨v1, r1, rfl, D1, E1', hb1⟩; have RA1 := RA.keep hb1; have RZ1 := RZ.keep hb1; have BW1 := Lib.hid (bl_then B0.out hb1); have hs1 := Nat.le_trans hsz hb1.size; have D1 := Lib.hid (D1.base hsz); obtain ⟨p1, k1, rfl⟩ := D1.out.slice; obtain ⟨q1, l1, rfl⟩ := E1'.slice; obtain ⟨x0, x1, x2⟩ := RA1.ex; obtain ⟨z0, z1, z2⟩ := RZ1.ex; have f0 := RZ1.free 0; have f1 := RZ1.free 1; have f2 := RZ1.free 2; clear hb1 E1'; have A9 := Row.new w1 #[.int .i64 1] 3; have DO : Hid (DArg (w.heap.size + 1 + 1) (w1.alloc (.cells #[.int .i64 1] 3)) (.slice (some ⟨w1.heap.size, 0, none⟩) 1 1) 1) := Lib.hid (darg_one hs1 (by simp) A9.one); have Q9 : Hid (DArg (w.heap.size + 1 + 1) (w1.alloc (.cells #[.int .i64 1] 3)) _ q) := Lib.hid (D1.out.keep ((Below.refl _ w1).alloc (Nat.le_refl _) _) (Nat.le_refl _)); have BW9 : Hid (Below w.heap.size w (w1.alloc (.cells #[.int .i64 1] 3))) := Lib.hid (BW1.out.alloc BW1.out.size _); have RZ9 := RZ1.alloc (.cells #[.int .i64 1] 3); obtain ⟨z0, z1, z2⟩ := RZ9.ex; have g0 := RZ9.free 0; have g1 := RZ9.free 1; have g2 := RZ9.free 2; have RA9 := RA1.alloc (.cells #[.int .i64 1] 3); obtain ⟨x0, x1, x2⟩ := RA9.ex)
   refine bodyPost_ret (v := reV false (.slice p1 (digs q).length k1) (.slice (some ⟨w1.heap.size, 0, none⟩) 1 1)) (by simp [results, Tryz.results40, go_sem, z0, z1, z2]) rfl ⟨_, rfl, ?_, ?_⟩
   · exact RArg.base (B := w.heap.size + 1 + 1) ⟨_, _, rfl, (((Q9.out.setCell _ (by simp)).setCell _ (by simp)).setCell _ (by simp)), (((DO.out.setCell _ (by simp)).setCell _ (by simp)).setCell _ (by simp))⟩ (by omega)
   · (repeat refine Below.setCell ?_ (by simp <;> omega) _)
     exact BW9.out
 · rw [hMM, hdd]
   clear hdd hMM
   go_enter Tryz.func40, Tryz.ntmps40
   go_wp2_with fail
   generalize hw : (w.alloc (.cells (rc true (.slice pa (digs num).length ka) (.slice pb (digs den).length kb)) 52)).alloc (.cells (rc false (.slice none 0 0) (.slice none 0 0)) 52) = W at *
   have B0 : Hid (Below w.heap.size w W) := by show Below _ _ _; rw [← hw]; go_grown
   have hsz : w.heap.size + 1 + 1 ≤ W.heap.size := by rw [← hw]; simp
   clear hw
   obtain ⟨x0, x1, x2⟩ := RA.ex
   go_wp2_with (go_at_call 67; (with_reducible refine (HDV.out _ B0.out).mono ?_); rintro e w1 ⟨v1, r1, rfl, D1, E1', hb1⟩; have RA1 := RA.keep hb1; have RZ1 := RZ.keep hb1; have BW1 := Lib.hid (bl_then B0.out hb1); have hs1 := Nat.le_trans hsz hb1.size; have D1 := Lib.hid (D1.base hsz); obtain ⟨p1, k1, rfl⟩ := D1.out.slice; obtain ⟨q1, l1, rfl⟩ := E1'.slice; obtain ⟨x0, x1, x2⟩ := RA1.ex; obtain ⟨z0, z1, z2⟩ := RZ1.ex; have f0 := RZ1.free 0; have f1 := RZ1.free 1; have f2 := RZ1.free 2; clear hb1 E1'; have A9 := Row.new w1 #[.int .i64 1] 3; have DO : Hid (DArg (w.heap.size + 1 + 1) (w1.alloc (.cells #[.int .i64 1] 3)) (.slice (some ⟨w1.heap.size, 0, none⟩) 1 1) 1) := Lib.hid (darg_one hs1 (by simp) A9.one); have Q9 : Hid (DArg (w.heap.size + 1 + 1) (w1.alloc (.cells #[.int .i64 1] 3)) _ q) := Lib.hid (D1.out.keep ((Below.refl _ w1).alloc (Nat.le_refl _) _) (Nat.le_refl _)); have BW9 : Hid (Below w.heap.size w (w1.alloc (.cells #[.int .i64 1] 3))) := Lib.hid (BW1.out.alloc BW1.out.size _); have RZ9 := RZ1.alloc (.cells #[.int .i64 1] 3); obtain ⟨z0, z1, z2⟩ := RZ9.ex; have g0 := RZ9.free 0; have g1 := RZ9.free 1; have g2 := RZ9.free 2; have RA9 := RA1.alloc (.cells #[.int .i64 1] 3); obtain ⟨x0, x1, x2⟩ := RA9.ex)
   refine bodyPost_ret (v := reV true (.slice p1 (digs q).length k1) (.slice (some ⟨w1.heap.size, 0, none⟩) 1 1)) (by simp [results, Tryz.results40, go_sem, z0, z1, z2]) rfl ⟨_, rfl, ?_, ?_⟩
   · exact RArg.base (B := w.heap.size + 1 + 1) ⟨_, _, rfl, (((Q9.out.setCell _ (by simp)).setCell _ (by simp)).setCell _ (by simp)), (((DO.out.setCell _ (by simp)).setCell _ (by simp)).setCell _ (by simp))⟩ (by omega)
   · (repeat refine Below.setCell ?_ (by simp <;> omega) _)
     exact BW9.out
 · rw [hMM, hdd]
   clear hdd hMM
   go_enter Tryz.func40, Tryz.ntmps40
   go_wp2_with fail
   generalize hw : (w.alloc (.cells (rc true (.slice pa (digs num).length ka) (.slice pb (digs den).length kb)) 52)).alloc (.cells (rc false (.slice none 0 0) (.slice none 0 0)) 52) = W at *
   have B0 : Hid (Below w.heap.size w W) := by show Below _ _ _; rw [← hw]; go_grown
   have hsz : w.heap.size + 1 + 1 ≤ W.heap.size := by rw [← hw]; simp
   clear hw
   obtain ⟨x0, x1, x2⟩ := RA.ex
   go_wp2_with (go_at_call 67; (with_reducible refine (HDV.out _ B0.out).mono ?_); rintro e w1 ⟨v1, r1, rfl, D1, E1', hb1⟩; have RA1 := RA.keep hb1; have RZ1 := RZ.keep hb1; have BW1 := Lib.hid (bl_then B0.out hb1); have hs1 := Nat.le_trans hsz hb1.size; have D1 := Lib.hid (D1.base hsz); obtain ⟨p1, k1, rfl⟩ := D1.out.slice; obtain ⟨q1, l1, rfl⟩ := E1'.slice; obtain ⟨x0, x1, x2⟩ := RA1.ex; obtain ⟨z0, z1, z2⟩ := RZ1.ex; have f0 := RZ1.free 0; have f1 := RZ1.free 1; have f2 := RZ1.free 2; clear hb1 E1'; have A9 := Row.new w1 #[.int .i64 1] 3; have DO : Hid (DArg (w.heap.size + 1 + 1) (w1.alloc (.cells #[.int .i64 1] 3)) (.slice (some ⟨w1.heap.size, 0, none⟩) 1 1) 1) := Lib.hid (darg_one hs1 (by simp) A9.one); have Q9 : Hid (DArg (w.heap.size + 1 + 1) (w1.alloc (.cells #[.int .i64 1] 3)) _ q) := Lib.hid (D1.out.keep ((Below.refl _ w1).alloc (Nat.le_refl _) _) (Nat.le_refl _)); have BW9 : Hid (Below w.heap.size w (w1.alloc (.cells #[.int .i64 1] 3))) := Lib.hid (BW1.out.alloc BW1.out.size _); have RZ9 := RZ1.alloc (.cells #[.int .i64 1] 3); obtain ⟨z0, z1, z2⟩ := RZ9.ex; have g0 := RZ9.free 0; have g1 := RZ9.free 1; have g2 := RZ9.free 2; have RA9 := RA1.alloc (.cells #[.int .i64 1] 3); obtain ⟨x0, x1, x2⟩ := RA9.ex)
   refine bodyPost_ret (v := reV false (.slice p1 (digs q).length k1) (.slice (some ⟨w1.heap.size, 0, none⟩) 1 1)) (by simp [results, Tryz.results40, go_sem, z0, z1, z2]) rfl ⟨_, rfl, ?_, ?_⟩
   · exact RArg.base (B := w.heap.size + 1 + 1) ⟨_, _, rfl, (((Q9.out.setCell _ (by simp)).setCell _ (by simp)).setCell _ (by simp)), (((DO.out.setCell _ (by simp)).setCell _ (by simp)).setCell _ (by simp))⟩ (by omega)
   · (repeat refine Below.setCell ?_ (by simp <;> omega) _)
     exact BW9.out
 · rw [hMM, hdd]
   clear hdd hMM
   obtain ⟨Q, hQ⟩ : ∃ x, q + 1 = x := ⟨_, rfl⟩
   rw [hQ] at HPL hl ⊢
   clear hQ
   go_enter Tryz.func40, Tryz.ntmps40
   go_wp2_with fail
   generalize hw : (w.alloc (.cells (rc true (.slice pa (digs num).length ka) (.slice pb (digs den).length kb)) 52)).alloc (.cells (rc false (.slice none 0 0) (.slice none 0 0)) 52) = W at *
   have B0 : Hid (Below w.heap.size w W) := by show Below _ _ _; rw [← hw]; go_grown
   have hsz : w.heap.size + 1 + 1 ≤ W.heap.size := by rw [← hw]; simp
   clear hw
   obtain ⟨x0, x1, x2⟩ := RA.ex
   go_wp2_with (first
     | (go_at_call 67; (with_reducible refine (HDV.out _ B0.out).mono ?_); rintro e w1 ⟨v1, r1, rfl, D1, E1', hb1⟩; have RA1 := RA.keep hb1; have RZ1 := RZ.keep hb1; have BW1 := Lib.hid (bl_then B0.out hb1); have hs1 := Nat.le_trans hsz hb1.size; have D1 := Lib.hid (D1.base hsz); obtain ⟨p1, k1, rfl⟩ := D1.out.slice; obtain ⟨q1, l1, rfl⟩ := E1'.slice; obtain ⟨x0, x1, x2⟩ := RA1.ex; obtain ⟨z0, z1, z2⟩ := RZ1.ex; have f0 := RZ1.free 0; have f1 := RZ1.free 1; have f2 := RZ1.free 2; clear hb1 E1'; have A9 := Row.new w1 #[.int .i64 1] 3; have DO : Hid (DArg (w.heap.size + 1 + 1) (w1.alloc (.cells #[.int .i64 1] 3)) (.slice (some ⟨w1.heap.size, 0, none⟩) 1 1) 1) := Lib.hid (darg_one hs1 (by simp) A9.one); have Q9 : Hid (DArg (w.heap.size + 1 + 1) (w1.alloc (.cells #[.int .i64 1] 3)) _ q) := Lib.hid (D1.out.keep ((Below.refl _ w1).alloc (Nat.le_refl _) _) (Nat.le_refl _)); have BW9 : Hid (Below w.heap.size w (w1.alloc (.cells #[.int .i64 1] 3))) := Lib.hid (BW1.out.alloc BW1.out.size _); have RZ9 := RZ1.alloc (.cells #[.int .i64 1] 3); have RA9 := RA1.alloc (.cells #[.int .i64 1] 3))
     | (go_at_call 71; (refine (HPL.out _ _ _ _ _ Q9.out DO.out).mono ?_); rintro e w2 ⟨v2, rfl, D2, hb2⟩; have RA2 := RA9.keep hb2; have RZ2 := RZ9.keep hb2; have BW2 := Lib.hid (bl_then BW9.out hb2); have hs2 : w.heap.size + 1 + 1 ≤ w2.heap.size := Nat.le_trans (Nat.le_trans hs1 (by simp)) hb2.size; have D2 := Lib.hid (D2.base (show w.heap.size + 1 + 1 ≤ _ by simp; omega)); obtain ⟨p2, k2, rfl⟩ := D2.out.slice; obtain ⟨x0, x1, x2⟩ := RA2.ex; obtain ⟨z0, z1, z2⟩ := RZ2.ex; have f0 := RZ2.free 0; have f1 := RZ2.free 1; have f2 := RZ2.free 2; clear hb2; have A8 := Row.new w2 #[.int .i64 1] 3; have DO2 : Hid (DArg (w.heap.size + 1 + 1) (w2.alloc (.cells #[.int .i64 1] 3)) (.slice (some ⟨w2.heap.size, 0, none⟩) 1 1) 1) := Lib.hid (darg_one hs2 (by simp) A8.one); have Q8 : Hid (DArg (w.heap.size + 1 + 1) (w2.alloc (.cells #[.int .i64 1] 3)) _ Q) := Lib.hid (D2.out.keep ((Below.refl _ w2).alloc (Nat.le_refl _) _) (Nat.le_refl _)); have BW8 : Hid (Below w.heap.size w (w2.alloc (.cells #[.int .i64 1] 3))) := Lib.hid (BW2.out.alloc BW2.out.size _); have RZ8 := RZ2.alloc (.cells #[.int .i64 1] 3); obtain ⟨z0, z1, z2⟩ := RZ8.ex; have g0 := RZ8.free 0; have g1 := RZ8.free 1; have g2 := RZ8.free 2))
   refine bodyPost_ret (v := reV true (.slice p2 (digs Q).length k2) (.slice (some ⟨w2.heap.size, 0, none⟩) 1 1)) (by simp [results, Tryz.results40, go_sem, z0, z1, z2]) rfl ⟨_, rfl, ?_, ?_⟩
   · exact RArg.base (B := w.heap.size + 1 + 1) ⟨_, _, rfl, (((Q8.out.setCell _ (by simp)).setCell _ (by simp)).setCell _ (by simp)), (((DO2.out.setCell _ (by simp)).setCell _ (by simp)).setCell _ (by simp))⟩ (by omega)
   · (repeat refine Below.setCell ?_ (by simp <;> omega) _)
     exact BW8.out
end Go.Proofs.YtpdoddhieblooaaGreatDoor
namespace Go.Proofs.YtpdoddhieblooaaGreatDoor
open Go.RowKit

open Classical in
noncomputable def Va.goodB (t : Va) : Bool := decide (GoodP t.k t.n t.q t.s)
def Va.numB (t : Va) : Bool := decide (1 ≤ t.k) && decide (t.k ≤ 3)
noncomputable def numE (ts : List Va) : Int := if ts.all Va.goodB then (if ts.all Va.numB then 0 else 10) else 1
theorem all_take {ts : List Va} {f : Va → Bool} {k : Nat} (hlt : k < ts.length) (h : (ts.take k).all f = true) (hk : f ts[k] = true) : (ts.take (k + 1)).all f = true := by
 rw [List.take_succ_eq_append_getElem hlt, List.all_append, h]
 simp [hk]
theorem all_not {ts : List Va} {f : Va → Bool} {k : Nat} (hlt : k < ts.length) (hk : f ts[k] = false) : ts.all f = false := by
 rw [List.all_eq_false]
 exact ⟨_, List.getElem_mem hlt, by rw [hk]; decide⟩
theorem all_full {ts : List Va} {f : Va → Bool} {k : Nat} (hlt : ¬ k < ts.length) (h : (ts.take k).all f = true) : ts.all f = true := by
 rwa [List.take_of_length_le (by omega)] at h
set_option maxRecDepth 100000 in
set_option maxHeartbeats 4000000 in
theorem numbers_d (ts : List Va) (b o cap : Nat) (w : World) (hA : VasAt w b o ts) (hlen : ts.length ≤ 4000000000) (hb : b < w.heap.size) (hs : ∀ t ∈ ts, t.s.size ≤ maxLen) :
   Calls Tryz.prog 25 #[.slice (some ⟨b, o, none⟩) ts.length cap] w fun e w' => e = .returned (.int .i64 (numE ts)) ∧ Below w.heap.size w w' := by
 have HA := Lib.hid hA
 have HR : Hid (∀ t ∈ ts, ∀ W : World, Calls Tryz.prog 50 #[t.v] W fun e w' => e = .returned (.bool t.goodB) ∧ Below W.heap.size W w') := Lib.hid fun t ht W => by
   classical
   refine (gRef t.k t.n t.q t.s W (hs t ht)).mono fun e w' h => ?_
   have := h.bool
   unfold Va.goodB
   exact ⟨by rw [this.1], this.2⟩
 have HN : Hid (∀ (t : Va) (W : World), Calls Tryz.prog 51 #[.int .i64 t.k] W fun e w' => e = .returned (.bool t.numB) ∧ W = w') := Lib.hid fun t W => numericB t.k _ W rfl
 clear hA hs
 go_enter Tryz.func25, Tryz.ntmps25
 go_wp2_with fail
 go_loopw [3] (fun i wr => ∃ k : Nat, k ≤ ts.length ∧ i = .int .i64 k ∧ Hid (Below w.heap.size w wr) ∧ Hid ((ts.take k).all Va.goodB = true)) (fun i _ => ts.length - (intOf i).toNat)
 case atStart => exact ⟨0, Nat.zero_le _, rfl, Lib.hid (Below.refl _ _), Lib.hid rfl⟩
 case round =>
   obtain ⟨k, hk, rfl, HB, HF⟩ := hrel
   by_cases hlt : k < ts.length
   · obtain ⟨kd, n, q, s, ht, c0, c1, c2, c3⟩ := (HA.out.below hb HB.out).at k hlt
     have HC : Hid (∀ W : World, Calls Tryz.prog 50 #[vaV kd n q s] W fun e w' => e = .returned (.bool (ts[k]).goodB) ∧ Below W.heap.size W w') := Lib.hid fun W => by
       have := HR.out _ (List.getElem_mem hlt) W
       rw [ht] at this ⊢
       exact this
     have HT := Lib.hid ht
     clear ht
     obtain ⟨r, hr⟩ : ∃ r, (ts[k]).goodB = r := ⟨_, rfl⟩
     have HRr := Lib.hid hr
     rw [hr] at HC
     clear hr
     cases r
     · go_wp2_with (go_at_call 50; refine (HC.out _).mono ?_; rintro e w2 ⟨rfl, hb2⟩; have HB2 := Lib.hid (bl_then HB.out hb2); clear hb2)
       go_ret
       exact ⟨by unfold numE; rw [all_not hlt HRr.out]; rfl, HB2.out⟩
     · go_wp2_with (go_at_call 50; refine (HC.out _).mono ?_; rintro e w2 ⟨rfl, hb2⟩; have HB2 := Lib.hid (bl_then HB.out hb2); clear hb2)
       go_roundw
       case rel => exact ⟨k + 1, by omega, by go_num, HB2, Lib.hid (all_take hlt HF.out HRr.out)⟩
       case measure => simp [intOf]; omega
   · have HG := Lib.hid (all_full hlt HF.out)
     clear HF
     go_wp2_with fail
     go_loopw [4] (fun i wr => ∃ k : Nat, k ≤ ts.length ∧ i = .int .i64 k ∧ Hid (Below w.heap.size w wr) ∧ Hid ((ts.take k).all Va.numB = true)) (fun i _ => ts.length - (intOf i).toNat)
     case atStart => exact ⟨0, Nat.zero_le _, rfl, HB, Lib.hid rfl⟩
     case round =>
       obtain ⟨k2, hk2, rfl, HB, HF⟩ := hrel
       by_cases hlt2 : k2 < ts.length
       · obtain ⟨kd, n, q, s, ht, c0, c1, c2, c3⟩ := (HA.out.below hb HB.out).at k2 hlt2
         have HC : Hid (∀ W : World, Calls Tryz.prog 51 #[.int .i64 kd] W fun e w' => e = .returned (.bool (ts[k2]).numB) ∧ W = w') := Lib.hid fun W => by
           have := HN.out (ts[k2]) W
           rw [ht] at this ⊢
           exact this
         have HT := Lib.hid ht
         clear ht
         obtain ⟨r, hr⟩ : ∃ r, (ts[k2]).numB = r := ⟨_, rfl⟩
         have HRr := Lib.hid hr
         rw [hr] at HC
         clear hr
         cases r
         · go_wp2_with (go_at_call 51; refine (HC.out _).mono ?_; rintro e w2 ⟨rfl, rfl⟩)
           go_ret
           exact ⟨by unfold numE; rw [HG.out, all_not hlt2 HRr.out]; rfl, HB.out⟩
         · go_wp2_with (go_at_call 51; refine (HC.out _).mono ?_; rintro e w2 ⟨rfl, rfl⟩)
           go_roundw
           case rel => exact ⟨k2 + 1, by omega, by go_num, HB, Lib.hid (all_take hlt2 HF.out HRr.out)⟩
           case measure => simp [intOf]; omega
       · have HG2 := Lib.hid (all_full hlt2 HF.out)
         clear HF
         go_wp2_with fail
         go_ret
         exact ⟨by unfold numE; rw [HG.out, HG2.out]; rfl, HB.out⟩
noncomputable def askE (ts : List Va) (vt : Bool) (k : Int) : Int := if numE ts = 1 then 1 else if vt = false then 13 else if numE ts ≠ 0 then numE ts else if k ≤ 3 then 0 else 10
set_option maxRecDepth 100000 in
set_option maxHeartbeats 4000000 in
theorem asked_d (ts : List Va) (b o cap : Nat) (k p q n : Int) (vy : Bool) (pic : ByteArray) (w : World) (hA : VasAt w b o ts) (hlen : ts.length ≤ 4000000000) (hb : b < w.heap.size) (hs : ∀ t ∈ ts, t.s.size ≤ maxLen) (hp : pic.size ≤ maxLen) :
   Calls Tryz.prog 34 #[.slice (some ⟨b, o, none⟩) ts.length cap, tyV k p q n vy pic] w fun e w' => e = .returned (.int .i64 (askE ts (validS k p q n vy pic) k)) ∧ Below w.heap.size w w' := by
 have HNB : Hid (∀ W, Below w.heap.size w W → Calls Tryz.prog 25 #[.slice (some ⟨b, o, none⟩) ts.length cap] W fun e w' => e = .returned (.int .i64 (numE ts)) ∧ Below W.heap.size W w') := Lib.hid fun W hW => numbers_d ts b o cap W (hA.below hb hW) hlen (Nat.lt_of_lt_of_le hb hW.size) hs
 have HVT : Hid (∀ W, Calls Tryz.prog 65 #[tyV k p q n vy pic] W fun e w' => e = .returned (.bool (validS k p q n vy pic)) ∧ Below W.heap.size W w') := Lib.hid fun W => refValid_any k p q n vy pic W hp
 have hne : numE ts = 0 ∨ numE ts = 1 ∨ numE ts = 10 := by
   unfold numE
   split
   · split
     · exact .inl rfl
     · exact .inr (.inr rfl)
   · exact .inr (.inl rfl)
 have hk1 : validS k p q n vy pic = true → 1 ≤ k := by
   intro h
   by_cases hk : 1 ≤ k
   · exact hk
   · exfalso
     unfold validS at h
     rw [if_neg (by omega), if_neg (by omega), if_neg (by omega), if_neg (by omega), if_neg (by omega), if_neg (by omega)] at h
     cases h
 obtain ⟨vb, hvb⟩ : ∃ vb, validS k p q n vy pic = vb := ⟨_, rfl⟩
 rw [hvb] at HVT hk1 ⊢
 obtain ⟨ne, hnb⟩ : ∃ ne, numE ts = ne := ⟨_, rfl⟩
 unfold askE
 rw [hnb] at HNB hne ⊢
 have HKN : Hid (∀ W : World, Calls Tryz.prog 51 #[.int .i64 k] W fun e w' => e = .returned (.bool (decide (1 ≤ k) && decide (k ≤ 3))) ∧ W = w') := Lib.hid fun W => numericB k _ W rfl
 have RT := Row.new w #[.int .i64 k, .int .i64 p, .int .i64 q, .int .i64 n, .bool vy, .string pic] 25
 obtain ⟨E3, hE3⟩ : ∃ E3 : Int, (if k ≤ 3 then (0 : Int) else 10) = E3 := ⟨_, rfl⟩
 have hcase : ne = 1 ∨ (ne = 0 ∧ vb = false) ∨ (ne = 10 ∧ vb = false) ∨ (ne = 10 ∧ vb = true) ∨ (ne = 0 ∧ vb = true ∧ (decide (1 ≤ k) && decide (k ≤ 3)) = true ∧ E3 = 0) ∨ (ne = 0 ∧ vb = true ∧ (decide (1 ≤ k) && decide (k ≤ 3)) = false ∧ E3 = 10) := by
   rcases hne with h | h | h
   · cases vb
     · exact .inr (.inl ⟨h, rfl⟩)
     · have := hk1 rfl
       by_cases h3 : k ≤ 3
       · exact .inr (.inr (.inr (.inr (.inl ⟨h, rfl, by rw [decide_eq_true this, decide_eq_true h3]; rfl, by rw [← hE3, if_pos h3]⟩))))
       · exact .inr (.inr (.inr (.inr (.inr ⟨h, rfl, by rw [decide_eq_false h3, Bool.and_false], by rw [← hE3, if_neg h3]⟩))))
   · exact .inl h
   · cases vb
     · exact .inr (.inr (.inl ⟨h, rfl⟩))
     · exact .inr (.inr (.inr (.inl ⟨h, rfl⟩)))
 obtain ⟨kb, hkb⟩ : ∃ kb, (decide (1 ≤ k) && decide (k ≤ 3)) = kb := ⟨_, rfl⟩
 rw [hkb] at HKN hcase
 rw [hE3]
 clear hA hs hvb hnb hne hk1 hkb hE3
 rcases hcase with rfl | ⟨rfl, rfl⟩ | ⟨rfl, rfl⟩ | ⟨rfl, rfl⟩ | ⟨rfl, rfl, rfl, rfl⟩ | ⟨rfl, rfl, rfl, rfl⟩
 all_goals
   go_enter Tryz.func34, Tryz.ntmps34
   go_wp2_with fail
   generalize hw : w.alloc (.cells #[.int .i64 k, .int .i64 p, .int .i64 q, .int .i64 n, .bool vy, .string pic] 25) = W at *
   have B0 : Hid (Below w.heap.size w W) := by show Below _ _ _; rw [← hw]; go_grown
   clear hw
   go_wp2_with (first
     | (go_at_call 25; (refine (HNB.out _ B0.out).mono ?_); rintro e w2 ⟨rfl, hb2⟩; have RT2 := RT.keep hb2; have BW2 := Lib.hid (bl_then B0.out hb2); have BWX := BW2; obtain ⟨t0, t1, t2, t3, t4, t5⟩ := RT2.six; clear hb2)
     | (go_at_call 65; (refine (HVT.out _).mono ?_); rintro e w3 ⟨rfl, hb3⟩; have RT3 := RT2.keep hb3; have BW3 := Lib.hid (bl_then BW2.out hb3); have BWX := BW3; obtain ⟨t0, t1, t2, t3, t4, t5⟩ := RT3.six; clear hb3)
     | (go_at_call 51; (refine (HKN.out _).mono ?_); rintro e w4 ⟨rfl, rfl⟩))
   go_ret
   exact ⟨rfl, BWX.out⟩
end Go.Proofs.YtpdoddhieblooaaGreatDoor
