/- What RuleRoom says of plain numbers: sums and products of numbers of two fixed types stay below the bound of the result's type: no program in this text. ironbarkref01.Both: a sum of two exact numbers: what it is. ironbarkref01: Base, signed, and what FitTo of a fixed type makes of a number. ironbarkref01.Int, signed: of digits that begin within a block. ironbarkref01.FitTo, of a fixed type. ironbarkref01.FitTo, of a fixed type. ironbarkref01.FitTo, of a fixed type, where the number is too great. ironbarkref01.FitTo, of a fixed type, where the number is too great. -/
import Derived.Test.YtpdoddhieblooaaGreatDoorKExact
import Derived.Test.YtpdoddhieblooaaGreatDoorKFtGives
import Derived.Below
import Derived.BigGuardPart
import Derived.Deep.RegionHeld3
import Derived.Test.YtpdoddhieblooaaGreatDoorKDigArg
namespace Go.Proofs.YtpdoddhieblooaaGreatDoor

end Go.Proofs.YtpdoddhieblooaaGreatDoor
namespace Go.Proofs.YtpdoddhieblooaaGreatDoor
open Go.RowKit

theorem undrew {W w1 : World} (h : Below W.drew.heap.size W.drew w1) : Below W.heap.size W w1 := ((Below.refl _ W).drew).trans h
def bothNeg (na nb : Bool) (A C : Nat) : Bool := if na = nb then na && decide (0 < A + C) else if C ≤ A then na && decide (0 < A - C) else nb
def bothNum (na nb : Bool) (A C : Nat) : Nat := if na = nb then A + C else if C ≤ A then A - C else C - A
end Go.Proofs.YtpdoddhieblooaaGreatDoor
namespace Go.Proofs.YtpdoddhieblooaaGreatDoor
open Go.RowKit

theorem tcells {w2 : World} {b : Nat} {c0 c1 c2 c3 c4 c5 : Value} (h2 : w2.heap[b]? = some (.cells #[c0, c1, c2, c3, c4, c5] 25)) :
   w2.cell? ⟨b, 0, none⟩ = some c0 ∧ w2.cell? ⟨b, 1, none⟩ = some c1 ∧ w2.cell? ⟨b, 2, none⟩ = some c2 ∧ w2.cell? ⟨b, 3, none⟩ = some c3 ∧ w2.cell? ⟨b, 4, none⟩ = some c4 ∧ w2.cell? ⟨b, 5, none⟩ = some c5 ∧ ∀ j, w2.frozen? ⟨b, j, none⟩ = false :=
 ⟨cell_of_row w2 b 0 _ _ _ h2, cell_of_row w2 b 1 _ _ _ h2, cell_of_row w2 b 2 _ _ _ h2, cell_of_row w2 b 3 _ _ _ h2, cell_of_row w2 b 4 _ _ _ h2, cell_of_row w2 b 5 _ _ _ h2, fun j => by simp [World.frozen?, h2]⟩
theorem vcells' {w2 : World} {b : Nat} {c0 c1 c2 c3 : Value} (h2 : w2.heap[b]? = some (.cells #[c0, c1, c2, c3] 23)) :
   w2.cell? ⟨b, 0, none⟩ = some c0 ∧ w2.cell? ⟨b, 1, none⟩ = some c1 ∧ w2.cell? ⟨b, 2, none⟩ = some c2 ∧ w2.cell? ⟨b, 3, none⟩ = some c3 ∧ ∀ j, w2.frozen? ⟨b, j, none⟩ = false :=
 ⟨cell_of_row w2 b 0 _ _ _ h2, cell_of_row w2 b 1 _ _ _ h2, cell_of_row w2 b 2 _ _ _ h2, cell_of_row w2 b 3 _ _ _ h2, fun j => by simp [World.frozen?, h2]⟩
theorem base_1 (p q n : Int) (vy : Bool) (pic : ByteArray) (w : World) :
   Calls Tryz.prog 68 #[tyV 1 p q n vy pic] w fun e w' => e = .returned (.int .i64 2) ∧ Below w.heap.size w w' := by
 go_enter Tryz.func68, Tryz.ntmps68
 go_wp2
 go_ret
 exact ⟨rfl, by go_grown⟩
theorem base_2 (p q n : Int) (vy : Bool) (pic : ByteArray) (w : World) :
   Calls Tryz.prog 68 #[tyV 2 p q n vy pic] w fun e w' => e = .returned (.int .i64 10) ∧ Below w.heap.size w w' := by
 go_enter Tryz.func68, Tryz.ntmps68
 go_wp2
 go_ret
 exact ⟨rfl, by go_grown⟩
def sgn (neg : Bool) (n : Nat) : Int := if neg then -(n : Int) else n
set_option maxRecDepth 100000 in
theorem rsigned_d {B n : Nat} {v : Value} {w : World} (neg : Bool) (h : DArg B w v n) (h18 : (digs n).length ≤ 18) :
   Calls Tryz.prog 69 #[v, .bool neg] w fun e w' => e = .returned (.int .i64 (sgn neg n)) ∧ w = w' := by
 have hlt : n < 1000000000000000000 := by
   have h1 := digs_lt n
   have h2 : 10 ^ (digs n).length ≤ 10 ^ 18 := Nat.pow_le_pow_right (by decide) h18
   omega
 obtain ⟨p, k, rfl⟩ := h.slice
 have I := Lib.hid (int_d h h18)
 have H18 := Lib.hid h18
 clear h h18
 cases neg
 · go_enter Tryz.func69, Tryz.ntmps69
   go_wp2_with (go_at_call 117; refine I.out.mono ?_; rintro e w' ⟨rfl, rfl⟩)
   go_ret
   exact ⟨rfl, rfl⟩
 · go_enter Tryz.func69, Tryz.ntmps69
   go_wp2_with (go_at_call 117; refine I.out.mono ?_; rintro e w' ⟨rfl, rfl⟩)
   go_ret
   exact ⟨rfl, rfl⟩
theorem boxed3 {w : World} {A B C : Obj} : (((w.alloc A).alloc B).alloc C).heap[w.heap.size]? = some A ∧ (((w.alloc A).alloc B).alloc C).heap[w.heap.size + 1]? = some B ∧ (((w.alloc A).alloc B).alloc C).heap[w.heap.size + 1 + 1]? = some C ∧
   w.heap.size + 1 + 1 < (((w.alloc A).alloc B).alloc C).heap.size ∧ Below w.heap.size w (((w.alloc A).alloc B).alloc C) := three (Below.refl _ _)
end Go.Proofs.YtpdoddhieblooaaGreatDoor
namespace Go.Proofs.YtpdoddhieblooaaGreatDoor
open Go.RowKit

def DOff (w : World) (v : Value) (g t n : Nat) : Prop := ∃ cap, v = .slice (some ⟨g, t, none⟩) (digs n).length cap ∧ (digs n).length ≤ cap ∧ g < w.heap.size ∧ ∀ j (h : j < (digs n).length), w.cell? ⟨g, t + j, none⟩ = some (.int .i64 ((digs n)[j] : Int))
set_option maxHeartbeats 1600000 in
set_option maxRecDepth 100000 in
theorem int_off (b o cap : Nat) (l : List Nat) (w : World) (hd : Digs l) (_hcap : l.length ≤ cap)
   (hc : ∀ j (h : j < l.length), w.cell? ⟨b, o + j, none⟩ = some (.int .i64 (l[j] : Int))) (h18 : l.length ≤ 18) :
   Calls Tryz.prog 117 #[.slice (some ⟨b, o, none⟩) l.length cap] w fun e w' => e = .returned (.int .i64 (val l : Int)) ∧ w = w' := by
 go_enter Tryz.func117, Tryz.ntmps117
 go_wp2
 go_loopw [3, 4] (fun n i wr => ∃ k m : Nat, i = .int .i64 ((k : Int) - 1) ∧ n = .int .i64 (m : Int) ∧ k ≤ l.length ∧ m = val (l.drop k) ∧ w = wr)
   (fun _ i _ => (intOf i + 1).toNat)
 case atStart => exact ⟨l.length, 0, rfl, rfl, Nat.le_refl _, by rw [List.drop_length]; rfl, rfl⟩
 case round =>
   obtain ⟨k, m, rfl, rfl, hk, hm, rfl⟩ := hrel
   by_cases h0 : k = 0
   · subst h0
     have hv : val l = m := hm.symm
     clear hc hm
     go_wp2
     go_ret
     first
       | exact ⟨by rw [hv]; rfl, rfl⟩
       | exact ⟨rfl, rfl⟩
   · have hcc := hc (k - 1) (by omega)
     have h9 := hd.at (k - 1) (by omega)
     have hcast : ((k : Int) - 1) = ((k - 1 : Nat) : Int) := by omega
     have hlt := val_drop_lt hd h18 k (by omega)
     rw [← hm] at hlt
     have hs := val_drop l (k - 1)
     rw [show k - 1 + 1 = k by omega, ← hm, List.getElem?_eq_getElem (by omega)] at hs
     have HS := Lib.hid hs
     clear hs hm hc
     go_wp2
     case roundEnd =>
       refine ⟨⟨k - 1, 10 * m + l[k - 1]'(by omega), rfl, ?_, by omega, ?_, trivial⟩, ?_⟩
       · simp
       · rw [HS.out]
         show _ = (some l[k - 1]).getD 0 + 10 * m
         rw [Option.getD_some]; omega
       · simp [intOf]; omega
theorem signed_off {g t n : Nat} {v : Value} {w : World} (neg : Bool) (h : DOff w v g t n) (h18 : (digs n).length ≤ 18) :
   Calls Tryz.prog 69 #[v, .bool neg] w fun e w' => e = .returned (.int .i64 (sgn neg n)) ∧ w = w' := by
 obtain ⟨cap, rfl, h1, h2, h3⟩ := h
 have hlt : n < 1000000000000000000 := by
   have h1 := digs_lt n
   have h2 : 10 ^ (digs n).length ≤ 10 ^ 18 := Nat.pow_le_pow_right (by decide) h18
   omega
 have hi := int_off g t cap _ w (digs_digs n) h1 h3 h18
 rw [val_digs] at hi
 have I := Lib.hid hi
 clear hi h1 h2 h3
 cases neg
 all_goals
   go_enter Tryz.func69, Tryz.ntmps69
   go_wp2_with (go_at_call 117; refine I.out.mono ?_; rintro e w' ⟨rfl, rfl⟩)
   go_ret
   exact ⟨rfl, rfl⟩
set_option maxRecDepth 100000 in
set_option maxHeartbeats 8000000 in
theorem fit_2_in {B P Q : Nat} {big : Int} {w : World} {u : Value} {neg : Bool} {num den : Nat} (hx : RArg B w u neg num den) (hd : 0 < den) (ln : (digs num).length ≤ 1000) (ld : (digs den).length ≤ 1000)
   (hP : P ≤ 15) (hQ : Q ≤ 62) (q : Nat) (hq : num * 10 ^ Q / den = q) (hfit : q < 10 ^ P) :
   Calls Tryz.prog 36 #[u, tyV 2 (P : Int) (Q : Int) 0 false ⟨#[]⟩, .int .i64 big] w fun e w' => e = .returned (.tuple #[valV 2 (sgn neg (q % 10 ^ P)) (Q : Int) ⟨#[]⟩, .int .i64 0]) ∧ Below w.heap.size w w' := by
 obtain ⟨vn, vd, rfl, Dn, Dd⟩ := hx
 obtain ⟨pn, kn, rfl⟩ := Dn.slice
 obtain ⟨pd, kd, rfl⟩ := Dd.slice
 have hlq : (digs q).length ≤ 10000 := by
   rw [← hq]
   have L1 := digs_len_mul num (10 ^ Q)
   have L2 := Nat.le_of_eq (digs_len_pow10 Q)
   exact Nat.le_trans (digs_len_mono (Nat.div_le_self _ _)) (by omega)
 have HQ := Lib.hid hq
 clear hq
 have q1 := s2
 have q2 := s2'
 have q3 := l2
 have q4 := l3
 go_enter Tryz.func36, Tryz.ntmps36
 go_wp2
 obtain ⟨HX, HT, HV, hz0, hw0⟩ := boxed3 (w := w) (A := .cells #[.bool neg, .slice pn (digs num).length kn, .slice pd (digs den).length kd] 52) (B := .cells #[.int .i64 2, .int .i64 (P : Int), .int .i64 (Q : Int), .int .i64 0, .bool false, .string ⟨#[]⟩] 25) (C := .cells #[.int .i64 0, .int .i64 0, .int .i64 0, .string ⟨#[]⟩] 23)
 generalize (((w.alloc (.cells #[.bool neg, .slice pn (digs num).length kn, .slice pd (digs den).length kd] 52)).alloc (.cells #[.int .i64 2, .int .i64 (P : Int), .int .i64 (Q : Int), .int .i64 0, .bool false, .string ⟨#[]⟩] 25)).alloc (.cells #[.int .i64 0, .int .i64 0, .int .i64 0, .string ⟨#[]⟩] 23)) = W0 at *
 have DN := Lib.hid (Dn.keep hw0 (Nat.le_refl _))
 have DD := Lib.hid (Dd.keep hw0 (Nat.le_refl _))
 obtain ⟨x0, x1, x2, xf⟩ := hcells HX
 obtain ⟨t0, t1, t2, t3, t4, t5, tf⟩ := tcells HT
 have KX := Lib.hid HX
 have KT := Lib.hid HT
 have KV := Lib.hid HV
 have FIT := Lib.hid hfit
 have hdd := Lib.hid hd
 have L1 := digs_len_mul num (10 ^ Q)
 have L2 := Nat.le_of_eq (digs_len_pow10 Q)
 clear HX HT HV Dn Dd hfit hd
 go_region_held3 (fun w' => (w'.cell? ⟨w.heap.size, 1, none⟩ = some (.slice pn (digs num).length kn) ∧ w'.cell? ⟨w.heap.size, 2, none⟩ = some (.slice pd (digs den).length kd)) ∧
     (w'.cell? ⟨w.heap.size + 1, 0, none⟩ = some (.int .i64 2) ∧ w'.cell? ⟨w.heap.size + 1, 1, none⟩ = some (.int .i64 (P : Int)) ∧ w'.cell? ⟨w.heap.size + 1, 2, none⟩ = some (.int .i64 (Q : Int)) ∧ w'.cell? ⟨w.heap.size + 1, 3, none⟩ = some (.int .i64 0) ∧ w'.cell? ⟨w.heap.size + 1, 4, none⟩ = some (.bool false) ∧ w'.cell? ⟨w.heap.size + 1, 5, none⟩ = some (.string ⟨#[]⟩)))
   (first | go_keep | (go_split_ands; refine ⟨⟨?_, ?_⟩, ?_, ?_, ?_, ?_, ?_, ?_⟩ <;> first | assumption | (rw [b4.cell (by simp <;> omega)]; assumption) | (rw [b3.cell (by simp <;> omega)]; assumption) | (rw [b2.cell (by simp <;> omega)]; assumption) | (rw [b1.cell (by simp <;> omega)]; assumption)))
   (first
     | (go_at_call 68; refine (base_2 _ _ _ _ _ _).mono ?_; rintro e w1 ⟨rfl, hb1⟩; have b1 := undrew hb1; clear hb1)
     | (go_at_call 53; refine (pow10_d Q _ (by omega)).mono ?_; rintro e w2 ⟨v2, rfl, D2, hb2⟩; obtain ⟨p2, k2, rfl⟩ := D2.slice; have b2 := b1.trans (hb2.mono b1.size); have D2 := Lib.hid D2; clear hb2; have M2 := Lib.hid (mul_d (DN.out.keep b2 (Nat.le_refl _)) D2.out (by omega) (by omega)))
     | (go_at_call 54; refine M2.out.mono ?_; rintro e w3 ⟨v3, rfl, D3, hb3⟩; obtain ⟨p3, k3, rfl⟩ := D3.slice; have b3 := b2.trans (hb3.mono b2.size); have D3 := Lib.hid D3; clear hb3; have v3 := div_d D3.out (DD.out.keep b3 (Nat.le_refl _)) hdd.out (by omega) (by omega); rw [HQ.out] at v3; have V3 := Lib.hid v3; clear v3)
     | (go_at_call 67; refine V3.out.mono ?_; rintro e w4 ⟨v4, u4, rfl, D4, E4, hb4⟩; obtain ⟨p4, k4, rfl⟩ := D4.slice; obtain ⟨r4, l4, rfl⟩ := E4.slice; have b4 := b3.trans (hb4.mono b3.size); have D4 := Lib.hid D4; clear hb4 E4))
 have L3 := Nat.le_of_eq (digs_len_pow10 P)
 have hlow : (digs (q % 10 ^ P)).length ≤ 18 := by
   refine digs_length _ _ (Nat.lt_of_lt_of_le (Nat.mod_lt _ (Nat.pow_pos (by decide))) (Nat.le_trans (Nat.pow_le_pow_right (by decide) hP) (by decide)))
 have hw4 := hw0.trans (b4.mono hw0.size)
 have hz4 : w.heap.size + 1 + 1 < w4.heap.size := by have := b4.size; omega
 have KX4 := Lib.hid (hx_keep KX.out b4)
 have KT4 := Lib.hid (hx_keep KT.out b4)
 have KV4 := Lib.hid (hx_keep KV.out b4)
 clear x0 x1 x2 xf t0 t1 t2 t3 t4 t5 tf b1 b2 b3 hz0 hw0 KX KT KV M2 V3 D2 D3 DN DD hdd
 obtain ⟨x0, x1, x2, xf⟩ := hcells KX4.out
 obtain ⟨t0, t1, t2, t3, t4, t5, tf⟩ := tcells KT4.out
 clear b4
 go_wp2
 go_region_held3 (fun w' => (w'.cell? ⟨w.heap.size + 1, 0, none⟩ = some (.int .i64 2) ∧ w'.cell? ⟨w.heap.size + 1, 1, none⟩ = some (.int .i64 (P : Int)) ∧ w'.cell? ⟨w.heap.size + 1, 2, none⟩ = some (.int .i64 (Q : Int)) ∧ w'.cell? ⟨w.heap.size + 1, 3, none⟩ = some (.int .i64 0) ∧ w'.cell? ⟨w.heap.size + 1, 4, none⟩ = some (.bool false) ∧ w'.cell? ⟨w.heap.size + 1, 5, none⟩ = some (.string ⟨#[]⟩)))
   (first | go_keep | (go_split_ands; refine ⟨?_, ?_, ?_, ?_, ?_, ?_⟩ <;> first | assumption | (rw [b7.cell (by simp <;> omega)]; assumption) | (rw [b6.cell (by simp <;> omega)]; assumption) | (rw [b5.cell (by simp <;> omega)]; assumption)))
   (first
     | (go_at_call 68; refine (base_2 _ _ _ _ _ _).mono ?_; rintro e w5 ⟨rfl, hb5⟩; have b5 := undrew hb5; clear hb5)
     | (go_at_call 53; refine (pow10_d P _ (by omega)).mono ?_; rintro e w6 ⟨v6, rfl, D6, hb6⟩; obtain ⟨p6, k6, rfl⟩ := D6.slice; have b6 := b5.trans (hb6.mono b5.size); have D6 := Lib.hid D6; clear hb6; have V6 := Lib.hid (div_d (D4.out.keep b6 (Nat.le_refl _)) D6.out (Nat.pow_pos (by decide)) (by omega) (by omega)))
     | (go_at_call 67; refine V6.out.mono ?_; rintro e w7 ⟨v7, u7, rfl, D7, E7, hb7⟩; obtain ⟨p7, k7, rfl⟩ := D7.slice; obtain ⟨r7, l7, rfl⟩ := E7.slice; have b7 := b6.trans (hb7.mono b6.size); have E7 := Lib.hid E7; clear hb7 D7))
 have hw7 := hw4.trans (b7.mono hw4.size)
 have hz7 : w.heap.size + 1 + 1 < w7.heap.size := by have := b7.size; omega
 have KX7 := Lib.hid (hx_keep KX4.out b7)
 have KT7 := Lib.hid (hx_keep KT4.out b7)
 have KV7 := Lib.hid (hx_keep KV4.out b7)
 have D47 := Lib.hid (D4.out.keep b7 (Nat.le_refl _))
 clear x0 x1 x2 xf t0 t1 t2 t3 t4 t5 tf b5 b6 hz4 hw4 KX4 KT4 KV4 V6 D6 D4
 obtain ⟨x0, x1, x2, xf⟩ := hcells KX7.out
 obtain ⟨t0, t1, t2, t3, t4, t5, tf⟩ := tcells KT7.out
 clear b7
 go_wp2
 go_region_held3 (fun w' => w'.cell? ⟨w.heap.size, 0, none⟩ = some (.bool neg) ∧ w'.cell? ⟨w.heap.size + 1, 0, none⟩ = some (.int .i64 2) ∧ w'.cell? ⟨w.heap.size + 1, 2, none⟩ = some (.int .i64 (Q : Int)))
   (first | go_keep | (go_split_ands; refine ⟨?_, ?_, ?_⟩ <;> assumption))
   (first
     | (go_at_call 69; refine (rsigned_d neg (E7.out.keep (C := w7.heap.size) (by go_grown) (Nat.le_refl _)) hlow).mono ?_; rintro e w8 ⟨rfl, rfl⟩))
 all_goals
   have hw8 : Below w.heap.size w ((w7.alloc (.cells #[.int .i64 2, .int .i64 (sgn neg (q % 10 ^ P)), .int .i64 (Q : Int), .string ⟨#[]⟩] 23)).drew) := (hw7.alloc hw7.size _).drew
   have HV8 : ((w7.alloc (.cells #[.int .i64 2, .int .i64 (sgn neg (q % 10 ^ P)), .int .i64 (Q : Int), .string ⟨#[]⟩] 23)).drew).heap[w7.heap.size]? = some (.cells #[.int .i64 2, .int .i64 (sgn neg (q % 10 ^ P)), .int .i64 (Q : Int), .string ⟨#[]⟩] 23) := hx_last w7 _ _ rfl
   have b8 : Below w7.heap.size w7 ((w7.alloc (.cells #[.int .i64 2, .int .i64 (sgn neg (q % 10 ^ P)), .int .i64 (Q : Int), .string ⟨#[]⟩] 23)).drew) := ((Below.refl _ w7).alloc (Nat.le_refl _) _).drew
   generalize ((w7.alloc (.cells #[.int .i64 2, .int .i64 (sgn neg (q % 10 ^ P)), .int .i64 (Q : Int), .string ⟨#[]⟩] 23)).drew) = w8 at *
   have hz8 : w.heap.size + 1 + 1 < w8.heap.size := by have := b8.size; omega
   have KT8 := Lib.hid (hx_keep KT7.out b8)
   have KV8 := Lib.hid (hx_keep KV7.out b8)
   have D48 := Lib.hid (D47.out.keep b8 (Nat.le_refl _))
   clear x0 x1 x2 xf t0 t1 t2 t3 t4 t5 tf KX7 KT7 KV7 D47 b8
   obtain ⟨t0, t1, t2, t3, t4, t5, tf⟩ := tcells KT8.out
   have K8 := Lib.hid HV8
   clear HV8
   go_wp2
   go_region_held3 (fun w' => (w'.cell? ⟨w.heap.size + 1, 0, none⟩ = some (.int .i64 2) ∧ w'.cell? ⟨w.heap.size + 1, 1, none⟩ = some (.int .i64 (P : Int)) ∧ w'.cell? ⟨w.heap.size + 1, 2, none⟩ = some (.int .i64 (Q : Int)) ∧ w'.cell? ⟨w.heap.size + 1, 3, none⟩ = some (.int .i64 0) ∧ w'.cell? ⟨w.heap.size + 1, 4, none⟩ = some (.bool false) ∧ w'.cell? ⟨w.heap.size + 1, 5, none⟩ = some (.string ⟨#[]⟩)))
     (first | go_keep | (go_split_ands; refine ⟨?_, ?_, ?_, ?_, ?_, ?_⟩ <;> first | assumption | (rw [b11.cell (by simp <;> omega)]; assumption) | (rw [b10.cell (by simp <;> omega)]; assumption) | (rw [b9.cell (by simp <;> omega)]; assumption)))
     (first
       | (go_at_call 68; refine (base_2 _ _ _ _ _ _).mono ?_; rintro e w9 ⟨rfl, hb9⟩; have b9 := undrew hb9; clear hb9)
       | (go_at_call 53; refine (pow10_d P _ (by omega)).mono ?_; rintro e w10 ⟨v10, rfl, D10, hb10⟩; obtain ⟨p10, k10, rfl⟩ := D10.slice; have b10 := b9.trans (hb10.mono b9.size); have D10 := Lib.hid D10; clear hb10; have C10 := Lib.hid (cmp_d (D48.out.keep b10 (Nat.le_refl _)) D10.out (by omega) (by omega)))
       | (go_at_call 70; refine C10.out.mono ?_; rintro e w11 ⟨rfl, hb11⟩; have b11 := b10.trans (hb11.mono b10.size); clear hb11))
   have hord : ¬ 0 ≤ ord q (10 ^ P) := ord_not FIT.out
   obtain ⟨v0, v1, v2, v3, vf⟩ := vcells' (hx_keep K8.out b11)
   obtain ⟨r0, r1, r2, r3, rf⟩ := vcells' (hx_keep KV8.out b11)
   have hz11 := b11.size
   have hw11 := hw8.trans (b11.mono hw8.size)
   clear t0 t1 t2 t3 t4 t5 tf b9 b10 b11
   go_wp2
   refine bodyPost_ret (v := .tuple #[valV 2 (sgn neg (q % 10 ^ P)) (Q : Int) ⟨#[]⟩, .int .i64 0]) (by simp [results, Tryz.results36, go_sem, r0, r1, r2, r3]) rfl ⟨rfl, ?_⟩
   exact (((hw11.setCell (by simp <;> omega) _).setCell (by simp <;> omega) _).setCell (by simp <;> omega) _).setCell (by simp <;> omega) _
set_option maxRecDepth 100000 in
set_option maxHeartbeats 8000000 in
theorem fit_1_in {B P Q : Nat} {big : Int} {w : World} {u : Value} {neg : Bool} {num den : Nat} (hx : RArg B w u neg num den) (hd : 0 < den) (ln : (digs num).length ≤ 1000) (ld : (digs den).length ≤ 1000)
   (hP : P ≤ 31) (hQ : Q ≤ 62) (q : Nat) (hq : num * 2 ^ Q / den = q) (hfit : q < 2 ^ P) :
   Calls Tryz.prog 36 #[u, tyV 1 (P : Int) (Q : Int) 0 false ⟨#[]⟩, .int .i64 big] w fun e w' => e = .returned (.tuple #[valV 1 (sgn neg (q % 2 ^ P)) (Q : Int) ⟨#[]⟩, .int .i64 0]) ∧ Below w.heap.size w w' := by
 obtain ⟨vn, vd, rfl, Dn, Dd⟩ := hx
 obtain ⟨pn, kn, rfl⟩ := Dn.slice
 obtain ⟨pd, kd, rfl⟩ := Dd.slice
 have hlq : (digs q).length ≤ 10000 := by
   rw [← hq]
   have L1 := digs_len_mul num (2 ^ Q)
   have L2 := digs_len_pow2 Q
   exact Nat.le_trans (digs_len_mono (Nat.div_le_self _ _)) (by omega)
 have HQ := Lib.hid hq
 clear hq
 have q1 := s2
 have q2 := s2'
 have q3 := l2
 have q4 := l3
 go_enter Tryz.func36, Tryz.ntmps36
 go_wp2
 obtain ⟨HX, HT, HV, hz0, hw0⟩ := boxed3 (w := w) (A := .cells #[.bool neg, .slice pn (digs num).length kn, .slice pd (digs den).length kd] 52) (B := .cells #[.int .i64 1, .int .i64 (P : Int), .int .i64 (Q : Int), .int .i64 0, .bool false, .string ⟨#[]⟩] 25) (C := .cells #[.int .i64 0, .int .i64 0, .int .i64 0, .string ⟨#[]⟩] 23)
 generalize (((w.alloc (.cells #[.bool neg, .slice pn (digs num).length kn, .slice pd (digs den).length kd] 52)).alloc (.cells #[.int .i64 1, .int .i64 (P : Int), .int .i64 (Q : Int), .int .i64 0, .bool false, .string ⟨#[]⟩] 25)).alloc (.cells #[.int .i64 0, .int .i64 0, .int .i64 0, .string ⟨#[]⟩] 23)) = W0 at *
 have DN := Lib.hid (Dn.keep hw0 (Nat.le_refl _))
 have DD := Lib.hid (Dd.keep hw0 (Nat.le_refl _))
 obtain ⟨x0, x1, x2, xf⟩ := hcells HX
 obtain ⟨t0, t1, t2, t3, t4, t5, tf⟩ := tcells HT
 have KX := Lib.hid HX
 have KT := Lib.hid HT
 have KV := Lib.hid HV
 have FIT := Lib.hid hfit
 have hdd := Lib.hid hd
 have L1 := digs_len_mul num (2 ^ Q)
 have L2 := digs_len_pow2 Q
 clear HX HT HV Dn Dd hfit hd
 go_region_held3 (fun w' => (w'.cell? ⟨w.heap.size, 1, none⟩ = some (.slice pn (digs num).length kn) ∧ w'.cell? ⟨w.heap.size, 2, none⟩ = some (.slice pd (digs den).length kd)) ∧
     (w'.cell? ⟨w.heap.size + 1, 0, none⟩ = some (.int .i64 1) ∧ w'.cell? ⟨w.heap.size + 1, 1, none⟩ = some (.int .i64 (P : Int)) ∧ w'.cell? ⟨w.heap.size + 1, 2, none⟩ = some (.int .i64 (Q : Int)) ∧ w'.cell? ⟨w.heap.size + 1, 3, none⟩ = some (.int .i64 0) ∧ w'.cell? ⟨w.heap.size + 1, 4, none⟩ = some (.bool false) ∧ w'.cell? ⟨w.heap.size + 1, 5, none⟩ = some (.string ⟨#[]⟩)))
   (first | go_keep | (go_split_ands; refine ⟨⟨?_, ?_⟩, ?_, ?_, ?_, ?_, ?_, ?_⟩ <;> first | assumption | (rw [b4.cell (by simp <;> omega)]; assumption) | (rw [b3.cell (by simp <;> omega)]; assumption) | (rw [b2.cell (by simp <;> omega)]; assumption) | (rw [b1.cell (by simp <;> omega)]; assumption)))
   (first
     | (go_at_call 68; refine (base_1 _ _ _ _ _ _).mono ?_; rintro e w1 ⟨rfl, hb1⟩; have b1 := undrew hb1; clear hb1)
     | (go_at_call 53; refine (pow2_d Q _ (by omega)).mono ?_; rintro e w2 ⟨v2, rfl, D2, hb2⟩; obtain ⟨p2, k2, rfl⟩ := D2.slice; have b2 := b1.trans (hb2.mono b1.size); have D2 := Lib.hid D2; clear hb2; have M2 := Lib.hid (mul_d (DN.out.keep b2 (Nat.le_refl _)) D2.out (by omega) (by omega)))
     | (go_at_call 54; refine M2.out.mono ?_; rintro e w3 ⟨v3, rfl, D3, hb3⟩; obtain ⟨p3, k3, rfl⟩ := D3.slice; have b3 := b2.trans (hb3.mono b2.size); have D3 := Lib.hid D3; clear hb3; have v3 := div_d D3.out (DD.out.keep b3 (Nat.le_refl _)) hdd.out (by omega) (by omega); rw [HQ.out] at v3; have V3 := Lib.hid v3; clear v3)
     | (go_at_call 67; refine V3.out.mono ?_; rintro e w4 ⟨v4, u4, rfl, D4, E4, hb4⟩; obtain ⟨p4, k4, rfl⟩ := D4.slice; obtain ⟨r4, l4, rfl⟩ := E4.slice; have b4 := b3.trans (hb4.mono b3.size); have D4 := Lib.hid D4; clear hb4 E4))
 have L3 := digs_len_pow2 P
 have hlow : (digs (q % 2 ^ P)).length ≤ 18 := by
   refine digs_length _ _ (Nat.lt_of_lt_of_le (Nat.mod_lt _ (Nat.pow_pos (by decide))) (Nat.le_trans (Nat.pow_le_pow_right (by decide) hP) (by decide)))
 have hw4 := hw0.trans (b4.mono hw0.size)
 have hz4 : w.heap.size + 1 + 1 < w4.heap.size := by have := b4.size; omega
 have KX4 := Lib.hid (hx_keep KX.out b4)
 have KT4 := Lib.hid (hx_keep KT.out b4)
 have KV4 := Lib.hid (hx_keep KV.out b4)
 clear x0 x1 x2 xf t0 t1 t2 t3 t4 t5 tf b1 b2 b3 hz0 hw0 KX KT KV M2 V3 D2 D3 DN DD hdd
 obtain ⟨x0, x1, x2, xf⟩ := hcells KX4.out
 obtain ⟨t0, t1, t2, t3, t4, t5, tf⟩ := tcells KT4.out
 clear b4
 go_wp2
 go_region_held3 (fun w' => (w'.cell? ⟨w.heap.size + 1, 0, none⟩ = some (.int .i64 1) ∧ w'.cell? ⟨w.heap.size + 1, 1, none⟩ = some (.int .i64 (P : Int)) ∧ w'.cell? ⟨w.heap.size + 1, 2, none⟩ = some (.int .i64 (Q : Int)) ∧ w'.cell? ⟨w.heap.size + 1, 3, none⟩ = some (.int .i64 0) ∧ w'.cell? ⟨w.heap.size + 1, 4, none⟩ = some (.bool false) ∧ w'.cell? ⟨w.heap.size + 1, 5, none⟩ = some (.string ⟨#[]⟩)))
   (first | go_keep | (go_split_ands; refine ⟨?_, ?_, ?_, ?_, ?_, ?_⟩ <;> first | assumption | (rw [b7.cell (by simp <;> omega)]; assumption) | (rw [b6.cell (by simp <;> omega)]; assumption) | (rw [b5.cell (by simp <;> omega)]; assumption)))
   (first
     | (go_at_call 68; refine (base_1 _ _ _ _ _ _).mono ?_; rintro e w5 ⟨rfl, hb5⟩; have b5 := undrew hb5; clear hb5)
     | (go_at_call 53; refine (pow2_d P _ (by omega)).mono ?_; rintro e w6 ⟨v6, rfl, D6, hb6⟩; obtain ⟨p6, k6, rfl⟩ := D6.slice; have b6 := b5.trans (hb6.mono b5.size); have D6 := Lib.hid D6; clear hb6; have V6 := Lib.hid (div_d (D4.out.keep b6 (Nat.le_refl _)) D6.out (Nat.pow_pos (by decide)) (by omega) (by omega)))
     | (go_at_call 67; refine V6.out.mono ?_; rintro e w7 ⟨v7, u7, rfl, D7, E7, hb7⟩; obtain ⟨p7, k7, rfl⟩ := D7.slice; obtain ⟨r7, l7, rfl⟩ := E7.slice; have b7 := b6.trans (hb7.mono b6.size); have E7 := Lib.hid E7; clear hb7 D7))
 have hw7 := hw4.trans (b7.mono hw4.size)
 have hz7 : w.heap.size + 1 + 1 < w7.heap.size := by have := b7.size; omega
 have KX7 := Lib.hid (hx_keep KX4.out b7)
 have KT7 := Lib.hid (hx_keep KT4.out b7)
 have KV7 := Lib.hid (hx_keep KV4.out b7)
 have D47 := Lib.hid (D4.out.keep b7 (Nat.le_refl _))
 clear x0 x1 x2 xf t0 t1 t2 t3 t4 t5 tf b5 b6 hz4 hw4 KX4 KT4 KV4 V6 D6 D4
 obtain ⟨x0, x1, x2, xf⟩ := hcells KX7.out
 obtain ⟨t0, t1, t2, t3, t4, t5, tf⟩ := tcells KT7.out
 clear b7
 go_wp2
 go_region_held3 (fun w' => w'.cell? ⟨w.heap.size, 0, none⟩ = some (.bool neg) ∧ w'.cell? ⟨w.heap.size + 1, 0, none⟩ = some (.int .i64 1) ∧ w'.cell? ⟨w.heap.size + 1, 2, none⟩ = some (.int .i64 (Q : Int)))
   (first | go_keep | (go_split_ands; refine ⟨?_, ?_, ?_⟩ <;> assumption))
   (first
     | (go_at_call 69; refine (rsigned_d neg (E7.out.keep (C := w7.heap.size) (by go_grown) (Nat.le_refl _)) hlow).mono ?_; rintro e w8 ⟨rfl, rfl⟩))
 all_goals
   have hw8 : Below w.heap.size w ((w7.alloc (.cells #[.int .i64 1, .int .i64 (sgn neg (q % 2 ^ P)), .int .i64 (Q : Int), .string ⟨#[]⟩] 23)).drew) := (hw7.alloc hw7.size _).drew
   have HV8 : ((w7.alloc (.cells #[.int .i64 1, .int .i64 (sgn neg (q % 2 ^ P)), .int .i64 (Q : Int), .string ⟨#[]⟩] 23)).drew).heap[w7.heap.size]? = some (.cells #[.int .i64 1, .int .i64 (sgn neg (q % 2 ^ P)), .int .i64 (Q : Int), .string ⟨#[]⟩] 23) := hx_last w7 _ _ rfl
   have b8 : Below w7.heap.size w7 ((w7.alloc (.cells #[.int .i64 1, .int .i64 (sgn neg (q % 2 ^ P)), .int .i64 (Q : Int), .string ⟨#[]⟩] 23)).drew) := ((Below.refl _ w7).alloc (Nat.le_refl _) _).drew
   generalize ((w7.alloc (.cells #[.int .i64 1, .int .i64 (sgn neg (q % 2 ^ P)), .int .i64 (Q : Int), .string ⟨#[]⟩] 23)).drew) = w8 at *
   have hz8 : w.heap.size + 1 + 1 < w8.heap.size := by have := b8.size; omega
   have KT8 := Lib.hid (hx_keep KT7.out b8)
   have KV8 := Lib.hid (hx_keep KV7.out b8)
   have D48 := Lib.hid (D47.out.keep b8 (Nat.le_refl _))
   clear x0 x1 x2 xf t0 t1 t2 t3 t4 t5 tf KX7 KT7 KV7 D47 b8
   obtain ⟨t0, t1, t2, t3, t4, t5, tf⟩ := tcells KT8.out
   have K8 := Lib.hid HV8
   clear HV8
   go_wp2
   go_region_held3 (fun w' => (w'.cell? ⟨w.heap.size + 1, 0, none⟩ = some (.int .i64 1) ∧ w'.cell? ⟨w.heap.size + 1, 1, none⟩ = some (.int .i64 (P : Int)) ∧ w'.cell? ⟨w.heap.size + 1, 2, none⟩ = some (.int .i64 (Q : Int)) ∧ w'.cell? ⟨w.heap.size + 1, 3, none⟩ = some (.int .i64 0) ∧ w'.cell? ⟨w.heap.size + 1, 4, none⟩ = some (.bool false) ∧ w'.cell? ⟨w.heap.size + 1, 5, none⟩ = some (.string ⟨#[]⟩)))
     (first | go_keep | (go_split_ands; refine ⟨?_, ?_, ?_, ?_, ?_, ?_⟩ <;> first | assumption | (rw [b11.cell (by simp <;> omega)]; assumption) | (rw [b10.cell (by simp <;> omega)]; assumption) | (rw [b9.cell (by simp <;> omega)]; assumption)))
     (first
       | (go_at_call 68; refine (base_1 _ _ _ _ _ _).mono ?_; rintro e w9 ⟨rfl, hb9⟩; have b9 := undrew hb9; clear hb9)
       | (go_at_call 53; refine (pow2_d P _ (by omega)).mono ?_; rintro e w10 ⟨v10, rfl, D10, hb10⟩; obtain ⟨p10, k10, rfl⟩ := D10.slice; have b10 := b9.trans (hb10.mono b9.size); have D10 := Lib.hid D10; clear hb10; have C10 := Lib.hid (cmp_d (D48.out.keep b10 (Nat.le_refl _)) D10.out (by omega) (by omega)))
       | (go_at_call 70; refine C10.out.mono ?_; rintro e w11 ⟨rfl, hb11⟩; have b11 := b10.trans (hb11.mono b10.size); clear hb11))
   have hord : ¬ 0 ≤ ord q (2 ^ P) := ord_not FIT.out
   obtain ⟨v0, v1, v2, v3, vf⟩ := vcells' (hx_keep K8.out b11)
   obtain ⟨r0, r1, r2, r3, rf⟩ := vcells' (hx_keep KV8.out b11)
   have hz11 := b11.size
   have hw11 := hw8.trans (b11.mono hw8.size)
   clear t0 t1 t2 t3 t4 t5 tf b9 b10 b11
   go_wp2
   refine bodyPost_ret (v := .tuple #[valV 1 (sgn neg (q % 2 ^ P)) (Q : Int) ⟨#[]⟩, .int .i64 0]) (by simp [results, Tryz.results36, go_sem, r0, r1, r2, r3]) rfl ⟨rfl, ?_⟩
   exact (((hw11.setCell (by simp <;> omega) _).setCell (by simp <;> omega) _).setCell (by simp <;> omega) _).setCell (by simp <;> omega) _
theorem ord_yes {m n : Nat} (h : n ≤ m) : 0 ≤ ord m n := by unfold ord; rw [if_neg (by omega)]; split <;> decide
set_option maxRecDepth 100000 in
set_option maxHeartbeats 8000000 in
theorem fit_1_out {B P Q : Nat} {big : Int} {w : World} {u : Value} {neg : Bool} {num den : Nat} (hx : RArg B w u neg num den) (hd : 0 < den) (ln : (digs num).length ≤ 1000) (ld : (digs den).length ≤ 1000)
   (hP : P ≤ 31) (hQ : Q ≤ 62) (q : Nat) (hq : num * 2 ^ Q / den = q) (hfit : 2 ^ P ≤ q) :
   Calls Tryz.prog 36 #[u, tyV 1 (P : Int) (Q : Int) 0 false ⟨#[]⟩, .int .i64 big] w fun e w' => e = .returned (.tuple #[valV 1 (sgn neg (q % 2 ^ P)) (Q : Int) ⟨#[]⟩, .int .i64 big]) ∧ Below w.heap.size w w' := by
 obtain ⟨vn, vd, rfl, Dn, Dd⟩ := hx
 obtain ⟨pn, kn, rfl⟩ := Dn.slice
 obtain ⟨pd, kd, rfl⟩ := Dd.slice
 have hlq : (digs q).length ≤ 10000 := by
   rw [← hq]
   have L1 := digs_len_mul num (2 ^ Q)
   have L2 := digs_len_pow2 Q
   exact Nat.le_trans (digs_len_mono (Nat.div_le_self _ _)) (by omega)
 have HQ := Lib.hid hq
 clear hq
 have q1 := s2
 have q2 := s2'
 have q3 := l2
 have q4 := l3
 go_enter Tryz.func36, Tryz.ntmps36
 go_wp2
 obtain ⟨HX, HT, HV, hz0, hw0⟩ := boxed3 (w := w) (A := .cells #[.bool neg, .slice pn (digs num).length kn, .slice pd (digs den).length kd] 52) (B := .cells #[.int .i64 1, .int .i64 (P : Int), .int .i64 (Q : Int), .int .i64 0, .bool false, .string ⟨#[]⟩] 25) (C := .cells #[.int .i64 0, .int .i64 0, .int .i64 0, .string ⟨#[]⟩] 23)
 generalize (((w.alloc (.cells #[.bool neg, .slice pn (digs num).length kn, .slice pd (digs den).length kd] 52)).alloc (.cells #[.int .i64 1, .int .i64 (P : Int), .int .i64 (Q : Int), .int .i64 0, .bool false, .string ⟨#[]⟩] 25)).alloc (.cells #[.int .i64 0, .int .i64 0, .int .i64 0, .string ⟨#[]⟩] 23)) = W0 at *
 have DN := Lib.hid (Dn.keep hw0 (Nat.le_refl _))
 have DD := Lib.hid (Dd.keep hw0 (Nat.le_refl _))
 obtain ⟨x0, x1, x2, xf⟩ := hcells HX
 obtain ⟨t0, t1, t2, t3, t4, t5, tf⟩ := tcells HT
 have KX := Lib.hid HX
 have KT := Lib.hid HT
 have KV := Lib.hid HV
 have FIT := Lib.hid hfit
 have hdd := Lib.hid hd
 have L1 := digs_len_mul num (2 ^ Q)
 have L2 := digs_len_pow2 Q
 clear HX HT HV Dn Dd hfit hd
 go_region_held3 (fun w' => (w'.cell? ⟨w.heap.size, 1, none⟩ = some (.slice pn (digs num).length kn) ∧ w'.cell? ⟨w.heap.size, 2, none⟩ = some (.slice pd (digs den).length kd)) ∧
     (w'.cell? ⟨w.heap.size + 1, 0, none⟩ = some (.int .i64 1) ∧ w'.cell? ⟨w.heap.size + 1, 1, none⟩ = some (.int .i64 (P : Int)) ∧ w'.cell? ⟨w.heap.size + 1, 2, none⟩ = some (.int .i64 (Q : Int)) ∧ w'.cell? ⟨w.heap.size + 1, 3, none⟩ = some (.int .i64 0) ∧ w'.cell? ⟨w.heap.size + 1, 4, none⟩ = some (.bool false) ∧ w'.cell? ⟨w.heap.size + 1, 5, none⟩ = some (.string ⟨#[]⟩)))
   (first | go_keep | (go_split_ands; refine ⟨⟨?_, ?_⟩, ?_, ?_, ?_, ?_, ?_, ?_⟩ <;> first | assumption | (rw [b4.cell (by simp <;> omega)]; assumption) | (rw [b3.cell (by simp <;> omega)]; assumption) | (rw [b2.cell (by simp <;> omega)]; assumption) | (rw [b1.cell (by simp <;> omega)]; assumption)))
   (first
     | (go_at_call 68; refine (base_1 _ _ _ _ _ _).mono ?_; rintro e w1 ⟨rfl, hb1⟩; have b1 := undrew hb1; clear hb1)
     | (go_at_call 53; refine (pow2_d Q _ (by omega)).mono ?_; rintro e w2 ⟨v2, rfl, D2, hb2⟩; obtain ⟨p2, k2, rfl⟩ := D2.slice; have b2 := b1.trans (hb2.mono b1.size); have D2 := Lib.hid D2; clear hb2; have M2 := Lib.hid (mul_d (DN.out.keep b2 (Nat.le_refl _)) D2.out (by omega) (by omega)))
     | (go_at_call 54; refine M2.out.mono ?_; rintro e w3 ⟨v3, rfl, D3, hb3⟩; obtain ⟨p3, k3, rfl⟩ := D3.slice; have b3 := b2.trans (hb3.mono b2.size); have D3 := Lib.hid D3; clear hb3; have v3 := div_d D3.out (DD.out.keep b3 (Nat.le_refl _)) hdd.out (by omega) (by omega); rw [HQ.out] at v3; have V3 := Lib.hid v3; clear v3)
     | (go_at_call 67; refine V3.out.mono ?_; rintro e w4 ⟨v4, u4, rfl, D4, E4, hb4⟩; obtain ⟨p4, k4, rfl⟩ := D4.slice; obtain ⟨r4, l4, rfl⟩ := E4.slice; have b4 := b3.trans (hb4.mono b3.size); have D4 := Lib.hid D4; clear hb4 E4))
 have L3 := digs_len_pow2 P
 have hlow : (digs (q % 2 ^ P)).length ≤ 18 := by
   refine digs_length _ _ (Nat.lt_of_lt_of_le (Nat.mod_lt _ (Nat.pow_pos (by decide))) (Nat.le_trans (Nat.pow_le_pow_right (by decide) hP) (by decide)))
 have hw4 := hw0.trans (b4.mono hw0.size)
 have hz4 : w.heap.size + 1 + 1 < w4.heap.size := by have := b4.size; omega
 have KX4 := Lib.hid (hx_keep KX.out b4)
 have KT4 := Lib.hid (hx_keep KT.out b4)
 have KV4 := Lib.hid (hx_keep KV.out b4)
 clear x0 x1 x2 xf t0 t1 t2 t3 t4 t5 tf b1 b2 b3 hz0 hw0 KX KT KV M2 V3 D2 D3 DN DD hdd
 obtain ⟨x0, x1, x2, xf⟩ := hcells KX4.out
 obtain ⟨t0, t1, t2, t3, t4, t5, tf⟩ := tcells KT4.out
 clear b4
 go_wp2
 go_region_held3 (fun w' => (w'.cell? ⟨w.heap.size + 1, 0, none⟩ = some (.int .i64 1) ∧ w'.cell? ⟨w.heap.size + 1, 1, none⟩ = some (.int .i64 (P : Int)) ∧ w'.cell? ⟨w.heap.size + 1, 2, none⟩ = some (.int .i64 (Q : Int)) ∧ w'.cell? ⟨w.heap.size + 1, 3, none⟩ = some (.int .i64 0) ∧ w'.cell? ⟨w.heap.size + 1, 4, none⟩ = some (.bool false) ∧ w'.cell? ⟨w.heap.size + 1, 5, none⟩ = some (.string ⟨#[]⟩)))
   (first | go_keep | (go_split_ands; refine ⟨?_, ?_, ?_, ?_, ?_, ?_⟩ <;> first | assumption | (rw [b7.cell (by simp <;> omega)]; assumption) | (rw [b6.cell (by simp <;> omega)]; assumption) | (rw [b5.cell (by simp <;> omega)]; assumption)))
   (first
     | (go_at_call 68; refine (base_1 _ _ _ _ _ _).mono ?_; rintro e w5 ⟨rfl, hb5⟩; have b5 := undrew hb5; clear hb5)
     | (go_at_call 53; refine (pow2_d P _ (by omega)).mono ?_; rintro e w6 ⟨v6, rfl, D6, hb6⟩; obtain ⟨p6, k6, rfl⟩ := D6.slice; have b6 := b5.trans (hb6.mono b5.size); have D6 := Lib.hid D6; clear hb6; have V6 := Lib.hid (div_d (D4.out.keep b6 (Nat.le_refl _)) D6.out (Nat.pow_pos (by decide)) (by omega) (by omega)))
     | (go_at_call 67; refine V6.out.mono ?_; rintro e w7 ⟨v7, u7, rfl, D7, E7, hb7⟩; obtain ⟨p7, k7, rfl⟩ := D7.slice; obtain ⟨r7, l7, rfl⟩ := E7.slice; have b7 := b6.trans (hb7.mono b6.size); have E7 := Lib.hid E7; clear hb7 D7))
 have hw7 := hw4.trans (b7.mono hw4.size)
 have hz7 : w.heap.size + 1 + 1 < w7.heap.size := by have := b7.size; omega
 have KX7 := Lib.hid (hx_keep KX4.out b7)
 have KT7 := Lib.hid (hx_keep KT4.out b7)
 have KV7 := Lib.hid (hx_keep KV4.out b7)
 have D47 := Lib.hid (D4.out.keep b7 (Nat.le_refl _))
 clear x0 x1 x2 xf t0 t1 t2 t3 t4 t5 tf b5 b6 hz4 hw4 KX4 KT4 KV4 V6 D6 D4
 obtain ⟨x0, x1, x2, xf⟩ := hcells KX7.out
 obtain ⟨t0, t1, t2, t3, t4, t5, tf⟩ := tcells KT7.out
 clear b7
 go_wp2
 go_region_held3 (fun w' => w'.cell? ⟨w.heap.size, 0, none⟩ = some (.bool neg) ∧ w'.cell? ⟨w.heap.size + 1, 0, none⟩ = some (.int .i64 1) ∧ w'.cell? ⟨w.heap.size + 1, 2, none⟩ = some (.int .i64 (Q : Int)))
   (first | go_keep | (go_split_ands; refine ⟨?_, ?_, ?_⟩ <;> assumption))
   (first
     | (go_at_call 69; refine (rsigned_d neg (E7.out.keep (C := w7.heap.size) (by go_grown) (Nat.le_refl _)) hlow).mono ?_; rintro e w8 ⟨rfl, rfl⟩))
 all_goals
   have hw8 : Below w.heap.size w ((w7.alloc (.cells #[.int .i64 1, .int .i64 (sgn neg (q % 2 ^ P)), .int .i64 (Q : Int), .string ⟨#[]⟩] 23)).drew) := (hw7.alloc hw7.size _).drew
   have HV8 : ((w7.alloc (.cells #[.int .i64 1, .int .i64 (sgn neg (q % 2 ^ P)), .int .i64 (Q : Int), .string ⟨#[]⟩] 23)).drew).heap[w7.heap.size]? = some (.cells #[.int .i64 1, .int .i64 (sgn neg (q % 2 ^ P)), .int .i64 (Q : Int), .string ⟨#[]⟩] 23) := hx_last w7 _ _ rfl
   have b8 : Below w7.heap.size w7 ((w7.alloc (.cells #[.int .i64 1, .int .i64 (sgn neg (q % 2 ^ P)), .int .i64 (Q : Int), .string ⟨#[]⟩] 23)).drew) := ((Below.refl _ w7).alloc (Nat.le_refl _) _).drew
   generalize ((w7.alloc (.cells #[.int .i64 1, .int .i64 (sgn neg (q % 2 ^ P)), .int .i64 (Q : Int), .string ⟨#[]⟩] 23)).drew) = w8 at *
   have hz8 : w.heap.size + 1 + 1 < w8.heap.size := by have := b8.size; omega
   have KT8 := Lib.hid (hx_keep KT7.out b8)
   have KV8 := Lib.hid (hx_keep KV7.out b8)
   have D48 := Lib.hid (D47.out.keep b8 (Nat.le_refl _))
   clear x0 x1 x2 xf t0 t1 t2 t3 t4 t5 tf KX7 KT7 KV7 D47 b8
   obtain ⟨t0, t1, t2, t3, t4, t5, tf⟩ := tcells KT8.out
   have K8 := Lib.hid HV8
   clear HV8
   go_wp2
   go_region_held3 (fun w' => (w'.cell? ⟨w.heap.size + 1, 0, none⟩ = some (.int .i64 1) ∧ w'.cell? ⟨w.heap.size + 1, 1, none⟩ = some (.int .i64 (P : Int)) ∧ w'.cell? ⟨w.heap.size + 1, 2, none⟩ = some (.int .i64 (Q : Int)) ∧ w'.cell? ⟨w.heap.size + 1, 3, none⟩ = some (.int .i64 0) ∧ w'.cell? ⟨w.heap.size + 1, 4, none⟩ = some (.bool false) ∧ w'.cell? ⟨w.heap.size + 1, 5, none⟩ = some (.string ⟨#[]⟩)))
     (first | go_keep | (go_split_ands; refine ⟨?_, ?_, ?_, ?_, ?_, ?_⟩ <;> first | assumption | (rw [b11.cell (by simp <;> omega)]; assumption) | (rw [b10.cell (by simp <;> omega)]; assumption) | (rw [b9.cell (by simp <;> omega)]; assumption)))
     (first
       | (go_at_call 68; refine (base_1 _ _ _ _ _ _).mono ?_; rintro e w9 ⟨rfl, hb9⟩; have b9 := undrew hb9; clear hb9)
       | (go_at_call 53; refine (pow2_d P _ (by omega)).mono ?_; rintro e w10 ⟨v10, rfl, D10, hb10⟩; obtain ⟨p10, k10, rfl⟩ := D10.slice; have b10 := b9.trans (hb10.mono b9.size); have D10 := Lib.hid D10; clear hb10; have C10 := Lib.hid (cmp_d (D48.out.keep b10 (Nat.le_refl _)) D10.out (by omega) (by omega)))
       | (go_at_call 70; refine C10.out.mono ?_; rintro e w11 ⟨rfl, hb11⟩; have b11 := b10.trans (hb11.mono b10.size); clear hb11))
   have hord : 0 ≤ ord q (2 ^ P) := ord_yes FIT.out
   obtain ⟨v0, v1, v2, v3, vf⟩ := vcells' (hx_keep K8.out b11)
   obtain ⟨r0, r1, r2, r3, rf⟩ := vcells' (hx_keep KV8.out b11)
   have hz11 := b11.size
   have hw11 := hw8.trans (b11.mono hw8.size)
   clear t0 t1 t2 t3 t4 t5 tf b9 b10 b11
   go_wp2
   refine bodyPost_ret (v := .tuple #[valV 1 (sgn neg (q % 2 ^ P)) (Q : Int) ⟨#[]⟩, .int .i64 big]) (by simp [results, Tryz.results36, go_sem, r0, r1, r2, r3]) rfl ⟨rfl, ?_⟩
   exact (((hw11.setCell (by simp <;> omega) _).setCell (by simp <;> omega) _).setCell (by simp <;> omega) _).setCell (by simp <;> omega) _
set_option maxRecDepth 100000 in
set_option maxHeartbeats 8000000 in
theorem fit_2_out {B P Q : Nat} {big : Int} {w : World} {u : Value} {neg : Bool} {num den : Nat} (hx : RArg B w u neg num den) (hd : 0 < den) (ln : (digs num).length ≤ 1000) (ld : (digs den).length ≤ 1000)
   (hP : P ≤ 15) (hQ : Q ≤ 62) (q : Nat) (hq : num * 10 ^ Q / den = q) (hfit : 10 ^ P ≤ q) :
   Calls Tryz.prog 36 #[u, tyV 2 (P : Int) (Q : Int) 0 false ⟨#[]⟩, .int .i64 big] w fun e w' => e = .returned (.tuple #[valV 2 (sgn neg (q % 10 ^ P)) (Q : Int) ⟨#[]⟩, .int .i64 big]) ∧ Below w.heap.size w w' := by
 obtain ⟨vn, vd, rfl, Dn, Dd⟩ := hx
 obtain ⟨pn, kn, rfl⟩ := Dn.slice
 obtain ⟨pd, kd, rfl⟩ := Dd.slice
 have hlq : (digs q).length ≤ 10000 := by
   rw [← hq]
   have L1 := digs_len_mul num (10 ^ Q)
   have L2 := Nat.le_of_eq (digs_len_pow10 Q)
   exact Nat.le_trans (digs_len_mono (Nat.div_le_self _ _)) (by omega)
 have HQ := Lib.hid hq
 clear hq
 have q1 := s2
 have q2 := s2'
 have q3 := l2
 have q4 := l3
 go_enter Tryz.func36, Tryz.ntmps36
 go_wp2
 obtain ⟨HX, HT, HV, hz0, hw0⟩ := boxed3 (w := w) (A := .cells #[.bool neg, .slice pn (digs num).length kn, .slice pd (digs den).length kd] 52) (B := .cells #[.int .i64 2, .int .i64 (P : Int), .int .i64 (Q : Int), .int .i64 0, .bool false, .string ⟨#[]⟩] 25) (C := .cells #[.int .i64 0, .int .i64 0, .int .i64 0, .string ⟨#[]⟩] 23)
 generalize (((w.alloc (.cells #[.bool neg, .slice pn (digs num).length kn, .slice pd (digs den).length kd] 52)).alloc (.cells #[.int .i64 2, .int .i64 (P : Int), .int .i64 (Q : Int), .int .i64 0, .bool false, .string ⟨#[]⟩] 25)).alloc (.cells #[.int .i64 0, .int .i64 0, .int .i64 0, .string ⟨#[]⟩] 23)) = W0 at *
 have DN := Lib.hid (Dn.keep hw0 (Nat.le_refl _))
 have DD := Lib.hid (Dd.keep hw0 (Nat.le_refl _))
 obtain ⟨x0, x1, x2, xf⟩ := hcells HX
 obtain ⟨t0, t1, t2, t3, t4, t5, tf⟩ := tcells HT
 have KX := Lib.hid HX
 have KT := Lib.hid HT
 have KV := Lib.hid HV
 have FIT := Lib.hid hfit
 have hdd := Lib.hid hd
 have L1 := digs_len_mul num (10 ^ Q)
 have L2 := Nat.le_of_eq (digs_len_pow10 Q)
 clear HX HT HV Dn Dd hfit hd
 go_region_held3 (fun w' => (w'.cell? ⟨w.heap.size, 1, none⟩ = some (.slice pn (digs num).length kn) ∧ w'.cell? ⟨w.heap.size, 2, none⟩ = some (.slice pd (digs den).length kd)) ∧
     (w'.cell? ⟨w.heap.size + 1, 0, none⟩ = some (.int .i64 2) ∧ w'.cell? ⟨w.heap.size + 1, 1, none⟩ = some (.int .i64 (P : Int)) ∧ w'.cell? ⟨w.heap.size + 1, 2, none⟩ = some (.int .i64 (Q : Int)) ∧ w'.cell? ⟨w.heap.size + 1, 3, none⟩ = some (.int .i64 0) ∧ w'.cell? ⟨w.heap.size + 1, 4, none⟩ = some (.bool false) ∧ w'.cell? ⟨w.heap.size + 1, 5, none⟩ = some (.string ⟨#[]⟩)))
   (first | go_keep | (go_split_ands; refine ⟨⟨?_, ?_⟩, ?_, ?_, ?_, ?_, ?_, ?_⟩ <;> first | assumption | (rw [b4.cell (by simp <;> omega)]; assumption) | (rw [b3.cell (by simp <;> omega)]; assumption) | (rw [b2.cell (by simp <;> omega)]; assumption) | (rw [b1.cell (by simp <;> omega)]; assumption)))
   (first
     | (go_at_call 68; refine (base_2 _ _ _ _ _ _).mono ?_; rintro e w1 ⟨rfl, hb1⟩; have b1 := undrew hb1; clear hb1)
     | (go_at_call 53; refine (pow10_d Q _ (by omega)).mono ?_; rintro e w2 ⟨v2, rfl, D2, hb2⟩; obtain ⟨p2, k2, rfl⟩ := D2.slice; have b2 := b1.trans (hb2.mono b1.size); have D2 := Lib.hid D2; clear hb2; have M2 := Lib.hid (mul_d (DN.out.keep b2 (Nat.le_refl _)) D2.out (by omega) (by omega)))
     | (go_at_call 54; refine M2.out.mono ?_; rintro e w3 ⟨v3, rfl, D3, hb3⟩; obtain ⟨p3, k3, rfl⟩ := D3.slice; have b3 := b2.trans (hb3.mono b2.size); have D3 := Lib.hid D3; clear hb3; have v3 := div_d D3.out (DD.out.keep b3 (Nat.le_refl _)) hdd.out (by omega) (by omega); rw [HQ.out] at v3; have V3 := Lib.hid v3; clear v3)
     | (go_at_call 67; refine V3.out.mono ?_; rintro e w4 ⟨v4, u4, rfl, D4, E4, hb4⟩; obtain ⟨p4, k4, rfl⟩ := D4.slice; obtain ⟨r4, l4, rfl⟩ := E4.slice; have b4 := b3.trans (hb4.mono b3.size); have D4 := Lib.hid D4; clear hb4 E4))
 have L3 := Nat.le_of_eq (digs_len_pow10 P)
 have hlow : (digs (q % 10 ^ P)).length ≤ 18 := by
   refine digs_length _ _ (Nat.lt_of_lt_of_le (Nat.mod_lt _ (Nat.pow_pos (by decide))) (Nat.le_trans (Nat.pow_le_pow_right (by decide) hP) (by decide)))
 have hw4 := hw0.trans (b4.mono hw0.size)
 have hz4 : w.heap.size + 1 + 1 < w4.heap.size := by have := b4.size; omega
 have KX4 := Lib.hid (hx_keep KX.out b4)
 have KT4 := Lib.hid (hx_keep KT.out b4)
 have KV4 := Lib.hid (hx_keep KV.out b4)
 clear x0 x1 x2 xf t0 t1 t2 t3 t4 t5 tf b1 b2 b3 hz0 hw0 KX KT KV M2 V3 D2 D3 DN DD hdd
 obtain ⟨x0, x1, x2, xf⟩ := hcells KX4.out
 obtain ⟨t0, t1, t2, t3, t4, t5, tf⟩ := tcells KT4.out
 clear b4
 go_wp2
 go_region_held3 (fun w' => (w'.cell? ⟨w.heap.size + 1, 0, none⟩ = some (.int .i64 2) ∧ w'.cell? ⟨w.heap.size + 1, 1, none⟩ = some (.int .i64 (P : Int)) ∧ w'.cell? ⟨w.heap.size + 1, 2, none⟩ = some (.int .i64 (Q : Int)) ∧ w'.cell? ⟨w.heap.size + 1, 3, none⟩ = some (.int .i64 0) ∧ w'.cell? ⟨w.heap.size + 1, 4, none⟩ = some (.bool false) ∧ w'.cell? ⟨w.heap.size + 1, 5, none⟩ = some (.string ⟨#[]⟩)))
   (first | go_keep | (go_split_ands; refine ⟨?_, ?_, ?_, ?_, ?_, ?_⟩ <;> first | assumption | (rw [b7.cell (by simp <;> omega)]; assumption) | (rw [b6.cell (by simp <;> omega)]; assumption) | (rw [b5.cell (by simp <;> omega)]; assumption)))
   (first
     | (go_at_call 68; refine (base_2 _ _ _ _ _ _).mono ?_; rintro e w5 ⟨rfl, hb5⟩; have b5 := undrew hb5; clear hb5)
     | (go_at_call 53; refine (pow10_d P _ (by omega)).mono ?_; rintro e w6 ⟨v6, rfl, D6, hb6⟩; obtain ⟨p6, k6, rfl⟩ := D6.slice; have b6 := b5.trans (hb6.mono b5.size); have D6 := Lib.hid D6; clear hb6; have V6 := Lib.hid (div_d (D4.out.keep b6 (Nat.le_refl _)) D6.out (Nat.pow_pos (by decide)) (by omega) (by omega)))
     | (go_at_call 67; refine V6.out.mono ?_; rintro e w7 ⟨v7, u7, rfl, D7, E7, hb7⟩; obtain ⟨p7, k7, rfl⟩ := D7.slice; obtain ⟨r7, l7, rfl⟩ := E7.slice; have b7 := b6.trans (hb7.mono b6.size); have E7 := Lib.hid E7; clear hb7 D7))
 have hw7 := hw4.trans (b7.mono hw4.size)
 have hz7 : w.heap.size + 1 + 1 < w7.heap.size := by have := b7.size; omega
 have KX7 := Lib.hid (hx_keep KX4.out b7)
 have KT7 := Lib.hid (hx_keep KT4.out b7)
 have KV7 := Lib.hid (hx_keep KV4.out b7)
 have D47 := Lib.hid (D4.out.keep b7 (Nat.le_refl _))
 clear x0 x1 x2 xf t0 t1 t2 t3 t4 t5 tf b5 b6 hz4 hw4 KX4 KT4 KV4 V6 D6 D4
 obtain ⟨x0, x1, x2, xf⟩ := hcells KX7.out
 obtain ⟨t0, t1, t2, t3, t4, t5, tf⟩ := tcells KT7.out
 clear b7
 go_wp2
 go_region_held3 (fun w' => w'.cell? ⟨w.heap.size, 0, none⟩ = some (.bool neg) ∧ w'.cell? ⟨w.heap.size + 1, 0, none⟩ = some (.int .i64 2) ∧ w'.cell? ⟨w.heap.size + 1, 2, none⟩ = some (.int .i64 (Q : Int)))
   (first | go_keep | (go_split_ands; refine ⟨?_, ?_, ?_⟩ <;> assumption))
   (first
     | (go_at_call 69; refine (rsigned_d neg (E7.out.keep (C := w7.heap.size) (by go_grown) (Nat.le_refl _)) hlow).mono ?_; rintro e w8 ⟨rfl, rfl⟩))
 all_goals
   have hw8 : Below w.heap.size w ((w7.alloc (.cells #[.int .i64 2, .int .i64 (sgn neg (q % 10 ^ P)), .int .i64 (Q : Int), .string ⟨#[]⟩] 23)).drew) := (hw7.alloc hw7.size _).drew
   have HV8 : ((w7.alloc (.cells #[.int .i64 2, .int .i64 (sgn neg (q % 10 ^ P)), .int .i64 (Q : Int), .string ⟨#[]⟩] 23)).drew).heap[w7.heap.size]? = some (.cells #[.int .i64 2, .int .i64 (sgn neg (q % 10 ^ P)), .int .i64 (Q : Int), .string ⟨#[]⟩] 23) := hx_last w7 _ _ rfl
   have b8 : Below w7.heap.size w7 ((w7.alloc (.cells #[.int .i64 2, .int .i64 (sgn neg (q % 10 ^ P)), .int .i64 (Q : Int), .string ⟨#[]⟩] 23)).drew) := ((Below.refl _ w7).alloc (Nat.le_refl _) _).drew
   generalize ((w7.alloc (.cells #[.int .i64 2, .int .i64 (sgn neg (q % 10 ^ P)), .int .i64 (Q : Int), .string ⟨#[]⟩] 23)).drew) = w8 at *
   have hz8 : w.heap.size + 1 + 1 < w8.heap.size := by have := b8.size; omega
   have KT8 := Lib.hid (hx_keep KT7.out b8)
   have KV8 := Lib.hid (hx_keep KV7.out b8)
   have D48 := Lib.hid (D47.out.keep b8 (Nat.le_refl _))
   clear x0 x1 x2 xf t0 t1 t2 t3 t4 t5 tf KX7 KT7 KV7 D47 b8
   obtain ⟨t0, t1, t2, t3, t4, t5, tf⟩ := tcells KT8.out
   have K8 := Lib.hid HV8
   clear HV8
   go_wp2
   go_region_held3 (fun w' => (w'.cell? ⟨w.heap.size + 1, 0, none⟩ = some (.int .i64 2) ∧ w'.cell? ⟨w.heap.size + 1, 1, none⟩ = some (.int .i64 (P : Int)) ∧ w'.cell? ⟨w.heap.size + 1, 2, none⟩ = some (.int .i64 (Q : Int)) ∧ w'.cell? ⟨w.heap.size + 1, 3, none⟩ = some (.int .i64 0) ∧ w'.cell? ⟨w.heap.size + 1, 4, none⟩ = some (.bool false) ∧ w'.cell? ⟨w.heap.size + 1, 5, none⟩ = some (.string ⟨#[]⟩)))
     (first | go_keep | (go_split_ands; refine ⟨?_, ?_, ?_, ?_, ?_, ?_⟩ <;> first | assumption | (rw [b11.cell (by simp <;> omega)]; assumption) | (rw [b10.cell (by simp <;> omega)]; assumption) | (rw [b9.cell (by simp <;> omega)]; assumption)))
     (first
       | (go_at_call 68; refine (base_2 _ _ _ _ _ _).mono ?_; rintro e w9 ⟨rfl, hb9⟩; have b9 := undrew hb9; clear hb9)
       | (go_at_call 53; refine (pow10_d P _ (by omega)).mono ?_; rintro e w10 ⟨v10, rfl, D10, hb10⟩; obtain ⟨p10, k10, rfl⟩ := D10.slice; have b10 := b9.trans (hb10.mono b9.size); have D10 := Lib.hid D10; clear hb10; have C10 := Lib.hid (cmp_d (D48.out.keep b10 (Nat.le_refl _)) D10.out (by omega) (by omega)))
       | (go_at_call 70; refine C10.out.mono ?_; rintro e w11 ⟨rfl, hb11⟩; have b11 := b10.trans (hb11.mono b10.size); clear hb11))
   have hord : 0 ≤ ord q (10 ^ P) := ord_yes FIT.out
   obtain ⟨v0, v1, v2, v3, vf⟩ := vcells' (hx_keep K8.out b11)
   obtain ⟨r0, r1, r2, r3, rf⟩ := vcells' (hx_keep KV8.out b11)
   have hz11 := b11.size
   have hw11 := hw8.trans (b11.mono hw8.size)
   clear t0 t1 t2 t3 t4 t5 tf b9 b10 b11
   go_wp2
   refine bodyPost_ret (v := .tuple #[valV 2 (sgn neg (q % 10 ^ P)) (Q : Int) ⟨#[]⟩, .int .i64 big]) (by simp [results, Tryz.results36, go_sem, r0, r1, r2, r3]) rfl ⟨rfl, ?_⟩
   exact (((hw11.setCell (by simp <;> omega) _).setCell (by simp <;> omega) _).setCell (by simp <;> omega) _).setCell (by simp <;> omega) _
end Go.Proofs.YtpdoddhieblooaaGreatDoor
