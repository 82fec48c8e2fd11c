/- slices.Clone of words; digit.divided by a number of two words or more. digit.divided by a number of two words or more; DivOK of any two numbers. -/
import Derived.Test.YtpdoddhieblooaaGreatDoorKWrdShift
import Derived.Test.YtpdoddhieblooaaGreatDoorKWrdGuess
import Derived.Test.YtpdoddhieblooaaGreatDoorKFltMod
import Derived.Test.YtpdoddhieblooaaGreatDoorKWrdXs
import Derived.Deep.RegionWith
namespace Go.Proofs.YtpdoddhieblooaaGreatDoor
open Go.RowKit

set_option maxHeartbeats 2000000 in
set_option maxRecDepth 100000 in
theorem clone_d {B a : Nat} {va : Value} {w : World} (hA : WArg B w va a) (la : (wrds a).length ≤ 15000) :
   Calls Tryz.prog 144 #[va] w (GivesW w a) := by
 obtain ⟨i0, hi, hz0, hz1, hz2⟩ := info_parts Tryz.infoWord
 have q0 : ∀ W, (binOp .eql 39 (.slice none 0 0) (.slice none 0 0)).run Tryz.prog W = .ok (.bool true) W := fun _ => by kernel_rfl
 have q1 : ∀ c N k W, (binOp .eql 39 (.slice (some ⟨c, 0, none⟩) N k) (.slice none 0 0)).run Tryz.prog W = .ok (.bool false) W := fun _ _ _ _ => by kernel_rfl
 rcases hA with ⟨rfl, rfl⟩ | ⟨c, ca, rfl, h1, h2, h3, h4⟩
 · go_enter Tryz.func144, Tryz.ntmps144
   go_wp2
   go_ret
   exact ⟨_, rfl, .inl ⟨rfl, rfl⟩, Below.refl _ _⟩
 · have H4 := Lib.hid h4
   obtain ⟨N, hN⟩ : ∃ N, (wrds a).length = N := ⟨_, rfl⟩
   have HN := Lib.hid hN
   rw [hN] at la h1
   rw [show (Value.slice (some ⟨c, 0, none⟩) (wrds a).length ca) = Value.slice (some ⟨c, 0, none⟩) N ca by rw [hN]]
   clear h4 hN h1
   go_enter Tryz.func144, Tryz.ntmps144
   have HL : Hid ((wcells (wrds a)).length = N) := Lib.hid (by rw [← HN.out]; simp [wcells])
   go_wp2_with (at_builtin; (refine wpList_append_own _ rfl _ _ 39 rfl w.heap.size 104 i0 (.int .u32 0) 1 4 Tryz.underlying39 hi hz0 hz1 hz2 rfl (by decide) _ _ _ rfl (World.ownsRow_made w #[] 0 (Nat.le_refl _) (by decide) rfl) ⟨c, 0, none⟩ N ca (wcells (wrds a)) rfl (by rw [HL.out, Nat.mul_one]) ?c2 ?c3 ?c4 ?c5 ?c6 ?_))
   case c2 =>
     intro j u hj
     have hjl : j < (wrds a).length := by
       rw [HN.out, ← HL.out]
       exact (List.getElem?_eq_some_iff.1 hj).1
     have hu : u = .int .u32 ((wrds a)[j] : Int) := by
       simp only [wcells, List.getElem?_map, List.getElem?_eq_getElem hjl, Option.map_some, Option.some.injEq] at hj
       exact hj.symm
     rw [hu, add_head]
     exact ((Below.refl w.heap.size w).alloc (Nat.le_refl _) _).cell (p := ⟨c, j, none⟩) h3 |>.trans (H4.out j hjl)
   case c3 =>
     intro u hu
     simp only [wcells, List.mem_map] at hu
     obtain ⟨x, _, rfl⟩ := hu
     rfl
   case c4 => unfold maxLen; omega
   case c5 => omega
   case c6 => simp
   intro v' w1 hown' hgrow _
   have R : w1.ownsRow w.heap.size 104 1 v' (wrds a).length (wcells (wrds a)) ∧ Below w.heap.size w w1 := by
     refine ⟨?_, ((Below.refl _ w).alloc (Nat.le_refl _) _).grown hgrow (by simp) (fun j hj => by simp [Value.ownBlock] at hj; omega)⟩
     rw [HN.out]; simpa using hown'
   have HR := Lib.hid R
   clear hown' hgrow R
   go_wp2
   go_ret
   exact givesW_of ⟨_, rfl, HR.out.1, HR.out.2⟩
def DivI (A D N k : Nat) (l q : List Nat) : Prop :=
 Wrds l ∧ Wrds q ∧ k ≤ q.length ∧ l.length = N + q.length ∧ wval (l.drop k) < D ∧ wval l + 4294967296 ^ k * D * wval (q.drop k) = A
def win (l : List Nat) (N i : Nat) : List Nat := (l.drop i).take (N + 1)
theorem win_split (l : List Nat) (N i : Nat) : l.take i ++ win l N i ++ l.drop (i + (N + 1)) = l := by
 rw [List.append_assoc, win, ← List.drop_drop, List.take_append_drop, List.take_append_drop]
theorem DivI.high {A D N k : Nat} {l q : List Nat} (h : DivI A D N k l q) (hD : D < 4294967296 ^ N) : wval (l.drop (k + N)) = 0 := by
 obtain ⟨_, _, h3, h4, h5, _⟩ := h
 have e := wval_split (l.drop k) N (by rw [List.length_drop]; omega)
 rw [List.drop_drop] at e
 rcases Nat.eq_zero_or_pos (wval (l.drop (k + N))) with h | h
 · exact h
 · have : 4294967296 ^ N * 1 ≤ 4294967296 ^ N * wval (l.drop (k + N)) := Nat.mul_le_mul_left _ h
   omega
theorem DivI.wind {A D N i : Nat} {l q : List Nat} (h : DivI A D N (i + 1) l q) (hD : D < 4294967296 ^ N) :
   (win l N i).length = N + 1 ∧ Wrds (win l N i) ∧ wval (win l N i) = wval (l.drop i) ∧ wval (win l N i) < 4294967296 * D := by
 have hh := h.high hD
 obtain ⟨h1, _, h3, h4, h5, _⟩ := h
 have e := wval_split (l.drop i) (N + 1) (by rw [List.length_drop]; omega)
 rw [List.drop_drop, show i + (N + 1) = i + 1 + N by omega, hh, Nat.mul_zero, Nat.add_zero] at e
 have e2 := wval_drop l i
 have h9 := h1.at? i
 refine ⟨by rw [win, List.length_take_of_le (by rw [List.length_drop]; omega)], (h1.drop i).take _, e.symm, ?_⟩
 show wval ((l.drop i).take (N + 1)) < _
 rw [← e, e2]
 have : 4294967296 * (wval (l.drop (i + 1)) + 1) ≤ 4294967296 * D := Nat.mul_le_mul_left _ h5
 omega
theorem DivI.next {A D N i : Nat} {l q x' : List Nat} (h : DivI A D N (i + 1) l q) (hD : D < 4294967296 ^ N) (hl : x'.length = N + 1) (hx : Wrds x') (hv : wval x' = wval (win l N i) % D) :
   DivI A D N i (l.take i ++ x' ++ l.drop (i + (N + 1))) (q.set i (wval (win l N i) / D)) := by
 have hh := h.high hD
 obtain ⟨w1, w2, w3, w4⟩ := h.wind hD
 obtain ⟨h1, h2, h3, h4, h5, h6⟩ := h
 have hDp : 0 < D := by omega
 have hti : (l.take i).length = i := List.length_take_of_le (by omega)
 have e0 : wval l = wval (l.take i) + 4294967296 ^ i * wval (l.drop i) := wval_split l i (by omega)
 rw [show i + (N + 1) = i + 1 + N by omega]
 have e1 : wval (x' ++ l.drop (i + 1 + N)) = wval x' := by rw [wval_append, hh, Nat.mul_zero, Nat.add_zero]
 refine ⟨?_, h2.set _ (Nat.div_lt_of_lt_mul (by rw [Nat.mul_comm]; exact w4)), by rw [List.length_set]; omega, ?_, ?_, ?_⟩
 · intro d hd
   simp only [List.mem_append] at hd
   rcases hd with (hd | hd) | hd
   · exact (h1.take i) d hd
   · exact hx d hd
   · exact (h1.drop _) d hd
 · simp only [List.length_append, List.length_drop, List.length_set, hti, hl]
   omega
 · rw [List.append_assoc, List.drop_append_of_le_length (by omega), List.drop_of_length_le (by omega), List.nil_append, e1, hv]
   exact Nat.mod_lt _ hDp
 · rw [List.append_assoc, wval_append, hti, e1, hv, wval_drop, List.getElem?_set_self (by omega), List.drop_set_of_lt (by omega), Option.getD_some]
   rw [e0, ← w3] at h6
   rw [← h6]
   have k := Nat.mod_add_div (wval (win l N i)) D
   generalize wval (win l N i) % D = r at k ⊢
   generalize wval (win l N i) / D = t at k ⊢
   rw [← k, Nat.pow_succ]
   generalize 4294967296 ^ i = P
   generalize wval (q.drop (i + 1)) = u
   have k1 : P * D * (t + 4294967296 * u) = P * (D * t) + P * 4294967296 * D * u := by
     rw [Nat.mul_add, Nat.mul_assoc, ← Nat.mul_assoc (P * D), Nat.mul_right_comm P D]
   rw [k1, Nat.mul_add]
   omega
theorem DivI.start {A D N M : Nat} {l q : List Nat} (h1 : Wrds l) (hA : wval l = A) (h4 : l.length = N + q.length) (hq : q = List.replicate M 0) (hlt : A < 4294967296 ^ q.length * D) : DivI A D N q.length l q := by
 refine ⟨h1, ?_, Nat.le_refl _, h4, ?_, ?_⟩
 · rw [hq]; intro x hx; rw [List.mem_replicate] at hx; omega
 · have e := wval_split l q.length (by omega)
   apply Nat.lt_of_mul_lt_mul_left (a := 4294967296 ^ q.length)
   omega
 · rw [wval_drop_end q _ (Nat.le_refl _), Nat.mul_zero, Nat.add_zero, hA]
theorem DivI.end {A D N : Nat} {l q : List Nat} (h : DivI A D N 0 l q) (hD : D < 4294967296 ^ N) : wval q = A / D ∧ wval (l.take N) = A % D := by
 have hh := h.high hD
 obtain ⟨_, _, _, h4, h5, h6⟩ := h
 have e := wval_split l N (by omega)
 rw [Nat.zero_add] at hh
 rw [hh, Nat.mul_zero, Nat.add_zero] at e
 rw [List.drop_zero] at h5
 rw [Nat.pow_zero, Nat.one_mul, List.drop_zero] at h6
 rw [← e, ← h6]
 refine ⟨?_, ?_⟩
 · rw [Nat.add_mul_div_left _ _ (by omega), Nat.div_eq_of_lt h5, Nat.zero_add]
 · rw [Nat.add_mul_mod_self_left, Nat.mod_eq_of_lt h5]
theorem norm_facts {b n m : Nat} (hl : (wrds b).length = n + 2) (h1 : 2147483648 ≤ wrd b (n + 1) * 2 ^ m) (h2 : wrd b (n + 1) * 2 ^ m < 4294967296) (hm : m ≤ 31) :
   (wrds (b * 2 ^ m)).length = n + 2 ∧ 2147483648 ≤ wrd (b * 2 ^ m) (n + 1) ∧ b * 2 ^ m < 4294967296 ^ (n + 2) := by
 have hp : 0 < 2 ^ m := Nat.pow_pos (by decide)
 have e := wval_take_succ (wrds b) (n + 1) (by omega)
 rw [← wrd_get (by omega), List.take_of_length_le (by omega), wval_digs] at e
 have lo : wval ((wrds b).take (n + 1)) < 4294967296 ^ (n + 1) := by
   have := wval_lt _ ((wrds_digs b).take (n + 1))
   rwa [List.length_take_of_le (by omega)] at this
 generalize wrd b (n + 1) = h at *
 generalize wval ((wrds b).take (n + 1)) = z at *
 have e32 : (4294967296 : Nat) = 2 ^ m * 2 ^ (32 - m) := by rw [← Nat.pow_add, show m + (32 - m) = 32 by omega]
 have h3 : (h + 1) * 2 ^ m ≤ 4294967296 := by
   rw [e32, Nat.mul_comm] at h2
   have h9 := Nat.lt_of_mul_lt_mul_left h2
   rw [e32, Nat.mul_comm]
   exact Nat.mul_le_mul_left _ h9
 have hup : b * 2 ^ m < 4294967296 ^ (n + 2) := by
   have k1 : b < 4294967296 ^ (n + 1) * (h + 1) := by rw [Nat.mul_add]; omega
   have k2 : b * 2 ^ m < 4294967296 ^ (n + 1) * (h + 1) * 2 ^ m := Nat.mul_lt_mul_of_pos_right k1 hp
   have k3 : 4294967296 ^ (n + 1) * ((h + 1) * 2 ^ m) ≤ 4294967296 ^ (n + 1) * 4294967296 := Nat.mul_le_mul_left _ h3
   rw [Nat.pow_succ 4294967296 (n + 1)]
   rw [Nat.mul_assoc] at k2
   omega
 have hlen : (wrds (b * 2 ^ m)).length = n + 2 := by
   have l1 := wrds_len hup
   have l2 := wrds_le_len (show b ≤ b * 2 ^ m from Nat.le_mul_of_pos_right b hp)
   omega
 refine ⟨hlen, ?_, hup⟩
 have f := wval_take_succ (wrds (b * 2 ^ m)) (n + 1) (by omega)
 rw [← wrd_get (by omega), List.take_of_length_le (by omega), wval_digs] at f
 have lo2 : wval ((wrds (b * 2 ^ m)).take (n + 1)) < 4294967296 ^ (n + 1) := by
   have := wval_lt _ ((wrds_digs (b * 2 ^ m)).take (n + 1))
   rwa [List.length_take_of_le (by omega)] at this
 have k4 : 4294967296 ^ (n + 1) * (h * 2 ^ m) ≤ b * 2 ^ m := by
   rw [← Nat.mul_assoc]
   exact Nat.mul_le_mul_right _ (by omega)
 have k5 : 4294967296 ^ (n + 1) * 2147483648 ≤ 4294967296 ^ (n + 1) * (h * 2 ^ m) := Nat.mul_le_mul_left _ h1
 have k6 : 4294967296 ^ (n + 1) * 2147483648 < 4294967296 ^ (n + 1) * (wrd (b * 2 ^ m) (n + 1) + 1) := by rw [Nat.mul_add]; omega
 have := Nat.lt_of_mul_lt_mul_left k6
 omega
end Go.Proofs.YtpdoddhieblooaaGreatDoor
namespace Go.Proofs.YtpdoddhieblooaaGreatDoor
open Go.RowKit

theorem wrds_two {b : Nat} (hb : 4294967296 ≤ b) : ∃ n, (wrds b).length = n + 2 ∧ 0 < wrd b (n + 1) := by
 have e : ∃ n, (wrds b).length = n + 2 := by
   rw [wrds_pos b (by omega), wrds_pos (b / 4294967296) (by omega)]
   exact ⟨_, rfl⟩
 obtain ⟨n, hn⟩ := e
 refine ⟨n, hn, ?_⟩
 have g := wval_ge (wrds b) (wrds_neat b) (by omega)
 rw [hn, wval_digs, show n + 2 - 1 = n + 1 by omega] at g
 have e := wval_take_succ (wrds b) (n + 1) (by omega)
 rw [← wrd_get (by omega), List.take_of_length_le (by omega), wval_digs] at e
 have lo : wval ((wrds b).take (n + 1)) < 4294967296 ^ (n + 1) := by
   have := wval_lt _ ((wrds_digs b).take (n + 1))
   rwa [List.length_take_of_le (by omega)] at this
 rcases Nat.eq_zero_or_pos (wrd b (n + 1)) with h | h
 · rw [h, Nat.mul_zero] at e; omega
 · exact h
theorem div_top {a b m n K : Nat} (_hl : (wrds b).length = n + 2) (hK : K + (n + 2) = (wrds a).length + 1) (ht : 2147483648 ≤ wrd (b * 2 ^ m) (n + 1)) (hD : (wrds (b * 2 ^ m)).length = n + 2) (hm : m ≤ 31) : a * 2 ^ m < 4294967296 ^ K * (b * 2 ^ m) := by
 have ha : a < 4294967296 ^ (wrds a).length := by
   have := wval_lt _ (wrds_digs a)
   rwa [wval_digs] at this
 have f := wval_take_succ (wrds (b * 2 ^ m)) (n + 1) (by omega)
 rw [← wrd_get (by omega), List.take_of_length_le (by omega), wval_digs] at f
 have k1 : 4294967296 ^ (n + 1) * 2147483648 ≤ b * 2 ^ m := by
   have : 4294967296 ^ (n + 1) * 2147483648 ≤ 4294967296 ^ (n + 1) * wrd (b * 2 ^ m) (n + 1) := Nat.mul_le_mul_left _ ht
   omega
 have hp : 2 ^ m ≤ 2147483648 := Nat.pow_le_pow_right (show 0 < 2 by decide) hm
 have k2 : a * 2 ^ m < 4294967296 ^ (wrds a).length * 2147483648 := by
   have h1 : a * 2 ^ m < 4294967296 ^ (wrds a).length * 2 ^ m := Nat.mul_lt_mul_of_pos_right ha (Nat.pow_pos (by decide))
   have h2 : 4294967296 ^ (wrds a).length * 2 ^ m ≤ 4294967296 ^ (wrds a).length * 2147483648 := Nat.mul_le_mul_left _ hp
   omega
 have k3 : 4294967296 ^ K * (4294967296 ^ (n + 1) * 2147483648) ≤ 4294967296 ^ K * (b * 2 ^ m) := Nat.mul_le_mul_left _ k1
 rw [← Nat.mul_assoc, ← Nat.pow_add, show K + (n + 1) = (wrds a).length by omega] at k3
 omega
theorem WArg.blk {B g N k n : Nat} {w : World} (h : WArg B w (.slice (some ⟨g, 0, none⟩) N k) n) {P : Nat → Prop} (hP : P g) : WArgP P w (.slice (some ⟨g, 0, none⟩) N k) n := by
 rcases h with ⟨h, _⟩ | ⟨b, cap, e, h1, h2, h3, h4⟩
 · cases h
 · have e1 : g = b := by injection e with e; injection e with e; injection e
   subst e1
   exact .inr ⟨g, cap, e, h1, hP, h3, h4⟩
theorem WArgP.but2 {b c : Nat} {w w' : World} {v : Value} {n : Nat} (h : WArgP (fun d => d ≠ b ∧ d ≠ c) w v n) (hb : But b c w w') : WArgP (fun d => d ≠ b) w' v n := by
 rcases h with h | ⟨d, cap, rfl, h1, h2, h3, h4⟩
 · exact .inl h
 · exact .inr ⟨d, cap, rfl, h1, h2.1, Nat.lt_of_lt_of_le h3 hb.size, fun j hj => (World.cell?_of_block (hb.block d h3 h2.1 h2.2)).trans (h4 j hj)⟩
theorem But.weak {b c : Nat} {w w' : World} (h : But b b w w') : But b c w w' := ⟨h.os, h.tape, h.output, h.size, fun k hk h1 _ => h.block k hk h1 h1⟩
theorem taken_at {A D n i bl bq g K M cq : Nat} {l q : List Nat} {W0 wr : World} (hI : DivI A D (n + 2) (i + 1) l q) (hD : (wrds D).length = n + 2) (ht : 2147483648 ≤ wrd D (n + 1)) (hD2 : D < 4294967296 ^ (n + 2)) (hn : n ≤ 15000)
   (hV : WArg 0 W0 (.slice (some ⟨g, 0, none⟩) (n + 2) cq) D) (g1 : g ≠ bl) (g2 : g ≠ bq) (hne : bq ≠ bl) (hrl : Row wr bl (wrow l) 104) (hrq : Row wr bq (wrow q) 104) (hB : But bl bq W0 wr) (hK : q.length = K) :
   Calls Tryz.prog 149 #[.slice (some ⟨bl, i, none⟩) (i + (n + 2) + 1 - i) M, .slice (some ⟨g, 0, none⟩) (n + 2) cq] wr fun e w' => ∃ (t : Nat) (l' : List Nat), e = .returned (.int .u32 (t : Int)) ∧ DivI A D (n + 2) i l' (q.set i t) ∧ Row w' bl (wrow l') 104 ∧ Row w' bq (wrow q) 104 ∧ But bl bq W0 w' := by
 obtain ⟨w1, w2, w3, w4⟩ := hI.wind hD2
 have hi : i < q.length := hI.2.2.1
 have hll := hI.2.2.2.1
 have hti : (l.take i).length = i := List.length_take_of_le (by omega)
 have h := taken_w (b := bl) (D := D) (n := n) (cap := M) (pre := l.take i) (x := win l (n + 2) i) (post := l.drop (i + (n + 2 + 1))) (vd := .slice (some ⟨g, 0, none⟩) (n + 2) cq) (w := wr) (by rw [win_split]; exact hrl) w2 ((hV.blk (P := fun d => d ≠ bl ∧ d ≠ bq) ⟨g1, g2⟩).but2 hB) w1 hD ht w4 hn
 rw [hti, w1] at h
 rw [show i + (n + 2) + 1 - i = n + 2 + 1 by omega]
 refine h.mono ?_
 rintro e w' ⟨x', rfl, x1, x2, x3, x4, x5⟩
 exact ⟨_, _, rfl, hI.next hD2 x1 x2 x3, x4, x5.row hrq hne hne, hB.trans x5.weak⟩
set_option maxHeartbeats 4000000 in
set_option maxRecDepth 100000 in
theorem divided_n {a b : Nat} (hb : 4294967296 ≤ b) (hle : b ≤ a) (la : (wrds a).length ≤ 10000) : DivOK a b := by
 intro B C va vb w hA hB
 obtain ⟨n, hn, htop⟩ := wrds_two hb
 obtain ⟨m, m1, m2, m3, hlz⟩ := lz_d htop (wrd_lt b (n + 1))
 obtain ⟨d1, d2, d3⟩ := norm_facts hn m2 m3 m1
 have lle := wrds_le_len hle
 obtain ⟨K, hK⟩ : ∃ K, K + (n + 2) = (wrds a).length + 1 := ⟨(wrds a).length - n - 1, by omega⟩
 have dt := div_top hn hK d2 d1 m1
 obtain ⟨pa, ka, rfl⟩ := hA.slice
 obtain ⟨pb, kb, rfl⟩ := hB.slice
 obtain ⟨bb, rfl, hbb, hc0⟩ := hB.at (j := n + 1) (by omega)
 have HCM := Lib.hid (compare_d hA hB (by omega) (by omega))
 have hcz : cmpZ a b = 0 ∨ cmpZ a b = 1 := by
   by_cases h : a = b
   · exact .inl (cmpZ_eq (by omega))
   · exact .inr (cmpZ_gt (by omega))
 have hcz' : ¬ cmpZ a b < 0 := by rcases hcz with h | h <;> rw [h] <;> decide
 obtain ⟨cz, hcze⟩ : ∃ cz, cmpZ a b = cz := ⟨_, rfl⟩
 rw [hcze] at HCM hcz'
 obtain ⟨h, hh⟩ : ∃ h, wrd b (n + 1) = h := ⟨_, rfl⟩
 rw [hh] at hc0 hlz
 have HLZ := Lib.hid hlz
 have HSB : Hid (∀ W, Below w.heap.size w W → _) := Lib.hid fun W (hW : Below w.heap.size w W) => shifted_w (hB.keep hW (Nat.le_refl _)) (show (wrds b).length ≤ 15000 by omega) m1
 have HSA : Hid (∀ W, Below w.heap.size w W → _) := Lib.hid fun W (hW : Below w.heap.size w W) => shifted_w (hA.keep hW (Nat.le_refl _)) (show (wrds a).length ≤ 15000 by omega) m1
 obtain ⟨D, hD⟩ : ∃ D, b * 2 ^ m = D := ⟨_, rfl⟩
 have HDe := Lib.hid hD
 have HD1 := Lib.hid d1
 have HD2 := Lib.hid d2
 have HD3 := Lib.hid d3
 have HDT := Lib.hid dt
 rw [hD] at HD1 HD2 HD3 HDT HSB
 obtain ⟨N, hN⟩ : ∃ N, n + 2 = N := ⟨_, rfl⟩
 obtain ⟨La, hLa⟩ : ∃ La, (wrds a).length = La := ⟨_, rfl⟩
 have HLa := Lib.hid hLa
 have HN := Lib.hid hN
 have HLB := Lib.hid hn
 have wN1 : IntKind.i64.wrap ((N : Int) - 1) = ((n + 1 : Nat) : Int) := by rw [show (N : Int) - 1 = ((n + 1 : Nat) : Int) by omega]; exact IntWalk.i64_in _ (by omega)
 have bN1 : ((n + 1 : Nat) : Int) < (N : Int) := by omega
 have N1 : ¬ (N : Int) = 1 := by omega
 have N1' : ((N : Int) == 1) = false := beq_eq_false_iff_ne.2 N1
 obtain ⟨M, hM⟩ : ∃ M, La + 1 = M := ⟨_, rfl⟩
 have wK : IntKind.i64.wrap ((M : Int) - (N : Int)) = (K : Int) := by rw [show (M : Int) - (N : Int) = (K : Int) by omega]; exact IntWalk.i64_in _ (by omega)
 have HKM : Hid (K + N = M) := Lib.hid (by omega)
 have hKb : K ≤ 10001 := by omega
 have hNb : N ≤ 10001 := by omega
 have hmk := run_make_row' 39 104 (.int .u32 0) 4 Tryz.underlying39 Tryz.infoWord rfl .i64 .i64 K (by omega) (by omega)
 rw [wmade] at hmk
 rw [hn, hN, hLa] at HCM ⊢
 rw [hn, hN] at HSB
 rw [hLa, hM] at HSA
 clear hA hB hn htop hlz d1 d2 d3 dt hcz hcze hh hD hN hLa hM hK lle la hb hle m2 m3
 go_enter Tryz.func116, Tryz.ntmps116
 go_wp2_with (first
   | (go_at_call 58; refine HCM.out.mono ?_; rintro e w1 ⟨rfl, hb1⟩; have c1 := (hb1.cell (p := ⟨bb, n + 1, none⟩) (Nat.lt_of_lt_of_le hbb (by first | exact Nat.le_refl _ | omega))).trans hc0)
   | (go_at_call 147; refine (HLZ.out _).mono ?_; rintro e w2 ⟨rfl, rfl⟩))
 go_wp2_with (go_at_call 148; (with_reducible refine (HSB.out _ hb1).mono ?_); rintro e w3 ⟨l1, rfl, L1, L2, L3, L4, hb3⟩)
 have HDV : Hid (WArg w1.heap.size w3 (.slice (some ⟨w1.heap.size, 0, none⟩) N (N + 1)) D) := Lib.hid (by
   have := WArg.of_row (cap := N + 1) L4 (Nat.le_refl _) L2 (by omega)
   rw [L3, HD1.out, HN.out] at this; exact this)
 have HT1 : Hid (Calls Tryz.prog 115 #[.slice (some ⟨w1.heap.size, 0, none⟩) (N + 1) (N + 1)] w3 fun e w' => e = .returned (.slice (some ⟨w1.heap.size, 0, none⟩) N (N + 1)) ∧ w3 = w') := Lib.hid (by
   have := trim_row (cap := N + 1) L4 L2 (by omega) (by omega)
   rw [L3, HD1.out, HN.out, L1] at this; exact this)
 have HB3 := Lib.hid (bl_then hb1 hb3)
 have hs3 := hb3.size
 have lt3 := L4.lt
 clear L1 L2 L3 L4 hb3
 go_wp2_with (first
   | (go_at_call 115; refine HT1.out.mono ?_; rintro e w4 ⟨rfl, rfl⟩)
   | (go_at_call 148; (with_reducible refine (HSA.out _ HB3.out).mono ?_); rintro e w5 ⟨l0, rfl, L1, L2, L3, L4, hb5⟩))
 have HDV5 := Lib.hid (HDV.out.keep hb5 (Nat.le_refl _))
 have HB5 := Lib.hid (bl_then HB3.out hb5)
 have RQ := Row.new w5 (wrow (List.replicate K 0)) 104
 have RL := L4.alloc (.cells (wrow (List.replicate K 0)) 104)
 have HBA : Hid (Below w.heap.size w (w5.alloc (.cells (wrow (List.replicate K 0)) 104))) := Lib.hid (HB5.out.alloc HB5.out.size _)
 have HDA : Hid (WArg w1.heap.size (w5.alloc (.cells (wrow (List.replicate K 0)) 104)) (.slice (some ⟨w1.heap.size, 0, none⟩) N (N + 1)) D) := Lib.hid (HDV5.out.keep ((Below.refl _ _).alloc (Nat.le_refl _) _) (Nat.le_refl _))
 have HSZ : Hid (w5.heap.size < (w5.alloc (.cells (wrow (List.replicate K 0)) 104)).heap.size) := Lib.hid RQ.lt
 have hs5 := L4.lt
 have hs1 := hb1.size
 have HDI : Hid (DivI (a * 2 ^ m) D N K l0 (List.replicate K 0)) := Lib.hid (by
   have := DivI.start (N := N) (M := K) (q := List.replicate K 0) L2 L3 (by rw [List.length_replicate, L1]; have := HKM.out; omega) rfl (D := D) (by rw [List.length_replicate]; exact HDT.out)
   rwa [List.length_replicate] at this)
 have HKK : Hid ((List.replicate K 0 : List Nat).length = K) := Lib.hid List.length_replicate
 have HRQ := Lib.hid RQ
 have HRL := Lib.hid RL
 clear L1 L2 L3 L4 RQ RL hb5 hb1 c1
 go_wp2
 generalize List.replicate K 0 = q0 at *
 generalize hW0 : w5.alloc (.cells (wrow q0) 104) = W0 at *
 clear hW0
 go_loopw [11] (fun iv wr => ∃ (k : Nat) (l q : List Nat), iv = .int .i64 ((k : Int) - 1) ∧ q.length = K ∧ DivI (a * 2 ^ m) D N k l q ∧ Row wr w3.heap.size (wrow l) 104 ∧ Row wr w5.heap.size (wrow q) 104 ∧ But w3.heap.size w5.heap.size W0 wr) (fun iv _ => (intOf iv + 1).toNat)
 case atStart => exact ⟨K, l0, q0, rfl, HKK.out, HDI.out, HRL.out, HRQ.out, But.refl _ _ _⟩
 case round =>
   obtain ⟨k, l, q, rfl, hql, hI, hrl, hrq, hBt⟩ := hrel
   by_cases hk0 : k = 0
   · subst hk0
     have hNn := HN.out
     obtain ⟨E1, E2⟩ := hI.end (by rw [← HN.out]; exact HD3.out)
     rw [← HDe.out, Nat.mul_div_mul_right _ _ (Nat.pow_pos (by decide))] at E1
     rw [← HDe.out, Nat.mul_mod_mul_right] at E2
     have hD2 := hI.2.1
     have hD1 := hI.1
     have hll := hI.2.2.2.1
     have hKM := HKM.out
     have hwl : (l.take N).length = N := List.length_take_of_le (by omega)
     have HTQ : Hid (∀ W, Below wr.heap.size wr W → Calls Tryz.prog 115 #[.slice (some ⟨w5.heap.size, 0, none⟩) K K] W fun e w' => e = .returned (.slice (some ⟨w5.heap.size, 0, none⟩) (wrds (a / b)).length K) ∧ W = w') := Lib.hid fun W hW => by
       have := trim_row (cap := K) (hrq.keep hW) hD2 (by omega) (by omega)
       rw [E1, hql] at this; exact this
     have HUN : Hid (∀ W, Below wr.heap.size wr W → Calls Tryz.prog 150 #[.slice (some ⟨w3.heap.size, 0, none⟩) N M, .int .i64 (m : Int)] W (GivesW W (a % b))) := Lib.hid fun W hW => by
       have := unshifted_w (b := w3.heap.size) (m := m) (cap := M) (x := l.take N) (w := W) (Nat.lt_of_lt_of_le hrl.lt hW.size) (fun j hj => by
         rw [(hrl.keep hW).wat (j := j) (by omega), List.getElem_take]) (hD1.take N) (by omega) (by omega) m1
       rw [E2, Nat.mul_div_cancel _ (Nat.pow_pos (by decide)), hwl] at this; exact this
     have HWQ : Hid (∀ W, Below wr.heap.size wr W → WArg w.heap.size W (.slice (some ⟨w5.heap.size, 0, none⟩) (wrds (a / b)).length K) (a / b)) := Lib.hid fun W hW => by
       have := WArg.of_row (B := w.heap.size) (cap := K) (hrq.keep hW) (by omega) hD2 (by omega)
       rw [E1] at this; exact this
     have HBW : Hid (Below w.heap.size w wr) := Lib.hid (hBt.below HBA.out (by omega) (by omega) (by have := HBA.out.size; exact this))
     obtain ⟨qn, hqn⟩ : ∃ qn, (wrds (a / b)).length = qn := ⟨_, rfl⟩
     obtain ⟨r, hr⟩ : ∃ r, a % b = r := ⟨_, rfl⟩
     have HR := Lib.hid hr
     have HQN := Lib.hid hqn
     rw [hr] at HUN
     rw [hqn] at HTQ HWQ
     have b1 : (N : Int) ≤ (M : Int) := by omega
     clear hI hrl hrq hBt hql E1 E2 hD2 hD1 hll hKM hwl hr hqn hNn
     go_wp2
     go_region_with (first
       | (go_at_call 115; (with_reducible refine (HTQ.out _ ?_).mono ?_); (first | exact (Below.refl _ _).drew | (with_reducible assumption) | trace_state); rintro e w7 ⟨rfl, rfl⟩)
       | (go_at_call 150; (with_reducible refine (HUN.out _ ?_).mono ?_); (first | exact (Below.refl _ _).drew | (with_reducible assumption) | trace_state); rintro e w8 ⟨v8, rfl, W8, hb8⟩; have W8' := Lib.hid W8; obtain ⟨p8, k8, rfl⟩ := W8.slice; clear W8))
     go_wp2_with fail
     refine bodyPost_ret (v := .tuple #[.slice (some ⟨w5.heap.size, 0, none⟩) qn K, .slice p8 (wrds r).length k8]) (by simp [results, Tryz.results116, go_sem]) rfl ⟨_, _, rfl, ?_, ?_, ?_⟩
     · exact HWQ.out _ (bl_then (Below.refl _ wr).drew hb8)
     · rw [HR.out]; exact W8'.out.base HBW.out.size
     · exact bl_then HBW.out (bl_then (Below.refl _ wr).drew hb8)
   · obtain ⟨i, rfl⟩ : ∃ i, k = i + 1 := ⟨k - 1, by omega⟩
     have hiK : i < K := by have := hI.2.2.1; omega
     rw [show ((i + 1 : Nat) : Int) - 1 = (i : Int) by omega]
     have hKM := HKM.out
     have i1 : (i : Int) < (K : Int) := by omega
     have wA : IntKind.i64.wrap ((i : Int) + (N : Int)) = ((i + N : Nat) : Int) := by rw [← Int.natCast_add]; exact IntWalk.i64_in _ (by omega)
     have wB : IntKind.i64.wrap (((i + N : Nat) : Int) + 1) = ((i + N + 1 : Nat) : Int) := by rw [show ((i + N : Nat) : Int) + 1 = ((i + N + 1 : Nat) : Int) by omega]; exact IntWalk.i64_in _ (by omega)
     have hS1 : (i : Int) ≤ ((i + N + 1 : Nat) : Int) := by omega
     have hS2 : ((i + N + 1 : Nat) : Int) ≤ (M : Int) := by omega
     have HTK : Hid (Calls Tryz.prog 149 #[.slice (some ⟨w3.heap.size, i, none⟩) (i + N + 1 - i) (M - i), .slice (some ⟨w1.heap.size, 0, none⟩) N (N + 1)] wr fun e w' => ∃ (t : Nat) (l' : List Nat), e = .returned (.int .u32 (t : Int)) ∧ DivI (a * 2 ^ m) D N i l' (q.set i t) ∧ Row w' w3.heap.size (wrow l') 104 ∧ Row w' w5.heap.size (wrow q) 104 ∧ But w3.heap.size w5.heap.size W0 w') := Lib.hid (by
       have hN := HN.out
       subst hN
       exact taken_at hI HD1.out HD2.out HD3.out (by omega) (HDA.out.base (Nat.zero_le _)) (by omega) (by omega) (by omega) hrl hrq hBt hql)
     have HQL := Lib.hid hql
     clear hI hrl hrq hBt hql
     go_wp2_with (go_at_call 149; refine HTK.out.mono ?_; rintro e w6 ⟨t, l', rfl, T1, T2, T3, T4⟩; have hcq := T3.wat (show i < q.length by rw [HQL.out]; exact hiK); have hfq := T3.free i)
     case roundEnd => exact ⟨⟨i, l', q.set i t, rfl, by rw [List.length_set]; exact HQL.out, T1, (T2.set (a := ⟨w5.heap.size, i, none⟩) (by simp only [ne_eq]; omega)), T3.wput i t, T4.setC i _⟩, by simp [intOf]⟩
set_option maxHeartbeats 2000000 in
set_option maxRecDepth 100000 in
theorem divided_0 {a b : Nat} (hlt : a < b) (la : (wrds a).length ≤ 10000) (lb : (wrds b).length ≤ 10000) : DivOK a b := by
 intro B C va vb w hA hB
 obtain ⟨pa, ka, rfl⟩ := hA.slice
 obtain ⟨pb, kb, rfl⟩ := hB.slice
 have HCM := Lib.hid (compare_d hA hB (by omega) (by omega))
 have HCL : Hid (∀ W, Below w.heap.size w W → Calls Tryz.prog 144 #[.slice pa (wrds a).length ka] W (GivesW W a)) := Lib.hid fun W hW => clone_d (hA.keep hW (Nat.le_refl _)) (by omega)
 have hcz : cmpZ a b = -1 := cmpZ_lt (by omega)
 rw [hcz] at HCM
 have HQ : Hid (a / b = 0) := Lib.hid (Nat.div_eq_of_lt hlt)
 have HM : Hid (a % b = a) := Lib.hid (Nat.mod_eq_of_lt hlt)
 clear hA hB hcz hlt
 go_enter Tryz.func116, Tryz.ntmps116
 go_wp2_with (first
   | (go_at_call 58; refine HCM.out.mono ?_; rintro e w1 ⟨rfl, hb1⟩)
   | (go_at_call 144; refine (HCL.out _ hb1).mono ?_; rintro e w2 ⟨v2, rfl, W2, hb2⟩; have W2' := Lib.hid W2; obtain ⟨p2, k2, rfl⟩ := W2.slice; clear W2))
 refine bodyPost_ret (v := .tuple #[.slice none 0 0, .slice p2 (wrds a).length k2]) (by simp [results, Tryz.results116, go_sem]) rfl ⟨_, _, rfl, ?_, ?_, ?_⟩
 · rw [HQ.out]; exact .inl ⟨rfl, rfl⟩
 · rw [HM.out]; exact W2'.out.base hb1.size
 · exact bl_then hb1 hb2
theorem div_any {a b : Nat} (h0 : 0 < b) (la : (wrds a).length ≤ 10000) (lb : (wrds b).length ≤ 10000) : DivOK a b := by
 rcases Nat.lt_or_ge a b with h | h
 · exact divided_0 h la lb
 · rcases Nat.lt_or_ge b 4294967296 with h1 | h1
   · exact divided_1 h0 h1 h la
   · exact divided_n h1 h la
end Go.Proofs.YtpdoddhieblooaaGreatDoor
