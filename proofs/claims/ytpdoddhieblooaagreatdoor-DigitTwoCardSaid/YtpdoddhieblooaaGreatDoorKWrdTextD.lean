/- slices.Reverse of bytes. limbs.text: the decimal digits, the highest one first. digit.textFixed: a long number with its point. digit.textFixed. -/
import Derived.Test.YtpdoddhieblooaaGreatDoorKWrdCol
import Derived.Test.YtpdoddhieblooaaGreatDoorKWrdMid
import Derived.Test.YtpdoddhieblooaaGreatDoorKShelfStr
import Derived.Test.YtpdoddhieblooaaGreatDoorKBit0
import Derived.Test.YtpdoddhieblooaaGreatDoorKWrdXs
import Derived.RegionTactic
import Derived.ChangeAlike
import Derived.Laws.IdiomStrings
import Derived.Laws.Concat
import Derived.Deep.RegionHeld3
namespace Go.Proofs.YtpdoddhieblooaaGreatDoor
open Go.RowKit

def RevR (g n i : Nat) (f : Nat → Int) (w wr : World) : Prop :=
 ∃ cur : Array Value, Row wr g cur 5 ∧ (∀ k, k < n → cur[k]? = some (.int .u8 (if k < i ∨ n - 1 - i < k then f (n - 1 - k) else f k))) ∧ Below g w wr
theorem RevR.end {g n i : Nat} {f : Nat → Int} {w wr : World} (h : RevR g n i f w wr) (hi : ¬ i + i + 1 < n) : ∃ cur : Array Value, Row wr g cur 5 ∧ (∀ k, k < n → cur[k]? = some (.int .u8 (f (n - 1 - k)))) ∧ Below g w wr := by
 obtain ⟨cur, h1, h2, h3⟩ := h
 refine ⟨cur, h1, fun k hk => ?_, h3⟩
 rw [h2 k hk]
 by_cases hc : k < i ∨ n - 1 - i < k
 · rw [if_pos hc]
 · rw [if_neg hc, show n - 1 - k = k by omega]
theorem RevR.next {g n i j : Nat} {f : Nat → Int} {w wr : World} (h : RevR g n i f w wr) (hi : i + i + 1 < n) (hj : j = n - 1 - i) : RevR g n (i + 1) f w (((wr.setCell ⟨g, i, none⟩ (.int .u8 (f j))).setCell ⟨g, j, none⟩ (.int .u8 (f i))).drew) := by
 obtain ⟨cur, h1, h2, h3⟩ := h
 have s1 : i < cur.size := by
   have := h2 i (by omega)
   rw [Array.getElem?_eq_some_iff] at this
   exact this.1
 have s2 : j < cur.size := by
   have := h2 j (by omega)
   rw [Array.getElem?_eq_some_iff] at this
   exact this.1
 refine ⟨(cur.setIfInBounds i (.int .u8 (f j))).setIfInBounds j (.int .u8 (f i)), ((h1.putv i _).putv j _).drewN 1, fun k hk => ?_, ((h3.setCell (Nat.le_refl _) _).setCell (Nat.le_refl _) _).drew⟩
 by_cases e2 : k = j
 · subst e2
   rw [Array.getElem?_setIfInBounds_self_of_lt (by simpa using s2), if_pos (by omega), show n - 1 - k = i by omega]
 · rw [Array.getElem?_setIfInBounds_ne (by omega)]
   by_cases e1 : k = i
   · subst e1
     rw [Array.getElem?_setIfInBounds_self_of_lt s1, if_pos (by omega), show n - 1 - k = j by omega]
   · rw [Array.getElem?_setIfInBounds_ne (by omega), h2 k hk]
     by_cases hc : k < i ∨ n - 1 - i < k
     · rw [if_pos hc, if_pos (by omega)]
     · rw [if_neg hc, if_neg (by omega)]
set_option maxHeartbeats 2000000 in
set_option maxRecDepth 100000 in
theorem reverse_d (g cap n : Nat) (f : Nat → Int) (cur : Array Value) (w : World) (hR : Row w g cur 5) (hf : ∀ k, k < n → cur[k]? = some (.int .u8 (f k))) (hn : n ≤ 1000000) :
   Calls Tryz.prog 155 #[.slice (some ⟨g, 0, none⟩) n cap] w fun e w' => e = .returned (.tuple #[]) ∧ ∃ cur : Array Value, Row w' g cur 5 ∧ (∀ k, k < n → cur[k]? = some (.int .u8 (f (n - 1 - k)))) ∧ Below g w w' := by
 have H0 : Hid (RevR g n 0 f w w) := Lib.hid ⟨cur, hR, fun k hk => by rw [hf k hk, if_neg (by omega)], Below.refl _ _⟩
 clear hR hf
 have hw0 : IntKind.i64.wrap ((n : Int) - 1) = (n : Int) - 1 := IntWalk.i64_in _ (by omega)
 go_enter Tryz.func155, Tryz.ntmps155
 go_wp2
 go_loopw [2, 3] (fun a b wr => ∃ i : Nat, a = .int .i64 (i : Int) ∧ b = .int .i64 ((n : Int) - 1 - i) ∧ i ≤ n ∧ RevR g n i f w wr) (fun a _ _ => n - (intOf a).toNat)
 case atStart => exact ⟨0, rfl, by simp, Nat.zero_le _, H0.out⟩
 case round =>
   obtain ⟨i, rfl, rfl, hi, hR⟩ := hrel
   by_cases hc : i + i + 1 < n
   · obtain ⟨j, hj⟩ : ∃ j, j = n - 1 - i := ⟨_, rfl⟩
     have HN := Lib.hid (hR.next hc hj)
     obtain ⟨cur2, h1, h2, h3⟩ := hR
     have c1 := (h1.at i).trans (h2 i (by omega))
     have c2 := (h1.at j).trans (h2 j (by omega))
     rw [if_neg (by omega)] at c1 c2
     have f1 := h1.free i
     have f2 := h1.free j
     have ej : (n : Int) - 1 - i = j := by omega
     have hlt : (i : Int) < j := by omega
     have i1 : (i : Int) < n := by omega
     have i2 : (j : Int) < n := by omega
     have ne1 : ¬ i = j := by omega
     have ne2 : ¬ j = i := by omega
     have HJ : Hid ((j : Int) - 1 = (n : Int) - 1 - ((i + 1 : Nat) : Int)) := Lib.hid (by omega)
     have hj1 : 0 < j := by omega
     rw [ej]
     clear h1 h2 h3 hj ej
     go_wp2
     go_region
     go_wp2
     case roundEnd => exact ⟨⟨i + 1, by go_num, by rw [← HJ.out], by omega, HN.out⟩, by simp [intOf]; omega⟩
   · have HE := Lib.hid (hR.end hc)
     have hge : ¬ (i : Int) < (n : Int) - 1 - i := by omega
     have hge2 : (n : Int) - 1 - i ≤ i := by omega
     clear hR
     go_wp2
     go_end0
     exact ⟨rfl, HE.out⟩
end Go.Proofs.YtpdoddhieblooaaGreatDoor
namespace Go.Proofs.YtpdoddhieblooaaGreatDoor
open Go.RowKit

theorem collect_d {a Bn : Nat} {v : Value} {w : World} (hB : Bn < w.heap.size) (hc : w.cell? ⟨Bn, 0, none⟩ = some v) (hA : WArg 0 w v a) (la : (wrds a).length ≤ 10000) (ld : (digs a).length ≤ 1000000) :
   Calls Tryz.prog 154 #[.func (.func 174) #[] #[.pointer (some ⟨Bn, 0, none⟩)]] w fun e w' => ∃ u, e = .returned u ∧ w'.ownsRow w.heap.size 5 1 u (digs a).length ((digs a).map encB) ∧ Below w.heap.size w w' := by
 have HA := Lib.hid (appendSeq_d hB hc hA la ld)
 clear hA hc
 go_enter Tryz.func154, Tryz.ntmps154
 go_wp2_with (go_at_call 175; refine HA.out.mono ?_; rintro e w2 ⟨u, rfl, hu, hb⟩)
 go_ret
 exact ⟨_, rfl, hu, hb⟩
def decT (a : Nat) : List UInt8 := (digs a).reverse.map fun d => UInt8.ofNat (48 + d)
theorem decT_length (a : Nat) : (decT a).length = (digs a).length := by simp [decT]
theorem decT_at (a k : Nat) (h : k < (digs a).length) : ((decT a)[k]'(by rw [decT_length]; exact h)).toNat = 48 + (digs a)[(digs a).length - 1 - k]'(by omega) := by
 unfold decT
 rw [List.getElem_map, List.getElem_reverse]
 have := digs_digs a _ (List.getElem_mem (show (digs a).length - 1 - k < (digs a).length by omega))
 rw [UInt8.toNat_ofNat']
 omega
theorem conv_nil (W : World) : (convert 141 9 (.slice none 0 0)).run Tryz.prog W = .ok (.string (bsz [])) W := by kernel_rfl
theorem reverse_0 (w : World) : Calls Tryz.prog 155 #[.slice none 0 0] w fun e w' => e = .returned (.tuple #[]) ∧ w' = w := by
 go_enter Tryz.func155, Tryz.ntmps155
 go_wp2
 go_loopw [2, 3] (fun a b wr => a = .int .i64 0 ∧ b = .int .i64 (-1) ∧ wr = w) (fun _ _ _ => 0)
 case atStart => exact ⟨rfl, rfl, rfl⟩
 case round =>
   obtain ⟨rfl, rfl, rfl⟩ := hrel
   go_wp2
   go_end0
   exact ⟨rfl, rfl⟩
set_option maxHeartbeats 2000000 in
set_option maxRecDepth 100000 in
theorem text_d {B a : Nat} {v : Value} {w : World} (hA : WArg B w v a) (la : (wrds a).length ≤ 10000) (ld : (digs a).length ≤ 1000000) :
   Calls Tryz.prog 135 #[v] w fun e w' => e = .returned (.string (bsz (decT a))) ∧ Below w.heap.size w w' := by
 obtain ⟨pa, ka, rfl⟩ := hA.slice
 have HA := Lib.hid (hA.base (Nat.zero_le _))
 have HL := Lib.hid la
 have HD := Lib.hid ld
 have RB := Row.new w #[.slice pa (wrds a).length ka] 39
 have HC : Hid (∀ W, W = w.alloc (.cells #[.slice pa (wrds a).length ka] 39) → Calls Tryz.prog 154 #[.func (.func 174) #[] #[.pointer (some ⟨w.heap.size, 0, none⟩)]] W fun e w' => ∃ u, e = .returned u ∧ w'.ownsRow W.heap.size 5 1 u (digs a).length ((digs a).map encB) ∧ Below W.heap.size W w') := Lib.hid fun W hW => by
   subst hW
   exact collect_d (by simp) RB.one (HA.out.keep ((Below.refl _ w).alloc (Nat.le_refl _) _) (Nat.le_refl _)) HL.out HD.out
 obtain ⟨n, hn⟩ : ∃ n, (digs a).length = n := ⟨_, rfl⟩
 clear hA la ld RB
 rw [hn] at HC
 have HN := Lib.hid hn
 have HCV : Hid (∀ (g cap : Nat) (cur : Array Value) (W : World), Row W g cur 5 → (∀ k, k < n → cur[k]? = some (.int .u8 (((48 + ((digs a)[n - 1 - k]?).getD 0 : Nat) : Int)))) → (convert 141 9 (.slice (some ⟨g, 0, none⟩) n cap)).run Tryz.prog W = .ok (.string (bsz (decT a))) W) := Lib.hid fun g cap cur W hR hf => by
   have hl := decT_length a
   rw [HN.out] at hl
   have := run_convert_bytes_back (P := Tryz.prog) W 141 9 5 ⟨g, 0, none⟩ cap (decT a) Tryz.underlying141 (by kernel_rfl) (by kernel_rfl) (fun k hk => by
     rw [hl] at hk
     have e : (⟨g, 0, none⟩ : Addr).add k = ⟨g, k, none⟩ := by cases k <;> simp [Addr.add]
     rw [e, hR.at k, hf k hk, decT_at a k (by rw [HN.out]; exact hk), List.getElem?_eq_getElem (by rw [HN.out]; omega)]
     simp only [HN.out]
     rfl)
   rwa [hl] at this
 have HRV : Hid (∀ (g cap : Nat) (cur : Array Value) (W : World), Row W g cur 5 → (∀ k, k < n → cur[k]? = some (.int .u8 (((48 + ((digs a)[k]?).getD 0 : Nat) : Int)))) → Calls Tryz.prog 155 #[.slice (some ⟨g, 0, none⟩) n cap] W fun e w' => e = .returned (.tuple #[]) ∧ ∃ cur : Array Value, Row w' g cur 5 ∧ (∀ k, k < n → cur[k]? = some (.int .u8 (((48 + ((digs a)[n - 1 - k]?).getD 0 : Nat) : Int)))) ∧ Below g W w') := Lib.hid fun g cap cur W hR hf =>
   reverse_d g cap n (fun k => ((48 + ((digs a)[k]?).getD 0 : Nat) : Int)) cur W hR hf (by rw [← HN.out]; exact HD.out)
 have HR0 : Hid (n = 0 → ∀ W, Calls Tryz.prog 155 #[.slice none 0 0] W fun e w' => e = .returned (.tuple #[]) ∧ w' = W) := Lib.hid fun _ W => reverse_0 W
 have HC0 : Hid (n = 0 → ∀ W, (convert 141 9 (.slice none 0 0)).run Tryz.prog W = .ok (.string (bsz (decT a))) W) := Lib.hid fun h W => by
   have hd : digs a = [] := List.length_eq_zero_iff.1 (by rw [HN.out]; exact h)
   have HT : decT a = [] := by unfold decT; rw [hd]; rfl
   rw [HT]; exact conv_nil W
 have HO : Hid (∀ (W : World) (B : Nat) (u : Value), W.ownsRow B 5 1 u n ((digs a).map encB) → (u = .slice none 0 0 ∧ n = 0) ∨ ∃ g cap cur, u = .slice (some ⟨g, 0, none⟩) n cap ∧ B ≤ g ∧ Row W g cur 5 ∧ ∀ k, k < n → cur[k]? = some (.int .u8 (((48 + ((digs a)[k]?).getD 0 : Nat) : Int)))) := Lib.hid fun W B u hu => by
   rcases hu.2 with ⟨h1, h2⟩ | ⟨g, cap, cur, h1, h2, h3, h4, h5, h6, h7⟩
   · exact .inl ⟨h1, h2⟩
   · refine .inr ⟨g, cap, cur, h1, h2, h3, fun k hk => ?_⟩
     have e : (cur.toList.take (n * 1))[k]? = ((digs a).map encB)[k]? := by rw [h7]
     have e2 : (digs a)[k]? = some ((digs a)[k]'(by rw [HN.out]; exact hk)) := List.getElem?_eq_getElem _
     rw [List.getElem?_take, if_pos (by omega), List.getElem?_map, e2] at e
     rw [e2]
     simpa [encB] using e
 clear hn
 obtain ⟨T, hT⟩ : ∃ T, decT a = T := ⟨_, rfl⟩
 rw [hT] at HCV HC0 ⊢
 go_enter Tryz.func135, Tryz.ntmps135
 go_wp2_with (first
   | (go_at_call 153; refine (digits_any _ _ _ _).mono ?_; rintro e w1 ⟨rfl, rfl⟩)
   | (go_at_call 154; refine (HC.out _ rfl).mono ?_; rintro e w2 ⟨u, rfl, hu, hb2⟩; have HU := Lib.hid (HO.out _ _ _ hu); have HB2 := Lib.hid (bl_box (Below.refl _ w) hb2); clear hu hb2))
 have hs2 := HB2.out.size
 rcases HU.out with ⟨rfl, h0⟩ | ⟨g, cap, cur, rfl, hg, hR, hf⟩
 · have R0 := Lib.hid (HR0.out h0)
   have C0 := HC0.out h0
   go_wp2_with (go_at_call 155; refine (R0.out _).mono ?_; rintro e w3 ⟨rfl, rfl⟩)
   go_ret
   exact ⟨rfl, HB2.out⟩
 · have RV := Lib.hid (HRV.out g cap cur w2 hR hf)
   have hgw : w.heap.size ≤ g := by simp at hg; omega
   clear hR hf
   go_wp2_with (go_at_call 155; refine RV.out.mono ?_; rintro e w3 ⟨rfl, cur3, hR3, hf3, hb3⟩; have C3 := HCV.out g cap cur3 w3 hR3 hf3; have HB3 := Lib.hid (HB2.out.trans (hb3.mono hgw)); clear hR3 hf3 hb3)
   go_ret
   exact ⟨rfl, HB3.out⟩
end Go.Proofs.YtpdoddhieblooaaGreatDoor
namespace Go.Proofs.YtpdoddhieblooaaGreatDoor
open Go.RowKit

theorem addS (x y z : List UInt8) (h : x ++ y = z) (hx : x.length ≤ 8388608) (hy : y.length ≤ 8388608) (w : World) : (Op.stringOp .add (bsz x) (bsz y)).run Tryz.prog w = .ok (.string (bsz z)) w := by
 rw [← h]; exact run_string_add_lists w x y (by omega) (by omega)
def ptT (x y : List UInt8) : List UInt8 := if y = [] then x else x ++ 46 :: y
set_option maxHeartbeats 1000000 in
theorem pointed_d (x y : List UInt8) (w : World) (hx : x.length ≤ 1000000) (hy : y.length ≤ 1000000) :
   Calls Tryz.prog 137 #[.string (bsz x), .string (bsz y)] w fun e w' => e = .returned (.string (bsz (ptT x y))) ∧ w' = w := by
 by_cases h : y = []
 · subst h
   have HP : Hid (ptT x [] = x) := Lib.hid (if_pos rfl)
   rw [HP.out]
   go_enter Tryz.func137, Tryz.ntmps137
   go_wp2
   go_ret
   exact ⟨rfl, rfl⟩
 · have HP : Hid (ptT x y = x ++ 46 :: y) := Lib.hid (if_neg h)
   rw [HP.out]
   have hne : (bsz y).toList.isEmpty = false := by
     rw [Lib.toList_data]
     cases y with
     | nil => exact absurd rfl h
     | cons _ _ => rfl
   have a1 := fun W => addS x [46] (x ++ [46]) rfl (by omega) (by simp) W
   have a2 := fun W => addS (x ++ [46]) y (x ++ 46 :: y) (by simp) (by simp; omega) (by omega) W
   obtain ⟨S, hS⟩ : ∃ S, bsz y = S := ⟨_, rfl⟩
   obtain ⟨S2, hS2⟩ : ∃ S, bsz (x ++ 46 :: y) = S := ⟨_, rfl⟩
   obtain ⟨S1, hS1⟩ : ∃ S, bsz (x ++ [46]) = S := ⟨_, rfl⟩
   obtain ⟨S0, hS0⟩ : ∃ S, bsz x = S := ⟨_, rfl⟩
   rw [hS] at hne a2 ⊢
   rw [hS2] at a2 ⊢
   rw [hS1] at a1 a2
   rw [hS0] at a1 ⊢
   clear hS hS1 hS2 hS0 h HP
   go_enter Tryz.func137, Tryz.ntmps137
   go_wp2
   go_ret
   exact ⟨rfl, rfl⟩
def mkT (z : Int) : List UInt8 := if z < 0 then [45] else []
set_option maxHeartbeats 1000000 in
theorem mark_d (v : Value) (z : Int) (w : World) (p : Option Addr) (len cap : Nat) (hv : v = .agg #[.slice p len cap, .bool (decide (z < 0))]) :
   Calls Tryz.prog 136 #[v] w fun e w' => e = .returned (.string (bsz (mkT z))) ∧ Below w.heap.size w w' := by
 subst hv
 by_cases h : z < 0
 · have HM : Hid (mkT z = [45]) := Lib.hid (if_pos h)
   rw [HM.out, decide_eq_true h]
   go_enter Tryz.func136, Tryz.ntmps136
   go_wp2
   go_ret
   exact ⟨rfl, by go_grown⟩
 · have HM : Hid (mkT z = []) := Lib.hid (if_neg h)
   rw [HM.out, decide_eq_false h]
   go_enter Tryz.func136, Tryz.ntmps136
   go_wp2
   go_ret
   exact ⟨rfl, by go_grown⟩
def padT (n : Nat) (l : List UInt8) : List UInt8 := List.replicate (n - l.length) 48 ++ l
def fixT (z : Int) (q : Nat) : List UInt8 :=
 let d := padT (q + 1) (decT z.natAbs)
 mkT z ++ ptT (d.take (d.length - q)) (d.drop (d.length - q))
theorem repeatL_zero (n : Nat) : Lib.repeatL [48] n = List.replicate n 48 := by
 induction n with
 | zero => rfl
 | succ n ih => rw [Lib.repeatL, ih, List.replicate_succ]; rfl
end Go.Proofs.YtpdoddhieblooaaGreatDoor
namespace Go.Proofs.YtpdoddhieblooaaGreatDoor
open Go.RowKit

theorem bytes_ext {x y : ByteArray} (h : x.data.toList = y.data.toList) : x = y := by
 cases x; cases y
 congr 1
 exact Array.ext' h
theorem bz_take (l : List UInt8) (n : Nat) : (bsz l).extract 0 n = bsz (l.take n) := bytes_ext (by rw [Lib.extract_data]; simp)
theorem bz_drop (l : List UInt8) (n : Nat) : (bsz l).extract n l.length = bsz (l.drop n) := bytes_ext (by rw [Lib.extract_data, List.take_of_length_le (by simp)])
set_option maxRecDepth 100000 in
set_option maxHeartbeats 4000000 in
theorem textFixed_pad {B : Nat} {z : Int} {q : Nat} {v : Value} {w : World} (hL : LArg B w v z) (la : (wrds z.natAbs).length ≤ 10000) (ld : (digs z.natAbs).length ≤ 100000) (lq : q ≤ 100000) (hq : (decT z.natAbs).length < q + 1) :
   Calls Tryz.prog 124 #[v, .int .i64 (q : Int)] w fun e w' => e = .returned (.string (bsz (fixT z q))) ∧ Below w.heap.size w w' := by
 obtain ⟨sl, rfl, hA⟩ := hL
 have HA := Lib.hid hA
 obtain ⟨p, k, rfl⟩ := hA.slice
 obtain ⟨D, hD⟩ : ∃ D, decT z.natAbs = D := ⟨_, rfl⟩
 have hDl : D.length ≤ 100000 := by rw [← hD, decT_length]; exact ld
 have HTX : Hid (∀ W, Below w.heap.size w W → Calls Tryz.prog 135 #[.slice p (wrds z.natAbs).length k] W fun e w' => e = .returned (.string (bsz D)) ∧ Below W.heap.size W w') := Lib.hid fun W hW => by
   rw [← hD]; exact text_d (HA.out.keep hW (Nat.le_refl _)) la (by omega)
 have HMK : Hid (∀ W, Calls Tryz.prog 136 #[.agg #[.slice p (wrds z.natAbs).length k, .bool (decide (z < 0))]] W fun e w' => e = .returned (.string (bsz (mkT z))) ∧ Below W.heap.size W w') := Lib.hid fun W => mark_d _ z W p _ k rfl
 rw [hD] at hq
 obtain ⟨dd, hdd⟩ : ∃ dd, padT (q + 1) D = dd := ⟨_, rfl⟩
 have hfix : fixT z q = mkT z ++ ptT (dd.take (dd.length - q)) (dd.drop (dd.length - q)) := by unfold fixT; rw [hD, hdd]
 have hmk : (mkT z).length ≤ 1 := by unfold mkT; split <;> simp
 have hddl : dd.length = max (q + 1) D.length := by rw [← hdd]; unfold padT; simp; omega
 obtain ⟨N, hN⟩ : ∃ N, dd.length = N := ⟨_, rfl⟩
 rw [hN] at hfix hddl
 obtain ⟨pt, hpt⟩ : ∃ pt, N - q = pt := ⟨_, rfl⟩
 rw [hpt] at hfix
 have HPT : Hid (∀ W, Calls Tryz.prog 137 #[.string (bsz (dd.take pt)), .string (bsz (dd.drop pt))] W fun e w' => e = .returned (.string (bsz (ptT (dd.take pt) (dd.drop pt)))) ∧ w' = W) := Lib.hid fun W => pointed_d _ _ W (by simp; omega) (by simp; omega)
 have hptl : (ptT (dd.take pt) (dd.drop pt)).length ≤ 1000000 := by unfold ptT; split <;> simp <;> omega
 have aM := fun W => addS (mkT z) (ptT (dd.take pt) (dd.drop pt)) (fixT z q) hfix.symm (by omega) (by omega) W
 have e1 : (bsz dd).extract 0 pt = bsz (dd.take pt) := bz_take dd pt
 have e2 : (bsz dd).extract pt N = bsz (dd.drop pt) := by rw [← hN]; exact bz_drop dd pt
 have sD : (bsz D).size = D.length := rfl
 have sdd : (bsz dd).size = N := hN
 obtain ⟨c, hc⟩ : ∃ c, q + 1 - D.length = c := ⟨_, rfl⟩
 have HRP : Hid (∀ W, Calls Tryz.prog 152 #[.string ⟨#[48]⟩, .int .i64 (c : Int)] W fun e w' => e = .returned (.string (bsz (List.replicate c 48))) ∧ Below W.heap.size W w') := Lib.hid fun W => by
   have := Tryz.strings_Repeat ⟨#[48]⟩ c W (by omega) (by show 1 * c ≤ _; omega)
   rw [show (⟨#[48]⟩ : ByteArray).data.toList = [48] from rfl, repeatL_zero] at this
   exact this
 have aD := fun W => addS (List.replicate c 48) D dd (by rw [← hdd, ← hc]; rfl) (by simp; omega) (by omega) W
 have w1 : IntKind.i64.wrap ((q : Int) + 1) = (q : Int) + 1 := IntWalk.i64_in _ (by omega)
 have w2 : IntKind.i64.wrap ((q : Int) + 1 - (D.length : Int)) = (c : Int) := by rw [show (q : Int) + 1 - (D.length : Int) = c by omega]; exact IntWalk.i64_in _ (by omega)
 have hcp : (0 : Int) < c := by omega
 have hcp2 : 0 < c := by omega
 have w3 : IntKind.i64.wrap ((N : Int) - (q : Int)) = (pt : Int) := by rw [show (N : Int) - (q : Int) = pt by omega]; exact IntWalk.i64_in _ (by omega)
 have i1 : (pt : Int) ≤ N := by omega
 have i2 : pt ≤ N := by omega
 obtain ⟨S1, hS1⟩ : ∃ S, bsz dd = S := ⟨_, rfl⟩
 obtain ⟨S2, hS2⟩ : ∃ S, bsz (List.take pt dd) = S := ⟨_, rfl⟩
 obtain ⟨S3, hS3⟩ : ∃ S, bsz (List.drop pt dd) = S := ⟨_, rfl⟩
 obtain ⟨S4, hS4⟩ : ∃ S, bsz (ptT (List.take pt dd) (List.drop pt dd)) = S := ⟨_, rfl⟩
 obtain ⟨S5, hS5⟩ : ∃ S, bsz (mkT z) = S := ⟨_, rfl⟩
 obtain ⟨S6, hS6⟩ : ∃ S, bsz (fixT z q) = S := ⟨_, rfl⟩
 rw [hS4, hS2, hS3] at HPT
 rw [hS4, hS5, hS6] at aM
 rw [hS1, hS2] at e1
 rw [hS1, hS3] at e2
 rw [hS5] at HMK
 rw [hS6]
 rw [hS1] at sdd
 obtain ⟨S7, hS7⟩ : ∃ S, bsz D = S := ⟨_, rfl⟩
 obtain ⟨S8, hS8⟩ : ∃ S, bsz (List.replicate c 48) = S := ⟨_, rfl⟩
 obtain ⟨ND, hND⟩ : ∃ n, D.length = n := ⟨_, rfl⟩
 rw [hS7] at sD HTX aD
 rw [hS8] at HRP aD
 rw [hS1] at aD
 rw [hND] at w2 sD
 clear hS7 hS8 hND
 clear hS1 hS2 hS3 hS4 hS5 hS6 hA HA hD hDl hq hdd hfix hmk hddl hN hpt hptl la ld lq
 have RA := Row.new w (lgC (.slice p (wrds z.natAbs).length k) (decide (z < 0))) 41
 obtain ⟨dz, hdz⟩ : ∃ d, decide (z < 0) = d := ⟨_, rfl⟩
 rw [hdz] at HMK RA ⊢
 clear hdz
 go_enter Tryz.func124, Tryz.ntmps124
 go_wp2_with fail
 generalize hw : w.alloc (.cells (lgC (.slice p (wrds z.natAbs).length k) dz) 41) = W at *
 have B0 : Hid (Below w.heap.size w W) := by show Below _ _ _; rw [← hw]; go_grown
 clear hw
 obtain ⟨x0, x1⟩ := RA.lg
 go_wp2_with (first
   | (go_at_call 135; (with_reducible refine (HTX.out _ B0.out).mono ?_); rintro e w2 ⟨rfl, hb2⟩; have R2 := RA.keep hb2; have B2 := Lib.hid (bl_then B0.out hb2); obtain ⟨y0, y1⟩ := R2.lg)
   | (go_at_call 152; (with_reducible refine (HRP.out _).mono ?_); rintro e w3 ⟨rfl, hb3⟩; have R3 := R2.keep hb3; have B3 := Lib.hid (bl_then B2.out hb3); obtain ⟨z0, z1⟩ := R3.lg))
 go_region_held3 (fun w' => w'.cell? ⟨w.heap.size, 0, none⟩ = some (.slice p (wrds z.natAbs).length k) ∧ w'.cell? ⟨w.heap.size, 1, none⟩ = some (.bool dz))
   (first | go_keep | exact R4.lg | ((try dsimp only); (repeat' apply And.intro) <;> go_keep))
   (first
     | (go_at_call 136; (with_reducible refine (HMK.out _).mono ?_); rintro e w4 ⟨rfl, hb4⟩; have R4 := R3.keep (bl_drew hb4); have B4 := Lib.hid (bl_then B3.out (bl_drew hb4)))
     | (go_at_call 137; (with_reducible refine (HPT.out _).mono ?_); rintro e w5 ⟨rfl, rfl⟩))
 go_wp2
 go_ret
 exact ⟨rfl, B4.out⟩
set_option maxRecDepth 100000 in
set_option maxHeartbeats 4000000 in
theorem textFixed_long {B : Nat} {z : Int} {q : Nat} {v : Value} {w : World} (hL : LArg B w v z) (la : (wrds z.natAbs).length ≤ 10000) (ld : (digs z.natAbs).length ≤ 100000) (lq : q ≤ 100000) (hq : q + 1 ≤ (decT z.natAbs).length) :
   Calls Tryz.prog 124 #[v, .int .i64 (q : Int)] w fun e w' => e = .returned (.string (bsz (fixT z q))) ∧ Below w.heap.size w w' := by
 obtain ⟨sl, rfl, hA⟩ := hL
 have HA := Lib.hid hA
 obtain ⟨p, k, rfl⟩ := hA.slice
 obtain ⟨D, hD⟩ : ∃ D, decT z.natAbs = D := ⟨_, rfl⟩
 have hDl : D.length ≤ 100000 := by rw [← hD, decT_length]; exact ld
 have HTX : Hid (∀ W, Below w.heap.size w W → Calls Tryz.prog 135 #[.slice p (wrds z.natAbs).length k] W fun e w' => e = .returned (.string (bsz D)) ∧ Below W.heap.size W w') := Lib.hid fun W hW => by
   rw [← hD]; exact text_d (HA.out.keep hW (Nat.le_refl _)) la (by omega)
 have HMK : Hid (∀ W, Calls Tryz.prog 136 #[.agg #[.slice p (wrds z.natAbs).length k, .bool (decide (z < 0))]] W fun e w' => e = .returned (.string (bsz (mkT z))) ∧ Below W.heap.size W w') := Lib.hid fun W => mark_d _ z W p _ k rfl
 rw [hD] at hq
 obtain ⟨dd, hdd⟩ : ∃ dd, padT (q + 1) D = dd := ⟨_, rfl⟩
 have hfix : fixT z q = mkT z ++ ptT (dd.take (dd.length - q)) (dd.drop (dd.length - q)) := by unfold fixT; rw [hD, hdd]
 have hmk : (mkT z).length ≤ 1 := by unfold mkT; split <;> simp
 have hddl : dd.length = max (q + 1) D.length := by rw [← hdd]; unfold padT; simp; omega
 obtain ⟨N, hN⟩ : ∃ N, dd.length = N := ⟨_, rfl⟩
 rw [hN] at hfix hddl
 obtain ⟨pt, hpt⟩ : ∃ pt, N - q = pt := ⟨_, rfl⟩
 rw [hpt] at hfix
 have HPT : Hid (∀ W, Calls Tryz.prog 137 #[.string (bsz (dd.take pt)), .string (bsz (dd.drop pt))] W fun e w' => e = .returned (.string (bsz (ptT (dd.take pt) (dd.drop pt)))) ∧ w' = W) := Lib.hid fun W => pointed_d _ _ W (by simp; omega) (by simp; omega)
 have hptl : (ptT (dd.take pt) (dd.drop pt)).length ≤ 1000000 := by unfold ptT; split <;> simp <;> omega
 have aM := fun W => addS (mkT z) (ptT (dd.take pt) (dd.drop pt)) (fixT z q) hfix.symm (by omega) (by omega) W
 have e1 : (bsz dd).extract 0 pt = bsz (dd.take pt) := bz_take dd pt
 have e2 : (bsz dd).extract pt N = bsz (dd.drop pt) := by rw [← hN]; exact bz_drop dd pt
 have sD : (bsz D).size = D.length := rfl
 have sdd : (bsz dd).size = N := hN
 have hdD : dd = D := by rw [← hdd]; unfold padT; rw [show q + 1 - D.length = 0 by omega]; rfl
 have w1 : IntKind.i64.wrap ((q : Int) + 1) = (q : Int) + 1 := IntWalk.i64_in _ (by omega)
 have w2 : IntKind.i64.wrap ((q : Int) + 1 - (D.length : Int)) = (q : Int) + 1 - (D.length : Int) := IntWalk.i64_in _ (by omega)
 have hcp : ¬ 0 < (q : Int) + 1 - (D.length : Int) := by omega
 have hcp2 : (q : Int) + 1 - (D.length : Int) ≤ 0 := by omega
 subst hdD
 have w3 : IntKind.i64.wrap ((N : Int) - (q : Int)) = (pt : Int) := by rw [show (N : Int) - (q : Int) = pt by omega]; exact IntWalk.i64_in _ (by omega)
 have i1 : (pt : Int) ≤ N := by omega
 have i2 : pt ≤ N := by omega
 obtain ⟨S1, hS1⟩ : ∃ S, bsz dd = S := ⟨_, rfl⟩
 obtain ⟨S2, hS2⟩ : ∃ S, bsz (List.take pt dd) = S := ⟨_, rfl⟩
 obtain ⟨S3, hS3⟩ : ∃ S, bsz (List.drop pt dd) = S := ⟨_, rfl⟩
 obtain ⟨S4, hS4⟩ : ∃ S, bsz (ptT (List.take pt dd) (List.drop pt dd)) = S := ⟨_, rfl⟩
 obtain ⟨S5, hS5⟩ : ∃ S, bsz (mkT z) = S := ⟨_, rfl⟩
 obtain ⟨S6, hS6⟩ : ∃ S, bsz (fixT z q) = S := ⟨_, rfl⟩
 rw [hS4, hS2, hS3] at HPT
 rw [hS4, hS5, hS6] at aM
 rw [hS1, hS2] at e1
 rw [hS1, hS3] at e2
 rw [hS5] at HMK
 rw [hS6]
 rw [hS1] at sdd HTX
 rw [hN] at w2 hcp hcp2
 clear sD
 clear hS1 hS2 hS3 hS4 hS5 hS6 hA HA hD hDl hq hfix hmk hddl hN hpt hptl la ld lq
 have RA := Row.new w (lgC (.slice p (wrds z.natAbs).length k) (decide (z < 0))) 41
 obtain ⟨dz, hdz⟩ : ∃ d, decide (z < 0) = d := ⟨_, rfl⟩
 rw [hdz] at HMK RA ⊢
 clear hdz
 go_enter Tryz.func124, Tryz.ntmps124
 go_wp2_with fail
 generalize hw : w.alloc (.cells (lgC (.slice p (wrds z.natAbs).length k) dz) 41) = W at *
 have B0 : Hid (Below w.heap.size w W) := by show Below _ _ _; rw [← hw]; go_grown
 clear hw
 obtain ⟨x0, x1⟩ := RA.lg
 go_wp2_with (first
   | (go_at_call 135; (with_reducible refine (HTX.out _ B0.out).mono ?_); rintro e w2 ⟨rfl, hb2⟩; have R2 := RA.keep hb2; have B2 := Lib.hid (bl_then B0.out hb2); obtain ⟨y0, y1⟩ := R2.lg))
 go_region_held3 (fun w' => w'.cell? ⟨w.heap.size, 0, none⟩ = some (.slice p (wrds z.natAbs).length k) ∧ w'.cell? ⟨w.heap.size, 1, none⟩ = some (.bool dz))
   (first | go_keep | exact R4.lg | ((try dsimp only); (repeat' apply And.intro) <;> go_keep))
   (first
     | (go_at_call 136; (with_reducible refine (HMK.out _).mono ?_); rintro e w4 ⟨rfl, hb4⟩; have R4 := R2.keep (bl_drew hb4); have B4 := Lib.hid (bl_then B2.out (bl_drew hb4)))
     | (go_at_call 137; (with_reducible refine (HPT.out _).mono ?_); rintro e w5 ⟨rfl, rfl⟩))
 go_wp2
 go_ret
 exact ⟨rfl, B4.out⟩
theorem textFixed_d {B : Nat} {z : Int} {q : Nat} {v : Value} {w : World} (hL : LArg B w v z) (la : (wrds z.natAbs).length ≤ 10000) (ld : (digs z.natAbs).length ≤ 100000) (lq : q ≤ 100000) :
   Calls Tryz.prog 124 #[v, .int .i64 (q : Int)] w fun e w' => e = .returned (.string (bsz (fixT z q))) ∧ Below w.heap.size w w' := by
 rcases Nat.lt_or_ge (decT z.natAbs).length (q + 1) with h | h
 · exact textFixed_pad hL la ld lq h
 · exact textFixed_long hL la ld lq h
end Go.Proofs.YtpdoddhieblooaaGreatDoor
