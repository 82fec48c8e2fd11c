/- slices.Reverse of bytes. limbs.text: the decimal digits, the highest one first. digit.textFixed: a long number with its point. -/
import Derived.Test.YtllpldndkojagaaGreatDoorWrdCol
import Derived.Test.YtllpldndkojagaaGreatDoorWrdMid
import Derived.RegionTactic
import Derived.ChangeAlike
import Derived.Laws.IdiomStrings
import Derived.Laws.Concat
import Derived.Test.YtllpldndkojagaaGreatDoorShelfStr
import Derived.Test.YtllpldndkojagaaGreatDoorBitFacts
import Derived.Test.YtllpldndkojagaaGreatDoorWrdScale
namespace Go.Proofs.YtllpldndkojagaaGreatDoor
open Go.RowKit

/-- What stands in the loop of Reverse: i places at either end are exchanged. -/
def RevR (g n i : Nat) (f : Nat → Int) (w wr : World) : Prop :=
  ∃ cur : Array Value, Row wr g cur 5 ∧ (∀ k, k < n → cur[k]? = some (.int .u8 (if k < i ∨ n - 1 - i < k then f (n - 1 - k) else f k))) ∧ Below g w wr
theorem RevR.end {g n i : Nat} {f : Nat → Int} {w wr : World} (h : RevR g n i f w wr) (hi : ¬ i + i + 1 < n) : ∃ cur : Array Value, Row wr g cur 5 ∧ (∀ k, k < n → cur[k]? = some (.int .u8 (f (n - 1 - k)))) ∧ Below g w wr := by
  obtain ⟨cur, h1, h2, h3⟩ := h
  refine ⟨cur, h1, fun k hk => ?_, h3⟩
  rw [h2 k hk]
  by_cases hc : k < i ∨ n - 1 - i < k
  · rw [if_pos hc]
  · rw [if_neg hc, show n - 1 - k = k by omega]
theorem RevR.next {g n i j : Nat} {f : Nat → Int} {w wr : World} (h : RevR g n i f w wr) (hi : i + i + 1 < n) (hj : j = n - 1 - i) : RevR g n (i + 1) f w (((wr.setCell ⟨g, i, none⟩ (.int .u8 (f j))).setCell ⟨g, j, none⟩ (.int .u8 (f i))).drew) := by
  obtain ⟨cur, h1, h2, h3⟩ := h
  have s1 : i < cur.size := by
    have := h2 i (by omega)
    rw [Array.getElem?_eq_some_iff] at this
    exact this.1
  have s2 : j < cur.size := by
    have := h2 j (by omega)
    rw [Array.getElem?_eq_some_iff] at this
    exact this.1
  refine ⟨(cur.setIfInBounds i (.int .u8 (f j))).setIfInBounds j (.int .u8 (f i)), ((h1.putv i _).putv j _).drewN 1, fun k hk => ?_, ((h3.setCell (Nat.le_refl _) _).setCell (Nat.le_refl _) _).drew⟩
  by_cases e2 : k = j
  · subst e2
    rw [Array.getElem?_setIfInBounds_self_of_lt (by simpa using s2), if_pos (by omega), show n - 1 - k = i by omega]
  · rw [Array.getElem?_setIfInBounds_ne (by omega)]
    by_cases e1 : k = i
    · subst e1
      rw [Array.getElem?_setIfInBounds_self_of_lt s1, if_pos (by omega), show n - 1 - k = j by omega]
    · rw [Array.getElem?_setIfInBounds_ne (by omega), h2 k hk]
      by_cases hc : k < i ∨ n - 1 - i < k
      · rw [if_pos hc, if_pos (by omega)]
      · rw [if_neg hc, if_neg (by omega)]

set_option maxHeartbeats 2000000 in
set_option maxRecDepth 100000 in
theorem reverse_d (g cap n : Nat) (f : Nat → Int) (cur : Array Value) (w : World) (hR : Row w g cur 5) (hf : ∀ k, k < n → cur[k]? = some (.int .u8 (f k))) (hn : n ≤ 1000000) :
    Calls Tryz.prog 108 #[.slice (some ⟨g, 0, none⟩) n cap] w fun e w' => e = .returned (.tuple #[]) ∧ ∃ cur : Array Value, Row w' g cur 5 ∧ (∀ k, k < n → cur[k]? = some (.int .u8 (f (n - 1 - k)))) ∧ Below g w w' := by
  have H0 : Hid (RevR g n 0 f w w) := Lib.hid ⟨cur, hR, fun k hk => by rw [hf k hk, if_neg (by omega)], Below.refl _ _⟩
  clear hR hf
  have hw0 : IntKind.i64.wrap ((n : Int) - 1) = (n : Int) - 1 := IntWalk.i64_in _ (by omega)
  go_enter Tryz.func108, Tryz.ntmps108
  go_wp2
  go_loopw [2, 3] (fun a b wr => ∃ i : Nat, a = .int .i64 (i : Int) ∧ b = .int .i64 ((n : Int) - 1 - i) ∧ i ≤ n ∧ RevR g n i f w wr) (fun a _ _ => n - (intOf a).toNat)
  case atStart => exact ⟨0, rfl, by simp, Nat.zero_le _, H0.out⟩
  case round =>
    obtain ⟨i, rfl, rfl, hi, hR⟩ := hrel
    by_cases hc : i + i + 1 < n
    · obtain ⟨j, hj⟩ : ∃ j, j = n - 1 - i := ⟨_, rfl⟩
      have HN := Lib.hid (hR.next hc hj)
      obtain ⟨cur2, h1, h2, h3⟩ := hR
      have c1 := (h1.at i).trans (h2 i (by omega))
      have c2 := (h1.at j).trans (h2 j (by omega))
      rw [if_neg (by omega)] at c1 c2
      have f1 := h1.free i
      have f2 := h1.free j
      have ej : (n : Int) - 1 - i = j := by omega
      have hlt : (i : Int) < j := by omega
      have i1 : (i : Int) < n := by omega
      have i2 : (j : Int) < n := by omega
      have ne1 : ¬ i = j := by omega
      have ne2 : ¬ j = i := by omega
      have HJ : Hid ((j : Int) - 1 = (n : Int) - 1 - ((i + 1 : Nat) : Int)) := Lib.hid (by omega)
      have hj1 : 0 < j := by omega
      rw [ej]
      clear h1 h2 h3 hj ej
      go_wp2
      go_region
      go_wp2
      case roundEnd => exact ⟨⟨i + 1, by go_num, by rw [← HJ.out], by omega, HN.out⟩, by simp [intOf]; omega⟩
    · have HE := Lib.hid (hR.end hc)
      have hge : ¬ (i : Int) < (n : Int) - 1 - i := by omega
      have hge2 : (n : Int) - 1 - i ≤ i := by omega
      clear hR
      go_wp2
      go_end0
      exact ⟨rfl, HE.out⟩
end Go.Proofs.YtllpldndkojagaaGreatDoor
namespace Go.Proofs.YtllpldndkojagaaGreatDoor
open Go.RowKit

theorem collect_d {a Bn : Nat} {v : Value} {w : World} (hB : Bn < w.heap.size) (hc : w.cell? ⟨Bn, 0, none⟩ = some v) (hA : WArg 0 w v a) (la : (wrds a).length ≤ 10000) (ld : (digs a).length ≤ 1000000) :
    Calls Tryz.prog 107 #[.func (.func 130) #[] #[.pointer (some ⟨Bn, 0, none⟩)]] w fun e w' => ∃ u, e = .returned u ∧ w'.ownsRow w.heap.size 5 1 u (digs a).length ((digs a).map encB) ∧ Below w.heap.size w w' := by
  have HA := Lib.hid (appendSeq_d hB hc hA la ld)
  clear hA hc
  go_enter Tryz.func107, Tryz.ntmps107
  go_wp2_with (go_at_call 131; refine HA.out.mono ?_; rintro e w2 ⟨u, rfl, hu, hb⟩)
  go_ret
  exact ⟨_, rfl, hu, hb⟩

/-- A number's decimal digits as bytes, the highest one first; of 0 none. -/
def decT (a : Nat) : List UInt8 := (digs a).reverse.map fun d => UInt8.ofNat (48 + d)
theorem decT_length (a : Nat) : (decT a).length = (digs a).length := by simp [decT]
theorem decT_at (a k : Nat) (h : k < (digs a).length) : ((decT a)[k]'(by rw [decT_length]; exact h)).toNat = 48 + (digs a)[(digs a).length - 1 - k]'(by omega) := by
  unfold decT
  rw [List.getElem_map, List.getElem_reverse]
  have := digs_digs a _ (List.getElem_mem (show (digs a).length - 1 - k < (digs a).length by omega))
  rw [UInt8.toNat_ofNat']
  omega

theorem conv_nil (W : World) : (convert 108 9 (.slice none 0 0)).run Tryz.prog W = .ok (.string (bsz [])) W := by kernel_rfl
theorem reverse_0 (w : World) : Calls Tryz.prog 108 #[.slice none 0 0] w fun e w' => e = .returned (.tuple #[]) ∧ w' = w := by
  go_enter Tryz.func108, Tryz.ntmps108
  go_wp2
  go_loopw [2, 3] (fun a b wr => a = .int .i64 0 ∧ b = .int .i64 (-1) ∧ wr = w) (fun _ _ _ => 0)
  case atStart => exact ⟨rfl, rfl, rfl⟩
  case round =>
    obtain ⟨rfl, rfl, rfl⟩ := hrel
    go_wp2
    go_end0
    exact ⟨rfl, rfl⟩

set_option maxHeartbeats 2000000 in
set_option maxRecDepth 100000 in
theorem text_d {B a : Nat} {v : Value} {w : World} (hA : WArg B w v a) (la : (wrds a).length ≤ 10000) (ld : (digs a).length ≤ 1000000) :
    Calls Tryz.prog 94 #[v] w fun e w' => e = .returned (.string (bsz (decT a))) ∧ Below w.heap.size w w' := by
  obtain ⟨pa, ka, rfl⟩ := hA.slice
  have HA := Lib.hid (hA.base (Nat.zero_le _))
  have HL := Lib.hid la
  have HD := Lib.hid ld
  have RB := Row.new w #[.slice pa (wrds a).length ka] 41
  have HC : Hid (∀ W, W = w.alloc (.cells #[.slice pa (wrds a).length ka] 41) → Calls Tryz.prog 107 #[.func (.func 130) #[] #[.pointer (some ⟨w.heap.size, 0, none⟩)]] W fun e w' => ∃ u, e = .returned u ∧ w'.ownsRow W.heap.size 5 1 u (digs a).length ((digs a).map encB) ∧ Below W.heap.size W w') := Lib.hid fun W hW => by
    subst hW
    exact collect_d (by simp) RB.one (HA.out.keep ((Below.refl _ w).alloc (Nat.le_refl _) _) (Nat.le_refl _)) HL.out HD.out
  obtain ⟨n, hn⟩ : ∃ n, (digs a).length = n := ⟨_, rfl⟩
  clear hA la ld RB
  rw [hn] at HC
  have HN := Lib.hid hn
  have HCV : Hid (∀ (g cap : Nat) (cur : Array Value) (W : World), Row W g cur 5 → (∀ k, k < n → cur[k]? = some (.int .u8 (((48 + ((digs a)[n - 1 - k]?).getD 0 : Nat) : Int)))) → (convert 108 9 (.slice (some ⟨g, 0, none⟩) n cap)).run Tryz.prog W = .ok (.string (bsz (decT a))) W) := Lib.hid fun g cap cur W hR hf => by
    have hl := decT_length a
    rw [HN.out] at hl
    have := run_convert_bytes_back (P := Tryz.prog) W 108 9 5 ⟨g, 0, none⟩ cap (decT a) Tryz.underlying108 (by kernel_rfl) (by kernel_rfl) (fun k hk => by
      rw [hl] at hk
      have e : (⟨g, 0, none⟩ : Addr).add k = ⟨g, k, none⟩ := by cases k <;> simp [Addr.add]
      rw [e, hR.at k, hf k hk, decT_at a k (by rw [HN.out]; exact hk), List.getElem?_eq_getElem (by rw [HN.out]; omega)]
      simp only [HN.out]
      rfl)
    rwa [hl] at this
  have HRV : Hid (∀ (g cap : Nat) (cur : Array Value) (W : World), Row W g cur 5 → (∀ k, k < n → cur[k]? = some (.int .u8 (((48 + ((digs a)[k]?).getD 0 : Nat) : Int)))) → Calls Tryz.prog 108 #[.slice (some ⟨g, 0, none⟩) n cap] W fun e w' => e = .returned (.tuple #[]) ∧ ∃ cur : Array Value, Row w' g cur 5 ∧ (∀ k, k < n → cur[k]? = some (.int .u8 (((48 + ((digs a)[n - 1 - k]?).getD 0 : Nat) : Int)))) ∧ Below g W w') := Lib.hid fun g cap cur W hR hf =>
    reverse_d g cap n (fun k => ((48 + ((digs a)[k]?).getD 0 : Nat) : Int)) cur W hR hf (by rw [← HN.out]; exact HD.out)
  have HR0 : Hid (n = 0 → ∀ W, Calls Tryz.prog 108 #[.slice none 0 0] W fun e w' => e = .returned (.tuple #[]) ∧ w' = W) := Lib.hid fun _ W => reverse_0 W
  have HC0 : Hid (n = 0 → ∀ W, (convert 108 9 (.slice none 0 0)).run Tryz.prog W = .ok (.string (bsz (decT a))) W) := Lib.hid fun h W => by
    have hd : digs a = [] := List.length_eq_zero_iff.1 (by rw [HN.out]; exact h)
    have HT : decT a = [] := by unfold decT; rw [hd]; rfl
    rw [HT]; exact conv_nil W
  have HO : Hid (∀ (W : World) (B : Nat) (u : Value), W.ownsRow B 5 1 u n ((digs a).map encB) → (u = .slice none 0 0 ∧ n = 0) ∨ ∃ g cap cur, u = .slice (some ⟨g, 0, none⟩) n cap ∧ B ≤ g ∧ Row W g cur 5 ∧ ∀ k, k < n → cur[k]? = some (.int .u8 (((48 + ((digs a)[k]?).getD 0 : Nat) : Int)))) := Lib.hid fun W B u hu => by
    rcases hu.2 with ⟨h1, h2⟩ | ⟨g, cap, cur, h1, h2, h3, h4, h5, h6, h7⟩
    · exact .inl ⟨h1, h2⟩
    · refine .inr ⟨g, cap, cur, h1, h2, h3, fun k hk => ?_⟩
      have e : (cur.toList.take (n * 1))[k]? = ((digs a).map encB)[k]? := by rw [h7]
      have e2 : (digs a)[k]? = some ((digs a)[k]'(by rw [HN.out]; exact hk)) := List.getElem?_eq_getElem _
      rw [List.getElem?_take, if_pos (by omega), List.getElem?_map, e2] at e
      rw [e2]
      simpa [encB] using e
  clear hn
  obtain ⟨T, hT⟩ : ∃ T, decT a = T := ⟨_, rfl⟩
  rw [hT] at HCV HC0 ⊢
  go_enter Tryz.func94, Tryz.ntmps94
  go_wp2_with (first
    | (go_at_call 106; refine (digits_any _ _ _ _).mono ?_; rintro e w1 ⟨rfl, rfl⟩)
    | (go_at_call 107; refine (HC.out _ rfl).mono ?_; rintro e w2 ⟨u, rfl, hu, hb2⟩; have HU := Lib.hid (HO.out _ _ _ hu); have HB2 := Lib.hid (bl_box (Below.refl _ w) hb2); clear hu hb2))
  have hs2 := HB2.out.size
  rcases HU.out with ⟨rfl, h0⟩ | ⟨g, cap, cur, rfl, hg, hR, hf⟩
  · have R0 := Lib.hid (HR0.out h0)
    have C0 := HC0.out h0
    go_wp2_with (go_at_call 108; refine (R0.out _).mono ?_; rintro e w3 ⟨rfl, rfl⟩)
    go_ret
    exact ⟨rfl, HB2.out⟩
  · have RV := Lib.hid (HRV.out g cap cur w2 hR hf)
    have hgw : w.heap.size ≤ g := by simp at hg; omega
    clear hR hf
    go_wp2_with (go_at_call 108; refine RV.out.mono ?_; rintro e w3 ⟨rfl, cur3, hR3, hf3, hb3⟩; have C3 := HCV.out g cap cur3 w3 hR3 hf3; have HB3 := Lib.hid (HB2.out.trans (hb3.mono hgw)); clear hR3 hf3 hb3)
    go_ret
    exact ⟨rfl, HB3.out⟩
end Go.Proofs.YtllpldndkojagaaGreatDoor
namespace Go.Proofs.YtllpldndkojagaaGreatDoor
open Go.RowKit

theorem addS (x y z : List UInt8) (h : x ++ y = z) (hx : x.length ≤ 8388608) (hy : y.length ≤ 8388608) (w : World) : (Op.stringOp .add (bsz x) (bsz y)).run Tryz.prog w = .ok (.string (bsz z)) w := by
  rw [← h]; exact run_string_add_lists w x y (by omega) (by omega)
/-- A number's two parts. -/
def ptT (x y : List UInt8) : List UInt8 := if y = [] then x else x ++ 46 :: y
set_option maxHeartbeats 1000000 in
theorem pointed_d (x y : List UInt8) (w : World) (hx : x.length ≤ 1000000) (hy : y.length ≤ 1000000) :
    Calls Tryz.prog 96 #[.string (bsz x), .string (bsz y)] w fun e w' => e = .returned (.string (bsz (ptT x y))) ∧ w' = w := by
  by_cases h : y = []
  · subst h
    have HP : Hid (ptT x [] = x) := Lib.hid (if_pos rfl)
    rw [HP.out]
    go_enter Tryz.func96, Tryz.ntmps96
    go_wp2
    go_ret
    exact ⟨rfl, rfl⟩
  · have HP : Hid (ptT x y = x ++ 46 :: y) := Lib.hid (if_neg h)
    rw [HP.out]
    have hne : (bsz y).toList.isEmpty = false := by
      rw [Lib.toList_data]
      cases y with
      | nil => exact absurd rfl h
      | cons _ _ => rfl
    have a1 := fun W => addS x [46] (x ++ [46]) rfl (by omega) (by simp) W
    have a2 := fun W => addS (x ++ [46]) y (x ++ 46 :: y) (by simp) (by simp; omega) (by omega) W
    obtain ⟨S, hS⟩ : ∃ S, bsz y = S := ⟨_, rfl⟩
    obtain ⟨S2, hS2⟩ : ∃ S, bsz (x ++ 46 :: y) = S := ⟨_, rfl⟩
    obtain ⟨S1, hS1⟩ : ∃ S, bsz (x ++ [46]) = S := ⟨_, rfl⟩
    obtain ⟨S0, hS0⟩ : ∃ S, bsz x = S := ⟨_, rfl⟩
    rw [hS] at hne a2 ⊢
    rw [hS2] at a2 ⊢
    rw [hS1] at a1 a2
    rw [hS0] at a1 ⊢
    clear hS hS1 hS2 hS0 h HP
    go_enter Tryz.func96, Tryz.ntmps96
    go_wp2
    go_ret
    exact ⟨rfl, rfl⟩

/-- What stands ahead of a number's digits. -/
def mkT (z : Int) : List UInt8 := if z < 0 then [45] else []
set_option maxHeartbeats 1000000 in
theorem mark_d (v : Value) (z : Int) (w : World) (p : Option Addr) (len cap : Nat) (hv : v = .agg #[.slice p len cap, .bool (decide (z < 0))]) :
    Calls Tryz.prog 95 #[v] w fun e w' => e = .returned (.string (bsz (mkT z))) ∧ Below w.heap.size w w' := by
  subst hv
  by_cases h : z < 0
  · have HM : Hid (mkT z = [45]) := Lib.hid (if_pos h)
    rw [HM.out, decide_eq_true h]
    go_enter Tryz.func95, Tryz.ntmps95
    go_wp2
    go_ret
    exact ⟨rfl, by go_grown⟩
  · have HM : Hid (mkT z = []) := Lib.hid (if_neg h)
    rw [HM.out, decide_eq_false h]
    go_enter Tryz.func95, Tryz.ntmps95
    go_wp2
    go_ret
    exact ⟨rfl, by go_grown⟩

/-- Zeros ahead, so that there are so many digits. -/
def padT (n : Nat) (l : List UInt8) : List UInt8 := List.replicate (n - l.length) 48 ++ l
/-- A fixed number's text. -/
def fixT (z : Int) (q : Nat) : List UInt8 :=
  let d := padT (q + 1) (decT z.natAbs)
  mkT z ++ ptT (d.take (d.length - q)) (d.drop (d.length - q))
theorem repeatL_zero (n : Nat) : Lib.repeatL [48] n = List.replicate n 48 := by
  induction n with
  | zero => rfl
  | succ n ih => rw [Lib.repeatL, ih, List.replicate_succ]; rfl
end Go.Proofs.YtllpldndkojagaaGreatDoor
