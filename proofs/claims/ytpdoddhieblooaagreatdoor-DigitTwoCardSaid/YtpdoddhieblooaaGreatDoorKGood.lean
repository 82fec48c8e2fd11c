/- What a right value is, exactly; ironbarkref01.Right, of any value, exactly. -/
import Derived.Test.YtpdoddhieblooaaGreatDoorKFtGives
import Derived.Test.YtpdoddhieblooaaGreatDoorKBit0
namespace Go.Proofs.YtpdoddhieblooaaGreatDoor
open Go.RowKit

def IffB (P : Prop) (w : World) (e : Ending) (w' : World) : Prop := ∃ r : Bool, e = .returned (.bool r) ∧ (r = true ↔ P) ∧ Below w.heap.size w w'
theorem iffB {P : Prop} {w w' : World} (r : Bool) (h : r = true ↔ P) (hb : Below w.heap.size w w') : IffB P w (.returned (.bool r)) w' := ⟨r, rfl, h, hb⟩
theorem IffB.bool {P : Prop} [Decidable P] {w w' : World} {e : Ending} (h : IffB P w e w') : e = .returned (.bool (decide P)) ∧ Below w.heap.size w w' := by
 obtain ⟨r, rfl, hp, hb⟩ := h
 exact ⟨ret_bool (by rw [Bool.eq_iff_iff, hp]; simp), hb⟩
def bit01 (c : UInt8) : Bool := c == 48 || c == 49
def all01 (s : ByteArray) : Bool := s.data.toList.all bit01
def Bits01 (s : ByteArray) : Prop := all01 s = true
instance (s : ByteArray) : Decidable (Bits01 s) := inferInstanceAs (Decidable (_ = true))
theorem bit01_iff (c : UInt8) : bit01 c = true ↔ (c.toNat : Int) = 48 ∨ (c.toNat : Int) = 49 := by
 unfold bit01
 have h48 : c = 48 ↔ c.toNat = 48 := ⟨fun h => by rw [h]; rfl, fun h => UInt8.toNat_inj.1 h⟩
 have h49 : c = 49 ↔ c.toNat = 49 := ⟨fun h => by rw [h]; rfl, fun h => UInt8.toNat_inj.1 h⟩
 simp only [Bool.or_eq_true, beq_iff_eq, h48, h49]
 omega
abbrev FixG (m n q : Int) (s : ByteArray) : Prop := -m < n ∧ n < m ∧ 0 ≤ q ∧ q ≤ 31 ∧ s.toList = []
abbrev FltG (n q : Int) (s : ByteArray) : Prop := (n = 0 ∧ q = 0 ∨ n ≠ 0 ∧ -1000000000000000 < n ∧ n < 1000000000000000 ∧ n.tmod 10 ≠ 0 ∧ -75 ≤ ((digs n.natAbs).length : Int) + q - 1 ∧ ((digs n.natAbs).length : Int) + q - 1 ≤ 75) ∧ s.toList = []
abbrev TxtG (n q : Int) (s : ByteArray) : Prop := n = 0 ∧ q = 0 ∧ (s.size : Int) ≤ 250
abbrev BitG (n q : Int) (s : ByteArray) : Prop := (n = 0 ∧ q = 0 ∧ (s.size : Int) ≤ 250) ∧ Bits01 s
abbrev PtrG (n q : Int) (s : ByteArray) : Prop := 0 ≤ n ∧ n ≤ 1000000000 ∧ q = 0 ∧ s.toList = []
abbrev PlcG (n q : Int) (s : ByteArray) : Prop := 0 ≤ n ∧ n ≤ 1000000000 ∧ 0 ≤ q ∧ q ≤ 1000000000 ∧ s.toList = []
def GoodP (k n q : Int) (s : ByteArray) : Prop :=
 if k = 1 then FixG 2147483648 n q s else if k = 2 then FixG 1000000000000000 n q s else if k = 3 then FltG n q s
 else if k = 4 then TxtG n q s else if k = 5 then BitG n q s else if k = 6 then TxtG n q s else if k = 7 then PtrG n q s
 else if k = 8 then PlcG n q s else if k = 9 then PlcG n q s else False
theorem good_1 (n q : Int) (s : ByteArray) : GoodP 1 n q s = FixG 2147483648 n q s := by simp [GoodP]
theorem good_2 (n q : Int) (s : ByteArray) : GoodP 2 n q s = FixG 1000000000000000 n q s := by simp [GoodP]
theorem good_3 (n q : Int) (s : ByteArray) : GoodP 3 n q s = FltG n q s := by unfold GoodP; simp only [show ¬ ((3 : Int) = 1) by decide, show ¬ ((3 : Int) = 2) by decide, if_true, if_false]
theorem good_4 (n q : Int) (s : ByteArray) : GoodP 4 n q s = TxtG n q s := by simp [GoodP]
theorem good_5 (n q : Int) (s : ByteArray) : GoodP 5 n q s = BitG n q s := by unfold GoodP; simp only [show ¬ ((5 : Int) = 1) by decide, show ¬ ((5 : Int) = 2) by decide, show ¬ ((5 : Int) = 3) by decide, show ¬ ((5 : Int) = 4) by decide, if_true, if_false]
theorem good_6 (n q : Int) (s : ByteArray) : GoodP 6 n q s = TxtG n q s := by simp [GoodP]
theorem good_7 (n q : Int) (s : ByteArray) : GoodP 7 n q s = PtrG n q s := by simp [GoodP]
theorem good_8 (n q : Int) (s : ByteArray) : GoodP 8 n q s = PlcG n q s := by simp [GoodP]
theorem good_9 (n q : Int) (s : ByteArray) : GoodP 9 n q s = PlcG n q s := by simp [GoodP]
theorem good_0 (k n q : Int) (s : ByteArray) (hk : k < 1 ∨ 10 ≤ k) : GoodP k n q s = False := by
 unfold GoodP
 repeat rw [if_neg (by omega)]
theorem fix_iff {m n q : Int} {s : ByteArray} (h : s.toList = []) : FixG m n q s ↔ -m < n ∧ n < m ∧ 0 ≤ q ∧ q ≤ 31 := ⟨fun a => ⟨a.1, a.2.1, a.2.2.1, a.2.2.2.1⟩, fun a => ⟨a.1, a.2.1, a.2.2.1, a.2.2.2, h⟩⟩
theorem plc_iff {n q : Int} {s : ByteArray} (h : s.toList = []) : PlcG n q s ↔ 0 ≤ n ∧ n ≤ 1000000000 ∧ 0 ≤ q ∧ q ≤ 1000000000 := ⟨fun a => ⟨a.1, a.2.1, a.2.2.1, a.2.2.2.1⟩, fun a => ⟨a.1, a.2.1, a.2.2.1, a.2.2.2, h⟩⟩
theorem ptr_iff {n q : Int} {s : ByteArray} (h : s.toList = []) : PtrG n q s ↔ 0 ≤ n ∧ n ≤ 1000000000 ∧ q = 0 := ⟨fun a => ⟨a.1, a.2.1, a.2.2.1⟩, fun a => ⟨a.1, a.2.1, a.2.2, h⟩⟩
theorem list_ne {s : ByteArray} (h : ¬ s.toList = []) : s.toList.isEmpty = false := by cases e : s.toList with | nil => exact absurd e h | cons a b => rfl
theorem list_nil {s : ByteArray} (h : s.toList = []) : s.toList.isEmpty = true := by rw [h]; rfl
set_option maxRecDepth 100000 in
set_option maxHeartbeats 1000000 in
theorem bits01_any (s : ByteArray) (w : World) (hl : (s.size : Int) ≤ 100000) :
   Calls Tryz.prog 105 #[.string s] w fun e w' => e = .returned (.bool (all01 s)) ∧ w' = w := by
 go_enter Tryz.func105, Tryz.ntmps105
 go_wp2
 go_loop [3] (fun i => ∃ k : Nat, k ≤ s.size ∧ i = .int .i64 k ∧ Hid ((s.data.toList.take k).all bit01 = true)) (fun i => s.size - (intOf i).toNat)
 case atStart => exact ⟨0, Nat.zero_le _, rfl, rfl⟩
 case round =>
   obtain ⟨k, hk, rfl, HT⟩ := hrel
   by_cases hlt : k < s.size
   · have hsn := take_snoc s k hlt
     have HS := Lib.hid hsn
     clear hsn
     cases hc : bit01 s[k] with
     | true =>
       have HC := Lib.hid hc
       have hv := (bit01_iff _).1 hc
       clear hc
       rcases hv with h | h
       · have e1 : ((s[k].toNat : Int) != 48) = false := by rw [h]; rfl
         clear h
         go_wp2
         go_round
         case rel => exact ⟨k + 1, by omega, by go_num, all_snoc HS.out HT.out HC.out⟩
         case measure => simp [intOf]; omega
       · have e1 : ((s[k].toNat : Int) != 48) = true := by rw [h]; rfl
         have e2 : ((s[k].toNat : Int) != 49) = false := by rw [h]; rfl
         clear h
         go_wp2
         go_round
         case rel => exact ⟨k + 1, by omega, by go_num, all_snoc HS.out HT.out HC.out⟩
         case measure => simp [intOf]; omega
     | false =>
       have hfin : all01 s = false := by
         rw [all01, List.all_eq_false]
         exact ⟨s[k], get_mem s k hlt, by rw [hc]; decide⟩
       have HF := Lib.hid hfin
       have hn : ¬ ((s[k].toNat : Int) = 48 ∨ (s[k].toNat : Int) = 49) := fun e => by rw [(bit01_iff _).2 e] at hc; cases hc
       have e1 : ((s[k].toNat : Int) != 48) = true := by simp only [bne_iff_ne]; omega
       have e2 : ((s[k].toNat : Int) != 49) = true := by simp only [bne_iff_ne]; omega
       clear hfin hc hn
       go_wp2
       go_ret
       exact ⟨ret_bool HF.out.symm, rfl⟩
   · have hfin : s.data.toList.take k = s.data.toList := List.take_of_length_le (by rw [lsz]; omega)
     have HF := Lib.hid hfin
     clear hfin
     go_wp2
     go_ret
     exact ⟨ret_bool (by rw [all01, ← HF.out]; exact HT.out.symm), rfl⟩
set_option maxRecDepth 100000 in
set_option maxHeartbeats 800000 in
theorem gRef_1 (n q : Int) (s : ByteArray) (w : World) :
   Calls Tryz.prog 50 #[valV 1 n q s] w (IffB (FixG 2147483648 n q s) w) := by
 by_cases hs : s.toList = []
 · have hs1 := list_nil hs
   have HS := Lib.hid hs
   clear hs
   go_enter Tryz.func50, Tryz.ntmps50
   go_wp2_with (go_at_call 51; refine (numericB 1 true _ (by decide)).mono ?_; rintro e w' ⟨rfl, rfl⟩)
   all_goals
     go_ret
     refine iffB _ ?_ (by go_grown)
     rw [fix_iff HS.out]
     simp_all
     try omega
 · have hs1 := list_ne hs
   have HS := Lib.hid hs
   clear hs
   go_enter Tryz.func50, Tryz.ntmps50
   go_wp2_with (go_at_call 51; refine (numericB 1 true _ (by decide)).mono ?_; rintro e w' ⟨rfl, rfl⟩)
   go_ret
   exact iffB _ ⟨fun h => (by cases h), fun h => absurd h.2.2.2.2 HS.out⟩ (by go_grown)
set_option maxRecDepth 100000 in
set_option maxHeartbeats 800000 in
theorem gRef_2 (n q : Int) (s : ByteArray) (w : World) :
   Calls Tryz.prog 50 #[valV 2 n q s] w (IffB (FixG 1000000000000000 n q s) w) := by
 by_cases hs : s.toList = []
 · have hs1 := list_nil hs
   have HS := Lib.hid hs
   clear hs
   go_enter Tryz.func50, Tryz.ntmps50
   go_wp2_with (go_at_call 51; refine (numericB 2 true _ (by decide)).mono ?_; rintro e w' ⟨rfl, rfl⟩)
   all_goals
     go_ret
     refine iffB _ ?_ (by go_grown)
     rw [fix_iff HS.out]
     simp_all
     try omega
 · have hs1 := list_ne hs
   have HS := Lib.hid hs
   clear hs
   go_enter Tryz.func50, Tryz.ntmps50
   go_wp2_with (go_at_call 51; refine (numericB 2 true _ (by decide)).mono ?_; rintro e w' ⟨rfl, rfl⟩)
   go_ret
   exact iffB _ ⟨fun h => (by cases h), fun h => absurd h.2.2.2.2 HS.out⟩ (by go_grown)
set_option maxRecDepth 100000 in
set_option maxHeartbeats 800000 in
theorem gRef_4 (n q : Int) (s : ByteArray) (w : World) (_hs : s.size ≤ maxLen) :
   Calls Tryz.prog 50 #[valV 4 n q s] w (IffB (TxtG n q s) w) := by
 unfold maxLen at _hs
 go_enter Tryz.func50, Tryz.ntmps50
 go_wp2_with (go_at_call 51; refine (numericB 4 false _ (by decide)).mono ?_; rintro e w' ⟨rfl, rfl⟩)
 all_goals
   go_ret
   refine iffB _ ?_ (by go_grown)
   simp_all
   try omega
set_option maxRecDepth 100000 in
set_option maxHeartbeats 800000 in
theorem gRef_6 (n q : Int) (s : ByteArray) (w : World) (_hs : s.size ≤ maxLen) :
   Calls Tryz.prog 50 #[valV 6 n q s] w (IffB (TxtG n q s) w) := by
 unfold maxLen at _hs
 go_enter Tryz.func50, Tryz.ntmps50
 go_wp2_with (go_at_call 51; refine (numericB 6 false _ (by decide)).mono ?_; rintro e w' ⟨rfl, rfl⟩)
 all_goals
   go_ret
   refine iffB _ ?_ (by go_grown)
   simp_all
   try omega
set_option maxRecDepth 100000 in
set_option maxHeartbeats 800000 in
theorem gRef_7 (n q : Int) (s : ByteArray) (w : World) :
   Calls Tryz.prog 50 #[valV 7 n q s] w (IffB (PtrG n q s) w) := by
 by_cases hs : s.toList = []
 · have hs1 := list_nil hs
   have HS := Lib.hid hs
   clear hs
   go_enter Tryz.func50, Tryz.ntmps50
   go_wp2_with (go_at_call 51; refine (numericB 7 false _ (by decide)).mono ?_; rintro e w' ⟨rfl, rfl⟩)
   all_goals
     go_ret
     refine iffB _ ?_ (by go_grown)
     rw [ptr_iff HS.out]
     simp_all
     try omega
 · have hs1 := list_ne hs
   have HS := Lib.hid hs
   clear hs
   go_enter Tryz.func50, Tryz.ntmps50
   go_wp2_with (go_at_call 51; refine (numericB 7 false _ (by decide)).mono ?_; rintro e w' ⟨rfl, rfl⟩)
   all_goals
     go_ret
     exact iffB _ ⟨fun h => (by cases h), fun h => absurd h.2.2.2 HS.out⟩ (by go_grown)
set_option maxRecDepth 100000 in
set_option maxHeartbeats 800000 in
theorem gRef_8 (n q : Int) (s : ByteArray) (w : World) :
   Calls Tryz.prog 50 #[valV 8 n q s] w (IffB (PlcG n q s) w) := by
 by_cases hs : s.toList = []
 · have hs1 := list_nil hs
   have HS := Lib.hid hs
   clear hs
   go_enter Tryz.func50, Tryz.ntmps50
   go_wp2_with (go_at_call 51; refine (numericB 8 false _ (by decide)).mono ?_; rintro e w' ⟨rfl, rfl⟩)
   all_goals
     go_ret
     refine iffB _ ?_ (by go_grown)
     rw [plc_iff HS.out]
     simp_all
     try omega
 · have hs1 := list_ne hs
   have HS := Lib.hid hs
   clear hs
   go_enter Tryz.func50, Tryz.ntmps50
   go_wp2_with (go_at_call 51; refine (numericB 8 false _ (by decide)).mono ?_; rintro e w' ⟨rfl, rfl⟩)
   all_goals
     go_ret
     exact iffB _ ⟨fun h => (by cases h), fun h => absurd h.2.2.2.2 HS.out⟩ (by go_grown)
set_option maxRecDepth 100000 in
set_option maxHeartbeats 800000 in
theorem gRef_9 (n q : Int) (s : ByteArray) (w : World) :
   Calls Tryz.prog 50 #[valV 9 n q s] w (IffB (PlcG n q s) w) := by
 by_cases hs : s.toList = []
 · have hs1 := list_nil hs
   have HS := Lib.hid hs
   clear hs
   go_enter Tryz.func50, Tryz.ntmps50
   go_wp2_with (go_at_call 51; refine (numericB 9 false _ (by decide)).mono ?_; rintro e w' ⟨rfl, rfl⟩)
   all_goals
     go_ret
     refine iffB _ ?_ (by go_grown)
     rw [plc_iff HS.out]
     simp_all
     try omega
 · have hs1 := list_ne hs
   have HS := Lib.hid hs
   clear hs
   go_enter Tryz.func50, Tryz.ntmps50
   go_wp2_with (go_at_call 51; refine (numericB 9 false _ (by decide)).mono ?_; rintro e w' ⟨rfl, rfl⟩)
   all_goals
     go_ret
     exact iffB _ ⟨fun h => (by cases h), fun h => absurd h.2.2.2.2 HS.out⟩ (by go_grown)
set_option maxRecDepth 100000 in
set_option maxHeartbeats 4000000 in
theorem gRef_5 (n q : Int) (s : ByteArray) (w : World) (hs : s.size ≤ maxLen) :
   Calls Tryz.prog 50 #[valV 5 n q s] w (IffB (BitG n q s) w) := by
 unfold maxLen at hs
 by_cases h1 : n = 0 ∧ q = 0 ∧ (s.size : Int) ≤ 250
 · obtain ⟨rfl, rfl, h3⟩ := h1
   have HB : Hid ((s.size : Int) ≤ 100000) := Lib.hid (by omega)
   have H3 := Lib.hid h3
   obtain ⟨b, hb⟩ : ∃ b, all01 s = b := ⟨_, rfl⟩
   have HBB := Lib.hid hb
   go_enter Tryz.func50, Tryz.ntmps50
   go_wp2_with (first | (go_at_call 51; refine (numericB 5 false _ (by decide)).mono ?_; rintro e w' ⟨rfl, rfl⟩) | (go_at_call 105; refine (bits01_any s _ HB.out).mono ?_; rw [hb]; rintro e w1 ⟨rfl, rfl⟩))
   go_ret
   exact iffB _ ⟨fun h => ⟨⟨rfl, rfl, H3.out⟩, HBB.out.trans h⟩, fun h => HBB.out.symm.trans h.2⟩ (by go_grown)
 · have H1 := Lib.hid h1
   go_enter Tryz.func50, Tryz.ntmps50
   go_wp2_with (go_at_call 51; refine (numericB 5 false _ (by decide)).mono ?_; rintro e w' ⟨rfl, rfl⟩)
   all_goals
     go_ret
     exact iffB _ ⟨fun h => (by first | (cases h; done) | (exfalso; simp at h; omega)), fun h => (by first | exact absurd h.1 H1.out | (exfalso; have := h.1; omega))⟩ (by go_grown)
set_option maxRecDepth 100000 in
set_option maxHeartbeats 4000000 in
theorem gRef_3 (n q : Int) (s : ByteArray) (w : World) :
   Calls Tryz.prog 50 #[valV 3 n q s] w (IffB (FltG n q s) w) := by
 by_cases hs0 : s.toList = []
 · have hs1 := list_nil hs0
   have HS0 := Lib.hid hs0
   clear hs0
   by_cases hn : n = 0
   · subst hn
     go_enter Tryz.func50, Tryz.ntmps50
     go_wp2_with (go_at_call 51; refine (numericB 3 true _ (by decide)).mono ?_; rintro e w' ⟨rfl, rfl⟩)
     go_ret
     refine iffB _ ?_ (by go_grown)
     have hs := HS0.out
     simp [FltG, hs]
   · have hn0 : (n == 0) = false := by simpa using hn
     by_cases hr : -1000000000000000 < n ∧ n < 1000000000000000 ∧ -1000 ≤ q ∧ q ≤ 1000
     · obtain ⟨r1, r2, r3, r4⟩ := hr
       have HL := digs_length n.natAbs 15 (by omega)
       have L0 : (0 : Int) ≤ ((digs n.natAbs).length : Int) := by omega
       have L1 : ((digs n.natAbs).length : Int) ≤ 15 := by omega
       generalize hL : ((digs n.natAbs).length : Int) = L at L0 L1
       have HE := Lib.hid hL
       clear hL HL
       by_cases hm : n.tmod 10 = 0
       · have hm0 : (n.tmod 10 == 0) = true := by simpa using hm
         have HM := Lib.hid hm
         clear hm
         go_enter Tryz.func50, Tryz.ntmps50
         go_wp2_with (go_at_call 51; refine (numericB 3 true _ (by decide)).mono ?_; rintro e w' ⟨rfl, rfl⟩)
         all_goals first
           | (exfalso; omega)
           | (go_ret
              refine iffB _ ⟨fun h => (by cases h), fun h => ?_⟩ (by go_grown)
              rcases h.1 with h | h
              · exact absurd h.1 hn
              · exact absurd HM.out h.2.2.2.1)
       · have hm0 : (n.tmod 10 == 0) = false := by simpa using hm
         have HM := Lib.hid hm
         clear hm
         go_enter Tryz.func50, Tryz.ntmps50
         go_wp2_with (go_at_call 51; refine (numericB 3 true _ (by decide)).mono ?_; rintro e w' ⟨rfl, rfl⟩)
         all_goals first
           | (exfalso; omega)
           | skip
         go_region_held3 (fun w' => w'.cell? ⟨w.heap.size, 1, none⟩ = some (.int .i64 n) ∧ w'.cell? ⟨w.heap.size, 2, none⟩ = some (.int .i64 q))
           (first | go_keep | (go_split_ands; refine ⟨?_, ?_⟩ <;> (rw [hb1.cell (by simp <;> omega)]; go_simp)))
           (first
             | (go_at_call 104; refine (size_any n _ (by omega) (by omega)).mono ?_; rintro e w1 ⟨rfl, hb1⟩; have hE := HE.out; rw [hE]; clear hE; have hz1 := hb1.size))
         have hW : Below w.heap.size w w1 := (((Below.refl _ w).alloc (Nat.le_refl _) _).drew).trans (hb1.mono (by simp))
         go_wp2
         all_goals
           go_ret
           refine iffB _ ?_ hW
           have hs := HS0.out
           have hm := HM.out
           have hE := HE.out
           rw [FltG, hE]
           simp_all
           try omega
     · have HR := Lib.hid hr
       go_enter Tryz.func50, Tryz.ntmps50
       go_wp2_with (go_at_call 51; refine (numericB 3 true _ (by decide)).mono ?_; rintro e w' ⟨rfl, rfl⟩)
       all_goals first
         | (go_ret
            refine iffB _ ⟨fun h => (by cases h), fun h => ?_⟩ (by go_grown)
            rcases h.1 with h | h
            · exact absurd h.1 hn
            · have HL := digs_length n.natAbs 15 (by omega)
              have hR := HR.out
              exfalso
              omega)
         | (exfalso; omega)
 · have hs1 := list_ne hs0
   have HS0 := Lib.hid hs0
   clear hs0
   go_enter Tryz.func50, Tryz.ntmps50
   go_wp2_with (go_at_call 51; refine (numericB 3 true _ (by decide)).mono ?_; rintro e w' ⟨rfl, rfl⟩)
   go_ret
   exact iffB _ ⟨fun h => (by cases h), fun h => absurd h.2 HS0.out⟩ (by go_grown)
set_option maxRecDepth 100000 in
set_option maxHeartbeats 4000000 in
theorem gRef_0 (k n q : Int) (s : ByteArray) (w : World) (hk : k < 1 ∨ 10 ≤ k) :
   Calls Tryz.prog 50 #[valV k n q s] w (IffB False w) := by
 have e1 : (k == 1) = false := by rw [beq_eq_false_iff_ne]; omega
 have e2 : (k == 2) = false := by rw [beq_eq_false_iff_ne]; omega
 have e3 : (k == 3) = false := by rw [beq_eq_false_iff_ne]; omega
 have e4 : (k == 4) = false := by rw [beq_eq_false_iff_ne]; omega
 have e5 : (k == 5) = false := by rw [beq_eq_false_iff_ne]; omega
 have e6 : (k == 6) = false := by rw [beq_eq_false_iff_ne]; omega
 have e7 : (k == 7) = false := by rw [beq_eq_false_iff_ne]; omega
 have e8 : (k == 8) = false := by rw [beq_eq_false_iff_ne]; omega
 have e9 : (k == 9) = false := by rw [beq_eq_false_iff_ne]; omega
 have H := Lib.hid hk
 by_cases hs0 : s.toList = []
 · have hs1 := list_nil hs0
   clear hs0
   rcases hk with hk | hk
   all_goals
     go_enter Tryz.func50, Tryz.ntmps50
     go_wp2_with (go_at_call 51; refine (numeric_not _ _ H.out).mono ?_; rintro e w' ⟨rfl, rfl⟩)
     all_goals
       go_ret
       exact iffB false (by simp) (by go_grown)
 · have hs1 := list_ne hs0
   clear hs0
   rcases hk with hk | hk
   all_goals
     go_enter Tryz.func50, Tryz.ntmps50
     go_wp2_with (go_at_call 51; refine (numeric_not _ _ H.out).mono ?_; rintro e w' ⟨rfl, rfl⟩)
     all_goals
       go_ret
       exact iffB false (by simp) (by go_grown)
theorem gRef (k n q : Int) (s : ByteArray) (w : World) (hs : s.size ≤ maxLen) :
   Calls Tryz.prog 50 #[valV k n q s] w (IffB (GoodP k n q s) w) := by
 by_cases h : k < 1 ∨ 10 ≤ k
 · rw [good_0 k n q s h]; exact gRef_0 k n q s w h
 · obtain rfl | rfl | rfl | rfl | rfl | rfl | rfl | rfl | rfl : k = 1 ∨ k = 2 ∨ k = 3 ∨ k = 4 ∨ k = 5 ∨ k = 6 ∨ k = 7 ∨ k = 8 ∨ k = 9 := by omega
   · rw [good_1]; exact gRef_1 n q s w
   · rw [good_2]; exact gRef_2 n q s w
   · rw [good_3]; exact gRef_3 n q s w
   · rw [good_4]; exact gRef_4 n q s w hs
   · rw [good_5]; exact gRef_5 n q s w hs
   · rw [good_6]; exact gRef_6 n q s w hs
   · rw [good_7]; exact gRef_7 n q s w
   · rw [good_8]; exact gRef_8 n q s w
   · rw [good_9]; exact gRef_9 n q s w
end Go.Proofs.YtpdoddhieblooaaGreatDoor
