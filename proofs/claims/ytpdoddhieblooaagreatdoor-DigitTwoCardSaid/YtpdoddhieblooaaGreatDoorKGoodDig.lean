/- digit.Right of floats. digit.Right of bits; of any value. digit.Right, of any value, exactly. -/
import Derived.Test.YtpdoddhieblooaaGreatDoorKWrdIter
import Derived.Test.YtpdoddhieblooaaGreatDoorKTwoLaw
import Derived.Test.YtpdoddhieblooaaGreatDoorKShelfStr
import Derived.Test.YtpdoddhieblooaaGreatDoorKGood
namespace Go.Proofs.YtpdoddhieblooaaGreatDoor
open Go.RowKit

end Go.Proofs.YtpdoddhieblooaaGreatDoor
namespace Go.Proofs.YtpdoddhieblooaaGreatDoor
open Go.RowKit

end Go.Proofs.YtpdoddhieblooaaGreatDoor
namespace Go.Proofs.YtpdoddhieblooaaGreatDoor
open Go.RowKit

theorem dw_head {p : UInt8 → Bool} {a : UInt8} : ∀ {l t : List UInt8}, l.dropWhile p = a :: t → p a = false := by
 intro l
 induction l with
 | nil => intro t h; cases h
 | cons c l ih =>
   intro t h
   rw [List.dropWhile_cons] at h
   split at h
   · exact ih h
   · injection h with h1 h2
     subst h1
     simpa using ‹¬ p c = true›
theorem trimS_nil (l cs : List UInt8) : Lib.trimS l cs = [] ↔ l.all (cs.contains ·) = true := by
 have hd : ∀ (p : UInt8 → Bool) (l : List UInt8), l.dropWhile p = [] ↔ l.all p = true := by
   intro p l
   induction l with
   | nil => simp
   | cons c l ih =>
     rw [List.dropWhile_cons, List.all_cons]
     cases hp : p c <;> simp_all
 unfold Lib.trimS Lib.trimLeftS Lib.trimRightS
 rw [hd]
 constructor
 · intro h
   have h2 : l.reverse.dropWhile (cs.contains ·) = [] := by
     cases e : l.reverse.dropWhile (cs.contains ·) with
     | nil => rfl
     | cons a t =>
       rw [e, List.all_eq_true] at h
       have h3 : cs.contains a = true := h a (by simp)
       have h4 : cs.contains a = false := dw_head e
       rw [h3] at h4
       cases h4
   rw [hd, List.all_reverse] at h2
   exact h2
 · intro h
   have h2 : l.reverse.dropWhile (cs.contains ·) = [] := by rw [hd, List.all_reverse]; exact h
   rw [h2]
   rfl
theorem cut_01 (c : UInt8) : [48, 49].contains c = bit01 c := by
 simp [List.contains, List.elem, bit01]
 cases (c == 48) <;> cases (c == 49) <;> rfl
set_option maxHeartbeats 400000 in
theorem gFixed (m k n q : Int) (s : ByteArray) (w : World) (h1 : -9223372036854775807 ≤ m) (h2 : m ≤ 9223372036854775807) :
   Calls Tryz.prog 119 #[vaV k n q s, .int .i64 m] w (IffB (FixG m n q s) w) := by
 by_cases h : -m < n ∧ n < m
 · by_cases h' : 0 ≤ q ∧ q ≤ 31
   · have H := Lib.hid h; have H' := Lib.hid h'; clear h h'
     go_enter Tryz.func119, Tryz.ntmps119
     go_wp2_with (first
       | (go_at_call 126; refine (below_b true _ _ _ h1 h2 (by simpa using H.out)).mono ?_; rintro e w' ⟨rfl, rfl⟩)
       | (go_at_call 125; refine (within_b true _ _ _ _ (by simpa using H'.out)).mono ?_; rintro e w' ⟨rfl, rfl⟩))
     go_ret
     refine iffB _ ⟨fun h => ⟨H.out.1, H.out.2, H'.out.1, H'.out.2, by simpa using h⟩, fun h => by simpa using h.2.2.2.2⟩ (by go_grown)
   · have H := Lib.hid h; have H' := Lib.hid h'; clear h h'
     go_enter Tryz.func119, Tryz.ntmps119
     go_wp2_with (first
       | (go_at_call 126; refine (below_b true _ _ _ h1 h2 (by simpa using H.out)).mono ?_; rintro e w' ⟨rfl, rfl⟩)
       | (go_at_call 125; refine (within_b false _ _ _ _ (by simpa using H'.out)).mono ?_; rintro e w' ⟨rfl, rfl⟩))
     go_ret
     exact iffB false ⟨fun h => (by cases h), fun h => absurd ⟨h.2.2.1, h.2.2.2.1⟩ H'.out⟩ (by go_grown)
 · have H := Lib.hid h; clear h
   go_enter Tryz.func119, Tryz.ntmps119
   go_wp2_with (go_at_call 126; refine (below_b false _ _ _ h1 h2 (by simpa using H.out)).mono ?_; rintro e w' ⟨rfl, rfl⟩)
   go_ret
   exact iffB false ⟨fun h => (by cases h), fun h => absurd ⟨h.1, h.2.1⟩ H.out⟩ (by go_grown)
set_option maxHeartbeats 400000 in
theorem gBin (k n q : Int) (s : ByteArray) (w : World) :
   Calls Tryz.prog 74 #[vaV k n q s] w (IffB (FixG 2147483648 n q s) w) := by
 go_enter Tryz.func74, Tryz.ntmps74
 go_wp2_with (go_at_call 119; refine (gFixed _ _ _ _ _ _ (by omega) (by omega)).mono ?_; rintro e w' ⟨r, rfl, hr, hb⟩)
 go_ret
 exact iffB _ hr (below_then (by go_grown) hb (by simp))
set_option maxHeartbeats 400000 in
theorem gDec (k n q : Int) (s : ByteArray) (w : World) :
   Calls Tryz.prog 81 #[vaV k n q s] w (IffB (FixG 1000000000000000 n q s) w) := by
 go_enter Tryz.func81, Tryz.ntmps81
 go_wp2_with (go_at_call 119; refine (gFixed _ _ _ _ _ _ (by omega) (by omega)).mono ?_; rintro e w' ⟨r, rfl, hr, hb⟩)
 go_ret
 exact iffB _ hr (below_then (by go_grown) hb (by simp))
set_option maxHeartbeats 400000 in
theorem gText (k n q : Int) (s : ByteArray) (w : World) :
   Calls Tryz.prog 94 #[vaV k n q s] w (IffB (TxtG n q s) w) := by
 by_cases h : (s.size : Int) ≤ 250
 · by_cases h' : n = 0
   · subst h'
     go_enter Tryz.func94, Tryz.ntmps94
     go_wp2
     go_ret
     exact iffB _ (by simp [TxtG, h]) (by go_grown)
   · go_enter Tryz.func94, Tryz.ntmps94
     go_wp2
     go_ret
     exact iffB _ ⟨fun h => (by first | (cases h; done) | simp_all), fun h => absurd h.1 h'⟩ (by go_grown)
 · go_enter Tryz.func94, Tryz.ntmps94
   go_wp2
   go_ret
   exact iffB _ ⟨fun h => (by first | (cases h; done) | simp_all), fun h' => (by have := h'.2.2; omega)⟩ (by go_grown)
set_option maxHeartbeats 1000000 in
theorem gBits (k n q : Int) (s : ByteArray) (w : World) :
   Calls Tryz.prog 97 #[vaV k n q s] w (IffB (BitG n q s) w) := by
 obtain ⟨T, hT0⟩ : ∃ T : ByteArray, T = ⟨(Lib.trimS s.data.toList [48, 49]).toArray⟩ := ⟨_, rfl⟩
 have hT : Hid (s.size ≤ 250 → ∀ W, Calls Tryz.prog 140 #[.string s, .string ⟨#[48, 49]⟩] W fun e w' => e = .returned (.string T) ∧ Below W.heap.size W w') := Lib.hid fun h W => by
   rw [hT0]
   exact Tryz.strings_Trim s ⟨#[48, 49]⟩ W (by omega) (by decide) (ascii_of_all (by decide))
 have hE : Hid (T.toList = [] ↔ Bits01 s) := Lib.hid (by
   subst hT0
   rw [ByteArray.toList_eq]
   show (Lib.trimS s.data.toList [48, 49]).toArray.toList = [] ↔ _
   rw [List.toList_toArray, trimS_nil, Bits01, all01, show (fun c => [48, 49].contains c) = bit01 from funext cut_01])
 clear hT0
 have RA := Row.new w (vaC k n q s) 23
 go_enter Tryz.func97, Tryz.ntmps97
 go_wp2_with (first
   | (go_at_call 94; refine (gText _ _ _ _ _).mono ?_; rintro e w2 ⟨r, rfl, hr, hb2⟩; have R2 := RA.keep hb2; obtain ⟨x0, x1, x2, x3⟩ := R2.four; have HR := Lib.hid hr; have hB2 := Lib.hid (bl_box (Below.refl _ w) hb2); clear hr hb2; cases r)
   | (go_at_call 140; refine (hT.out (by have h := (HR.out.1 (by first | rfl | trivial)).2.2; omega) _).mono ?_; rintro e w3 ⟨rfl, hb3⟩; have hB3 := Lib.hid (bl_then hB2.out hb3); clear hb3))
 · show bodyPost _ _ _ _ _ _
   go_ret
   exact iffB false ⟨fun h => (by cases h), fun h => (by have := HR.out.2 h.1; cases this)⟩ hB2.out
 · show bodyPost _ _ _ _ _ _
   go_ret
   refine iffB _ ⟨fun h => ⟨HR.out.1 (by first | rfl | trivial), hE.out.1 (by simpa using h)⟩, fun h => ?_⟩ hB3.out
   have := hE.out.2 h.2
   simpa using this
set_option maxHeartbeats 400000 in
theorem gPointer (k n q : Int) (s : ByteArray) (w : World) :
   Calls Tryz.prog 102 #[vaV k n q s] w (IffB (PtrG n q s) w) := by
 rcases Bool.eq_false_or_eq_true (decide (0 ≤ n) && decide (n ≤ 1000000000)) with hx | hx
 all_goals
   have HX := Lib.hid hx
   clear hx
   by_cases h' : q = 0
   all_goals
     go_enter Tryz.func102, Tryz.ntmps102
     go_wp2_with (go_at_call 125; refine (within_any _ _ _ _).mono ?_; rw [HX.out]; rintro e w' ⟨rfl, rfl⟩)
     go_ret
     refine iffB _ ?_ (by go_grown)
     have hx := HX.out
     simp only [Bool.and_eq_true, Bool.and_eq_false_iff, decide_eq_true_eq, decide_eq_false_iff_not] at hx
     first | (simp [h', hx]; done) | (constructor <;> intro hh <;> simp_all [PtrG] <;> omega)
set_option maxHeartbeats 400000 in
theorem gPlace (k n q : Int) (s : ByteArray) (w : World) :
   Calls Tryz.prog 103 #[vaV k n q s] w (IffB (PlcG n q s) w) := by
 rcases Bool.eq_false_or_eq_true (decide (0 ≤ n) && decide (n ≤ 1000000000)) with hx | hx
 all_goals
   have HX := Lib.hid hx
   clear hx
   rcases Bool.eq_false_or_eq_true (decide (0 ≤ q) && decide (q ≤ 1000000000)) with hy | hy
   all_goals
     have HY := Lib.hid hy
     clear hy
     go_enter Tryz.func103, Tryz.ntmps103
     go_wp2_with (go_at_call 125; refine (within_any _ _ _ _).mono ?_; (first | rw [HX.out] | rw [HY.out]); rintro e w' ⟨rfl, rfl⟩)
     go_ret
     refine iffB _ ?_ (by go_grown)
     have hx := HX.out
     have hy := HY.out
     simp only [Bool.and_eq_true, Bool.and_eq_false_iff, decide_eq_true_eq, decide_eq_false_iff_not] at hx hy
     first | (simp [hx, hy]; done) | (constructor <;> intro hh <;> simp_all [PlcG] <;> omega)
set_option maxHeartbeats 1000000 in
theorem gFloat (k n q : Int) (s : ByteArray) (w : World) :
   Calls Tryz.prog 87 #[vaV k n q s] w (IffB (FltG n q s) w) := by
 by_cases hn : n = 0
 · subst hn
   by_cases hq : q = 0
   · subst hq
     go_enter Tryz.func87, Tryz.ntmps87
     go_wp2
     go_ret
     exact iffB _ (by simp [FltG]) (by go_grown)
   · go_enter Tryz.func87, Tryz.ntmps87
     go_wp2
     go_ret
     exact iffB false ⟨fun h => (by cases h), fun h => (by rcases h.1 with h | h; exact absurd h.2 hq; exact absurd rfl h.1)⟩ (by go_grown)
 · by_cases hb : -1000000000000000 < n ∧ n < 1000000000000000
   · have HB := Lib.hid hb
     have HN := Lib.hid hn
     obtain ⟨L, hL⟩ : ∃ L, (digs n.natAbs).length = L := ⟨_, rfl⟩
     have hL1 : L ≤ 15 := by rw [← hL]; exact digs_length _ _ (by omega)
     have HM : Hid (∀ W, Calls Tryz.prog 127 #[.int .i64 n] W (GivesW W n.natAbs)) := Lib.hid fun W => magnitude_d n W (by omega) (by omega)
     have HLn : Hid (∀ (v : Value) (W : World) (B : Nat), WArg B W v n.natAbs → Calls Tryz.prog 128 #[v] W fun e w' => e = .returned (.int .i64 (L : Int)) ∧ Below W.heap.size W w') := Lib.hid fun v W B h => by
       rw [← hL]; exact length_d h (Nat.le_trans (wrds_length n.natAbs 2 (by omega)) (by decide)) (by omega)
     have HL := Lib.hid hL
     have HL1 := Lib.hid hL1
     clear hb hL
     have RA := Row.new w (vaC k n q s) 23
     have w1 : IntKind.i64.wrap ((L : Int) - 1) = (L : Int) - 1 := IntWalk.i64_in _ (by omega)
     have w2 : IntKind.i64.wrap (-75 - ((L : Int) - 1)) = -75 - ((L : Int) - 1) := IntWalk.i64_in _ (by omega)
     have w3 : IntKind.i64.wrap (75 - ((L : Int) - 1)) = 75 - ((L : Int) - 1) := IntWalk.i64_in _ (by omega)
     by_cases hm : n.tmod 10 = 0
     · have hm0 : (n.tmod 10 == 0) = true := by simpa using hm
       have HT := Lib.hid hm
       clear hm
       go_enter Tryz.func87, Tryz.ntmps87
       go_wp2_with (first
         | (go_at_call 126; refine (below_b true _ _ _ (by omega) (by omega) (by simpa using HB.out)).mono ?_; rintro e w' ⟨rfl, rfl⟩))
       go_ret
       refine iffB false ⟨fun h => (by cases h), fun h => ?_⟩ (by go_grown)
       rcases h.1 with h | h
       · exact absurd h.1 HN.out
       · exact absurd HT.out h.2.2.2.1
     · have hm0 : (n.tmod 10 == 0) = false := by simpa using hm
       have HT := Lib.hid hm
       clear hm
       by_cases hs : s.toList = []
       · have hs1 := list_nil hs
         have HS := Lib.hid hs
         clear hs
         go_enter Tryz.func87, Tryz.ntmps87
         go_wp2_with (first
           | (go_at_call 126; refine (below_b true _ _ _ (by omega) (by omega) (by simpa using HB.out)).mono ?_; rintro e w' ⟨rfl, rfl⟩)
           | (go_at_call 127; refine (HM.out _).mono ?_; rintro e w2 ⟨v2, rfl, W2, hb2⟩; have R2 := RA.keep hb2)
           | (go_at_call 128; refine (HLn.out _ _ _ W2).mono ?_; rintro e w3 ⟨rfl, hb3⟩; have R3 := R2.keep hb3; obtain ⟨x0, x1, x2, x3⟩ := R3.four)
           | (go_at_call 125; refine (within_any _ _ _ _).mono ?_; rintro e w4 ⟨rfl, rfl⟩))
         go_ret
         refine iffB _ ⟨fun h => ⟨.inr ⟨HN.out, HB.out.1, HB.out.2, HT.out, ?_⟩, HS.out⟩, fun h => ?_⟩ (bl_then (bl_box (Below.refl _ w) hb2) hb3)
         · simp at h
           have e := HL.out
           rw [e]
           constructor <;> omega
         · rcases h.1 with h | h
           · exact absurd h.1 HN.out
           · have e := HL.out
             have h5 := h.2.2.2.2
             rw [e] at h5
             simp
             constructor <;> omega
       · have hs1 := list_ne hs
         have HS := Lib.hid hs
         clear hs
         go_enter Tryz.func87, Tryz.ntmps87
         go_wp2_with (first
           | (go_at_call 126; refine (below_b true _ _ _ (by omega) (by omega) (by simpa using HB.out)).mono ?_; rintro e w' ⟨rfl, rfl⟩))
         go_ret
         exact iffB false ⟨fun h => (by cases h), fun h => absurd h.2 HS.out⟩ (by go_grown)
   · have HB := Lib.hid hb
     have HN := Lib.hid hn
     clear hb
     go_enter Tryz.func87, Tryz.ntmps87
     go_wp2_with (go_at_call 126; refine (below_b false _ _ _ (by omega) (by omega) (by simpa using HB.out)).mono ?_; rintro e w' ⟨rfl, rfl⟩)
     go_ret
     refine iffB false ⟨fun h => (by cases h), fun h => ?_⟩ (by go_grown)
     rcases h.1 with h | h
     · exact absurd h.1 HN.out
     · exact absurd ⟨h.2.1, h.2.2.1⟩ HB.out
set_option maxHeartbeats 400000 in
theorem gDig_1 (n q : Int) (s : ByteArray) (w : World) :
   Calls Tryz.prog 46 #[vaV 1 n q s] w (IffB (FixG 2147483648 n q s) w) := by
 have hfd := fld_1
 have hn : ∀ (f : Nat) (w : World), (binOp .neq 66 (fnv f) .nilFunc).run Tryz.prog w = .ok (.bool true) w := fun _ _ => by kernel_rfl
 go_enter Tryz.func46, Tryz.ntmps46
 go_wp2_with (first
   | (go_at_call 44; refine (rules_1 _).mono ?_; rintro e w1 ⟨rfl, hb⟩; obtain ⟨hc, hf⟩ := bcell hb)
   | (go_at_call 74; refine (gBin _ _ _ _ _).mono ?_; rintro e w2 ⟨r, rfl, hr, hb2⟩))
 go_ret
 exact iffB _ hr (below_then (below_then (by go_grown) hb (by simp)) hb2 (by have := hb.size; simp at this ⊢; omega))
set_option maxHeartbeats 400000 in
theorem gDig_2 (n q : Int) (s : ByteArray) (w : World) :
   Calls Tryz.prog 46 #[vaV 2 n q s] w (IffB (FixG 1000000000000000 n q s) w) := by
 have hfd := fld_1
 have hn : ∀ (f : Nat) (w : World), (binOp .neq 66 (fnv f) .nilFunc).run Tryz.prog w = .ok (.bool true) w := fun _ _ => by kernel_rfl
 go_enter Tryz.func46, Tryz.ntmps46
 go_wp2_with (first
   | (go_at_call 44; refine (rules_2 _).mono ?_; rintro e w1 ⟨rfl, hb⟩; obtain ⟨hc, hf⟩ := bcell hb)
   | (go_at_call 81; refine (gDec _ _ _ _ _).mono ?_; rintro e w2 ⟨r, rfl, hr, hb2⟩))
 go_ret
 exact iffB _ hr (below_then (below_then (by go_grown) hb (by simp)) hb2 (by have := hb.size; simp at this ⊢; omega))
set_option maxHeartbeats 400000 in
theorem gDig_3 (n q : Int) (s : ByteArray) (w : World) :
   Calls Tryz.prog 46 #[vaV 3 n q s] w (IffB (FltG n q s) w) := by
 have hfd := fld_1
 have hn : ∀ (f : Nat) (w : World), (binOp .neq 66 (fnv f) .nilFunc).run Tryz.prog w = .ok (.bool true) w := fun _ _ => by kernel_rfl
 go_enter Tryz.func46, Tryz.ntmps46
 go_wp2_with (first
   | (go_at_call 44; refine (rules_3 _).mono ?_; rintro e w1 ⟨rfl, hb⟩; obtain ⟨hc, hf⟩ := bcell hb)
   | (go_at_call 87; refine (gFloat _ _ _ _ _).mono ?_; rintro e w2 ⟨r, rfl, hr, hb2⟩))
 go_ret
 exact iffB _ hr (below_then (below_then (by go_grown) hb (by simp)) hb2 (by have := hb.size; simp at this ⊢; omega))
set_option maxHeartbeats 400000 in
theorem gDig_4 (n q : Int) (s : ByteArray) (w : World) :
   Calls Tryz.prog 46 #[vaV 4 n q s] w (IffB (TxtG n q s) w) := by
 have hfd := fld_1
 have hn : ∀ (f : Nat) (w : World), (binOp .neq 66 (fnv f) .nilFunc).run Tryz.prog w = .ok (.bool true) w := fun _ _ => by kernel_rfl
 go_enter Tryz.func46, Tryz.ntmps46
 go_wp2_with (first
   | (go_at_call 44; refine (rules_4 _).mono ?_; rintro e w1 ⟨rfl, hb⟩; obtain ⟨hc, hf⟩ := bcell hb)
   | (go_at_call 94; refine (gText _ _ _ _ _).mono ?_; rintro e w2 ⟨r, rfl, hr, hb2⟩))
 go_ret
 exact iffB _ hr (below_then (below_then (by go_grown) hb (by simp)) hb2 (by have := hb.size; simp at this ⊢; omega))
set_option maxHeartbeats 400000 in
theorem gDig_5 (n q : Int) (s : ByteArray) (w : World) :
   Calls Tryz.prog 46 #[vaV 5 n q s] w (IffB (BitG n q s) w) := by
 have hfd := fld_1
 have hn : ∀ (f : Nat) (w : World), (binOp .neq 66 (fnv f) .nilFunc).run Tryz.prog w = .ok (.bool true) w := fun _ _ => by kernel_rfl
 go_enter Tryz.func46, Tryz.ntmps46
 go_wp2_with (first
   | (go_at_call 44; refine (rules_5 _).mono ?_; rintro e w1 ⟨rfl, hb⟩; obtain ⟨hc, hf⟩ := bcell hb)
   | (go_at_call 97; refine (gBits _ _ _ _ _).mono ?_; rintro e w2 ⟨r, rfl, hr, hb2⟩))
 go_ret
 exact iffB _ hr (below_then (below_then (by go_grown) hb (by simp)) hb2 (by have := hb.size; simp at this ⊢; omega))
set_option maxHeartbeats 400000 in
theorem gDig_6 (n q : Int) (s : ByteArray) (w : World) :
   Calls Tryz.prog 46 #[vaV 6 n q s] w (IffB (TxtG n q s) w) := by
 have hfd := fld_1
 have hn : ∀ (f : Nat) (w : World), (binOp .neq 66 (fnv f) .nilFunc).run Tryz.prog w = .ok (.bool true) w := fun _ _ => by kernel_rfl
 go_enter Tryz.func46, Tryz.ntmps46
 go_wp2_with (first
   | (go_at_call 44; refine (rules_6 _).mono ?_; rintro e w1 ⟨rfl, hb⟩; obtain ⟨hc, hf⟩ := bcell hb)
   | (go_at_call 94; refine (gText _ _ _ _ _).mono ?_; rintro e w2 ⟨r, rfl, hr, hb2⟩))
 go_ret
 exact iffB _ hr (below_then (below_then (by go_grown) hb (by simp)) hb2 (by have := hb.size; simp at this ⊢; omega))
set_option maxHeartbeats 400000 in
theorem gDig_7 (n q : Int) (s : ByteArray) (w : World) :
   Calls Tryz.prog 46 #[vaV 7 n q s] w (IffB (PtrG n q s) w) := by
 have hfd := fld_1
 have hn : ∀ (f : Nat) (w : World), (binOp .neq 66 (fnv f) .nilFunc).run Tryz.prog w = .ok (.bool true) w := fun _ _ => by kernel_rfl
 go_enter Tryz.func46, Tryz.ntmps46
 go_wp2_with (first
   | (go_at_call 44; refine (rules_7 _).mono ?_; rintro e w1 ⟨rfl, hb⟩; obtain ⟨hc, hf⟩ := bcell hb)
   | (go_at_call 102; refine (gPointer _ _ _ _ _).mono ?_; rintro e w2 ⟨r, rfl, hr, hb2⟩))
 go_ret
 exact iffB _ hr (below_then (below_then (by go_grown) hb (by simp)) hb2 (by have := hb.size; simp at this ⊢; omega))
set_option maxHeartbeats 400000 in
theorem gDig_8 (n q : Int) (s : ByteArray) (w : World) :
   Calls Tryz.prog 46 #[vaV 8 n q s] w (IffB (PlcG n q s) w) := by
 have hfd := fld_1
 have hn : ∀ (f : Nat) (w : World), (binOp .neq 66 (fnv f) .nilFunc).run Tryz.prog w = .ok (.bool true) w := fun _ _ => by kernel_rfl
 go_enter Tryz.func46, Tryz.ntmps46
 go_wp2_with (first
   | (go_at_call 44; refine (rules_8 _).mono ?_; rintro e w1 ⟨rfl, hb⟩; obtain ⟨hc, hf⟩ := bcell hb)
   | (go_at_call 103; refine (gPlace _ _ _ _ _).mono ?_; rintro e w2 ⟨r, rfl, hr, hb2⟩))
 go_ret
 exact iffB _ hr (below_then (below_then (by go_grown) hb (by simp)) hb2 (by have := hb.size; simp at this ⊢; omega))
set_option maxHeartbeats 400000 in
theorem gDig_9 (n q : Int) (s : ByteArray) (w : World) :
   Calls Tryz.prog 46 #[vaV 9 n q s] w (IffB (PlcG n q s) w) := by
 have hfd := fld_1
 have hn : ∀ (f : Nat) (w : World), (binOp .neq 66 (fnv f) .nilFunc).run Tryz.prog w = .ok (.bool true) w := fun _ _ => by kernel_rfl
 go_enter Tryz.func46, Tryz.ntmps46
 go_wp2_with (first
   | (go_at_call 44; refine (rules_9 _).mono ?_; rintro e w1 ⟨rfl, hb⟩; obtain ⟨hc, hf⟩ := bcell hb)
   | (go_at_call 103; refine (gPlace _ _ _ _ _).mono ?_; rintro e w2 ⟨r, rfl, hr, hb2⟩))
 go_ret
 exact iffB _ hr (below_then (below_then (by go_grown) hb (by simp)) hb2 (by have := hb.size; simp at this ⊢; omega))
theorem gDig (k n q : Int) (s : ByteArray) (w : World) :
   Calls Tryz.prog 46 #[vaV k n q s] w (IffB (GoodP k n q s) w) := by
 by_cases h : k < 1 ∨ 10 ≤ k
 · rw [good_0 k n q s h]
   exact (right_no_d k n q s w h).mono fun _ _ ⟨r, he, hf, hb⟩ => ⟨r, he, ⟨hf, fun h => h.elim⟩, hb⟩
 · obtain rfl | rfl | rfl | rfl | rfl | rfl | rfl | rfl | rfl : k = 1 ∨ k = 2 ∨ k = 3 ∨ k = 4 ∨ k = 5 ∨ k = 6 ∨ k = 7 ∨ k = 8 ∨ k = 9 := by omega
   · rw [good_1]; exact gDig_1 n q s w
   · rw [good_2]; exact gDig_2 n q s w
   · rw [good_3]; exact gDig_3 n q s w
   · rw [good_4]; exact gDig_4 n q s w
   · rw [good_5]; exact gDig_5 n q s w
   · rw [good_6]; exact gDig_6 n q s w
   · rw [good_7]; exact gDig_7 n q s w
   · rw [good_8]; exact gDig_8 n q s w
   · rw [good_9]; exact gDig_9 n q s w
end Go.Proofs.YtpdoddhieblooaaGreatDoor
