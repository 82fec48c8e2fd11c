/- The list of rules by kind (digit.rulesOf), and digit.Valid. -/
import Derived.Test.YtpdoddhieblooaaGreatDoorKTy
import Derived.Deep.WholeRow
import Derived.Deep.MidRow
import Derived.Laws.EntriesVeiled
import Derived.Great.Walk
import Derived.Great.BuildSlice
namespace Go.Proofs.YtpdoddhieblooaaGreatDoor
open Go.RowKit

abbrev fnv (n : Nat) : Value := .func (.func n) #[] #[]
def rulesRow : Nat → Array Value
 | 1 => #[fnv 73, fnv 74, fnv 75, fnv 76, fnv 77, fnv 78, fnv 79]
 | 2 => #[fnv 80, fnv 81, fnv 82, fnv 76, fnv 83, fnv 84, fnv 85]
 | 3 => #[fnv 86, fnv 87, fnv 88, fnv 89, fnv 90, fnv 91, fnv 92]
 | 4 => #[fnv 93, fnv 94, fnv 95, fnv 96, .nilFunc, .nilFunc, .nilFunc]
 | 5 => #[fnv 93, fnv 97, fnv 95, fnv 98, .nilFunc, .nilFunc, .nilFunc]
 | 6 => #[fnv 99, fnv 94, fnv 100, .nilFunc, .nilFunc, .nilFunc, .nilFunc]
 | 7 => #[fnv 101, fnv 102, fnv 100, .nilFunc, .nilFunc, .nilFunc, .nilFunc]
 | 8 => #[fnv 101, fnv 103, fnv 100, .nilFunc, .nilFunc, .nilFunc, .nilFunc]
 | 9 => #[fnv 101, fnv 103, fnv 100, .nilFunc, .nilFunc, .nilFunc, .nilFunc]
 | _ => #[.nilFunc, .nilFunc, .nilFunc, .nilFunc, .nilFunc, .nilFunc, .nilFunc]
def rulesList : Array Value := rulesRow 0 ++ rulesRow 1 ++ rulesRow 2 ++ rulesRow 3 ++ rulesRow 4 ++ rulesRow 5 ++ rulesRow 6 ++ rulesRow 7 ++ rulesRow 8 ++ rulesRow 9
theorem rows_in (i : Nat) (h : i < 10) : (rulesList.extract (7 * i) (7 * i + 7)) = rulesRow i := by
 have : ∀ i : Fin 10, (rulesList.extract (7 * i.val) (7 * i.val + 7)) = rulesRow i.val := by
   intro i
   match i with
   | 0 => rfl | 1 => rfl | 2 => rfl | 3 => rfl | 4 => rfl | 5 => rfl | 6 => rfl | 7 => rfl | 8 => rfl | 9 => rfl
 exact this ⟨i, h⟩
theorem size_93 : (Tryz.prog.info? 98).map (·.size) = some rulesList.size := by kernel_rfl
theorem size_row : ∀ i, (rulesRow i).size = 7
 | 0 => rfl | 1 => rfl | 2 => rfl | 3 => rfl | 4 => rfl | 5 => rfl | 6 => rfl | 7 => rfl | 8 => rfl | 9 => rfl | _ + 10 => rfl
theorem size_59 (i : Nat) : (Tryz.prog.info? 72).map (·.size) = some (rulesRow i).size := by rw [size_row]; kernel_rfl
theorem ones_row (i : Nat) (h : i < 10) : ((rulesRow i).all (·.oneCell')) = true := by
 obtain rfl | rfl | rfl | rfl | rfl | rfl | rfl | rfl | rfl | rfl : i = 0 ∨ i = 1 ∨ i = 2 ∨ i = 3 ∨ i = 4 ∨ i = 5 ∨ i = 6 ∨ i = 7 ∨ i = 8 ∨ i = 9 := by omega
 all_goals kernel_rfl
theorem ones_list : rulesList.all (·.oneCell') = true := by kernel_rfl
def noRules : Array Value := Array.replicate 70 .nilFunc
theorem setRow_last (w : World) (c c' : Array Value) (t : TypeId) : (w.alloc (.cells c t)).setRow w.heap.size c' = w.alloc (.cells c' t) := by
 unfold World.setRow World.alloc
 congr 1
 apply Array.ext_getElem?
 intro i
 rw [Array.getElem?_modify, Array.getElem?_push, Array.getElem?_push]
 split <;> rename_i h1
 · subst h1; simp
 · rw [if_neg (fun h => h1 h.symm), if_neg (fun h => h1 h.symm)]
theorem setRow_alloc2 (w : World) (A : Obj) (c c' : Array Value) (t : TypeId) : ((w.alloc A).alloc (.cells c t)).setRow (w.heap.size + 1) c' = (w.alloc A).alloc (.cells c' t) := by
 have h := setRow_last (w.alloc A) c c' t
 rwa [World.size_alloc] at h
theorem setRow_under (w : World) (c c' : Array Value) (t : TypeId) (B : Obj) : ((w.alloc (.cells c t)).alloc B).setRow w.heap.size c' = (w.alloc (.cells c' t)).alloc B := by
 unfold World.setRow World.alloc
 congr 1
 apply Array.ext_getElem?
 intro i
 rw [Array.getElem?_modify, Array.getElem?_push, Array.getElem?_push, Array.getElem?_push, Array.getElem?_push]
 simp only [Array.size_push]
 by_cases h1 : w.heap.size = i
 · subst h1; simp
 · rw [if_neg h1]
   by_cases h2 : i = w.heap.size + 1
   · simp [h2]
   · simp [h2, Ne.symm h1]
theorem alloc_93 (ev : Operand → Value) (ty : TypeId) (pos : String) (after : Array Edge) (g : Option (Nat × Bool)) (W : World) : (execOp ev ⟨some 3, .alloc 98, ty, pos, after, g⟩).run Tryz.prog W = .ok (.value (.pointer (some ⟨W.heap.size, 0, none⟩))) (W.alloc (.cells noRules 98)) := by kernel_rfl
set_option maxHeartbeats 400000 in
theorem rules_any (k : Nat) (w : World) (hk : k < 10) :
   Calls Tryz.prog 44 #[.int .i64 k] w fun e w' => e = .returned (.agg (rulesRow k)) ∧ Below w.heap.size w w' := by
 go_enter Tryz.func44, Tryz.ntmps44
 iterate 11 go_step
 refine wpList_buildTo rfl _ _ rfl (some 4) rfl (rulesRow 1) (by kernel_rfl) ?_
 refine wpList_buildTo rfl _ _ rfl (some 5) rfl (rulesRow 2) (by kernel_rfl) ?_
 refine wpList_buildTo rfl _ _ rfl (some 6) rfl (rulesRow 3) (by kernel_rfl) ?_
 refine wpList_buildTo rfl _ _ rfl (some 7) rfl (rulesRow 4) (by kernel_rfl) ?_
 refine wpList_buildTo rfl _ _ rfl (some 8) rfl (rulesRow 5) (by kernel_rfl) ?_
 refine wpList_buildTo rfl _ _ rfl (some 9) rfl (rulesRow 6) (by kernel_rfl) ?_
 refine wpList_buildTo rfl _ _ rfl (some 10) rfl (rulesRow 7) (by kernel_rfl) ?_
 refine wpList_buildTo rfl _ _ rfl (some 11) rfl (rulesRow 8) (by kernel_rfl) ?_
 refine wpList_buildTo rfl _ _ rfl (some 12) rfl (rulesRow 9) (by kernel_rfl) ?_
 refine wpList_buildTo rfl _ _ rfl (some 13) rfl rulesList (by kernel_rfl) ?_
 refine Great.wpList_allocTo rfl (some 3) rfl (.pointer (some ⟨w.heap.size + 1, 0, none⟩)) (.cells noRules 98) ((alloc_93 _ _ _ _ _ _).trans (by rw [World.size_alloc])) ?_
 refine wpList_store_rowTo rfl _ _ _ rfl rfl (w.heap.size + 1) rulesList (by kernel_rfl) (by kernel_rfl) 98 noRules (heap_alloc2_new _ _ _) size_93 (by kernel_rfl) ones_list ?_
 rw [setRow_alloc2]
 refine wpList_frame (a' := ⟨#[.int .i64 k, undef, .pointer (some ⟨w.heap.size, 0, none⟩), .pointer (some ⟨w.heap.size + 1, 0, none⟩), .agg (rulesRow 1), .agg (rulesRow 2), .agg (rulesRow 3), .agg (rulesRow 4), .agg (rulesRow 5), .agg (rulesRow 6), .agg (rulesRow 7), .agg (rulesRow 8), .agg (rulesRow 9), .agg rulesList, undef, undef, undef, undef, undef, undef, undef, undef, undef, undef], []⟩) (by kernel_rfl) ?_
 have H := Lib.hid hk
 have hrow : ((w.alloc (.cells #[.nilFunc, .nilFunc, .nilFunc, .nilFunc, .nilFunc, .nilFunc, .nilFunc] 72)).alloc (.cells rulesList 98)).rangeAt (w.heap.size + 1) (k * 7) (rulesRow k).toList := by
   have := World.rangeAt_of_block (w := (w.alloc (.cells #[.nilFunc, .nilFunc, .nilFunc, .nilFunc, .nilFunc, .nilFunc, .nilFunc] 72)).alloc (.cells rulesList 98)) (heap_alloc2_new _ _ _) (k * 7) 7
   rwa [Nat.mul_comm k 7, rows_in k hk, Nat.mul_comm 7 k] at this
 have R := Lib.hid hrow; clear hrow
 go_wp2_with (first
   | (with_reducible refine wpList_load_mid (op := ⟨some 23, _, _, _, _, _⟩) rfl 72 (.tmp 22) rfl (w.heap.size + 1) (k * 7) rfl (rulesRow k).toList _ R.out Tryz.underlying72 rfl (by rw [size_59 k]; simp) ?_)
   | (with_reducible refine wpList_store_rowTo (o := ⟨none, .store _ _ (.tmp 23), _, _, _, _⟩) rfl 72 _ _ rfl rfl w.heap.size (rulesRow k) ?_ ?_ 72 #[.nilFunc, .nilFunc, .nilFunc, .nilFunc, .nilFunc, .nilFunc, .nilFunc] ?_ (size_59 k) ?_ (ones_row k H.out) ?_))
 · exact heap_alloc2_old _ _ _
 · rw [size_row]; rfl
 · rw [setRow_under]
   exact bodyPost_ret (v := .agg (rulesRow k)) (results_cell_row (p := 2) (ty := 72) rfl _ _ w.heap.size 72 (rulesRow k) (0, 0) _ rfl (heap_alloc2_old _ _ _) Tryz.underlying72 rfl (size_59 k)) rfl ⟨rfl, ((Below.refl _ _).alloc (Nat.le_refl _) _).alloc (by simp) _⟩
set_option maxHeartbeats 400000 in
theorem rules_none (k : Int) (w : World) (hk : k < 0 ∨ 10 ≤ k) :
   Calls Tryz.prog 44 #[.int .i64 k] w fun e w' => e = .returned (.agg (rulesRow 0)) ∧ Below w.heap.size w w' := by
 go_enter Tryz.func44, Tryz.ntmps44
 iterate 11 go_step
 refine wpList_buildTo rfl _ _ rfl (some 4) rfl (rulesRow 1) (by kernel_rfl) ?_
 refine wpList_buildTo rfl _ _ rfl (some 5) rfl (rulesRow 2) (by kernel_rfl) ?_
 refine wpList_buildTo rfl _ _ rfl (some 6) rfl (rulesRow 3) (by kernel_rfl) ?_
 refine wpList_buildTo rfl _ _ rfl (some 7) rfl (rulesRow 4) (by kernel_rfl) ?_
 refine wpList_buildTo rfl _ _ rfl (some 8) rfl (rulesRow 5) (by kernel_rfl) ?_
 refine wpList_buildTo rfl _ _ rfl (some 9) rfl (rulesRow 6) (by kernel_rfl) ?_
 refine wpList_buildTo rfl _ _ rfl (some 10) rfl (rulesRow 7) (by kernel_rfl) ?_
 refine wpList_buildTo rfl _ _ rfl (some 11) rfl (rulesRow 8) (by kernel_rfl) ?_
 refine wpList_buildTo rfl _ _ rfl (some 12) rfl (rulesRow 9) (by kernel_rfl) ?_
 refine wpList_buildTo rfl _ _ rfl (some 13) rfl rulesList (by kernel_rfl) ?_
 refine Great.wpList_allocTo rfl (some 3) rfl (.pointer (some ⟨w.heap.size + 1, 0, none⟩)) (.cells noRules 98) ((alloc_93 _ _ _ _ _ _).trans (by rw [World.size_alloc])) ?_
 refine wpList_store_rowTo rfl _ _ _ rfl rfl (w.heap.size + 1) rulesList (by kernel_rfl) (by kernel_rfl) 98 noRules (heap_alloc2_new _ _ _) size_93 (by kernel_rfl) ones_list ?_
 rw [setRow_alloc2]
 refine wpList_frame (a' := ⟨#[.int .i64 k, undef, .pointer (some ⟨w.heap.size, 0, none⟩), .pointer (some ⟨w.heap.size + 1, 0, none⟩), .agg (rulesRow 1), .agg (rulesRow 2), .agg (rulesRow 3), .agg (rulesRow 4), .agg (rulesRow 5), .agg (rulesRow 6), .agg (rulesRow 7), .agg (rulesRow 8), .agg (rulesRow 9), .agg rulesList, undef, undef, undef, undef, undef, undef, undef, undef, undef, undef], []⟩) (by kernel_rfl) ?_
 rcases hk with hk | hk
 all_goals
   go_wp2
   refine bodyPost_ret (v := .agg (rulesRow 0)) (results_cell_row (p := 2) (ty := 72) rfl _ _ w.heap.size 72 (rulesRow 0) (0, 0) _ rfl (heap_alloc2_old _ _ _) Tryz.underlying72 rfl (size_59 0)) rfl ⟨rfl, ((Below.refl _ _).alloc (Nat.le_refl _) _).alloc (by simp) _⟩
theorem fld_0 (a b c d e f g : Value) (w : World) : (Instr.field 72 (.agg #[a, b, c, d, e, f, g]) 0).run Tryz.prog w = .ok a w := by kernel_rfl
theorem fld_1 (a b c d e f g : Value) (w : World) : (Instr.field 72 (.agg #[a, b, c, d, e, f, g]) 1).run Tryz.prog w = .ok b w := by kernel_rfl
theorem fld_3 (a b c d e f g : Value) (w : World) : (Instr.field 72 (.agg #[a, b, c, d, e, f, g]) 3).run Tryz.prog w = .ok d w := by kernel_rfl
theorem fld_4 (a b c d e f g : Value) (w : World) : (Instr.field 72 (.agg #[a, b, c, d, e, f, g]) 4).run Tryz.prog w = .ok e w := by kernel_rfl
theorem fld_5 (a b c d e f g : Value) (w : World) : (Instr.field 72 (.agg #[a, b, c, d, e, f, g]) 5).run Tryz.prog w = .ok f w := by kernel_rfl
theorem fld_6 (a b c d e f g : Value) (w : World) : (Instr.field 72 (.agg #[a, b, c, d, e, f, g]) 6).run Tryz.prog w = .ok g w := by kernel_rfl
def validS (k p q n : Int) (vy : Bool) (pic : ByteArray) : Bool :=
 if k = 1 then validFixedS 31 k p q n vy pic
 else if k = 2 then validFixedS 15 k p q n vy pic
 else if k = 3 then validFloatS k p q n vy pic
 else if k = 4 ∨ k = 5 then validStringS k p q n vy pic
 else if k = 6 then validPictureS k p q n vy pic
 else if k = 7 ∨ k = 8 ∨ k = 9 then validPlainS k p q n vy pic
 else false
theorem rules_lit (k : Nat) (r : Array Value) (h : rulesRow k = r) (w : World) (hk : k < 10) (i : Int) (hi : i = k) :
   Calls Tryz.prog 44 #[.int .i64 i] w fun e w' => e = .returned (.agg r) ∧ Below w.heap.size w w' := by
 subst h; subst hi; exact rules_any k w hk
theorem rules_1 (w : World) : Calls Tryz.prog 44 #[.int .i64 1] w fun e w' => e = .returned (.agg #[fnv 73, fnv 74, fnv 75, fnv 76, fnv 77, fnv 78, fnv 79]) ∧ Below w.heap.size w w' :=
 rules_lit 1 _ rfl w (by omega) _ rfl
set_option maxHeartbeats 400000 in
theorem valid_1 (p q n : Int) (vy : Bool) (pic : ByteArray) (w : World) :
   Calls Tryz.prog 108 #[tyV 1 p q n vy pic] w fun e w' => e = .returned (.bool (validFixedS 31 1 p q n vy pic)) ∧ Below w.heap.size w w' := by
 have hfd := fld_0
 have hn : ∀ (f : Nat) (w : World), (binOp .neq 65 (fnv f) .nilFunc).run Tryz.prog w = .ok (.bool true) w := fun _ _ => by kernel_rfl
 have hm : ∀ (w : World), (binOp .neq 65 .nilFunc .nilFunc).run Tryz.prog w = .ok (.bool false) w := fun _ => by kernel_rfl
 go_enter Tryz.func108, Tryz.ntmps108
 go_wp2_with (first
   | (go_at_call 44; refine (rules_1 _).mono ?_; rintro e w1 ⟨rfl, hb⟩; obtain ⟨hc, hf⟩ := bcell hb)
   | (go_at_call 73; refine (validBin_any _ _ _ _ _ _ _).mono ?_; rintro e w2 ⟨rfl, hb2⟩))
 go_ret
 exact ⟨rfl, below_then (below_then (by go_grown) hb (by simp)) hb2 (by have := hb.size; simp at this ⊢; omega)⟩
theorem rules_2 (w : World) : Calls Tryz.prog 44 #[.int .i64 2] w fun e w' => e = .returned (.agg #[fnv 80, fnv 81, fnv 82, fnv 76, fnv 83, fnv 84, fnv 85]) ∧ Below w.heap.size w w' :=
 rules_lit 2 _ rfl w (by omega) _ rfl
set_option maxHeartbeats 400000 in
theorem valid_2 (p q n : Int) (vy : Bool) (pic : ByteArray) (w : World) :
   Calls Tryz.prog 108 #[tyV 2 p q n vy pic] w fun e w' => e = .returned (.bool (validFixedS 15 2 p q n vy pic)) ∧ Below w.heap.size w w' := by
 have hfd := fld_0
 have hn : ∀ (f : Nat) (w : World), (binOp .neq 65 (fnv f) .nilFunc).run Tryz.prog w = .ok (.bool true) w := fun _ _ => by kernel_rfl
 have hm : ∀ (w : World), (binOp .neq 65 .nilFunc .nilFunc).run Tryz.prog w = .ok (.bool false) w := fun _ => by kernel_rfl
 go_enter Tryz.func108, Tryz.ntmps108
 go_wp2_with (first
   | (go_at_call 44; refine (rules_2 _).mono ?_; rintro e w1 ⟨rfl, hb⟩; obtain ⟨hc, hf⟩ := bcell hb)
   | (go_at_call 80; refine (validDec_any _ _ _ _ _ _ _).mono ?_; rintro e w2 ⟨rfl, hb2⟩))
 go_ret
 exact ⟨rfl, below_then (below_then (by go_grown) hb (by simp)) hb2 (by have := hb.size; simp at this ⊢; omega)⟩
theorem rules_3 (w : World) : Calls Tryz.prog 44 #[.int .i64 3] w fun e w' => e = .returned (.agg #[fnv 86, fnv 87, fnv 88, fnv 89, fnv 90, fnv 91, fnv 92]) ∧ Below w.heap.size w w' :=
 rules_lit 3 _ rfl w (by omega) _ rfl
set_option maxHeartbeats 400000 in
theorem valid_3 (p q n : Int) (vy : Bool) (pic : ByteArray) (w : World) :
   Calls Tryz.prog 108 #[tyV 3 p q n vy pic] w fun e w' => e = .returned (.bool (validFloatS 3 p q n vy pic)) ∧ Below w.heap.size w w' := by
 have hfd := fld_0
 have hn : ∀ (f : Nat) (w : World), (binOp .neq 65 (fnv f) .nilFunc).run Tryz.prog w = .ok (.bool true) w := fun _ _ => by kernel_rfl
 have hm : ∀ (w : World), (binOp .neq 65 .nilFunc .nilFunc).run Tryz.prog w = .ok (.bool false) w := fun _ => by kernel_rfl
 go_enter Tryz.func108, Tryz.ntmps108
 go_wp2_with (first
   | (go_at_call 44; refine (rules_3 _).mono ?_; rintro e w1 ⟨rfl, hb⟩; obtain ⟨hc, hf⟩ := bcell hb)
   | (go_at_call 86; refine (validFloat_any _ _ _ _ _ _ _).mono ?_; rintro e w2 ⟨rfl, hb2⟩))
 go_ret
 exact ⟨rfl, below_then (below_then (by go_grown) hb (by simp)) hb2 (by have := hb.size; simp at this ⊢; omega)⟩
theorem rules_4 (w : World) : Calls Tryz.prog 44 #[.int .i64 4] w fun e w' => e = .returned (.agg #[fnv 93, fnv 94, fnv 95, fnv 96, .nilFunc, .nilFunc, .nilFunc]) ∧ Below w.heap.size w w' :=
 rules_lit 4 _ rfl w (by omega) _ rfl
set_option maxHeartbeats 400000 in
theorem valid_4 (p q n : Int) (vy : Bool) (pic : ByteArray) (w : World) :
   Calls Tryz.prog 108 #[tyV 4 p q n vy pic] w fun e w' => e = .returned (.bool (validStringS 4 p q n vy pic)) ∧ Below w.heap.size w w' := by
 have hfd := fld_0
 have hn : ∀ (f : Nat) (w : World), (binOp .neq 65 (fnv f) .nilFunc).run Tryz.prog w = .ok (.bool true) w := fun _ _ => by kernel_rfl
 have hm : ∀ (w : World), (binOp .neq 65 .nilFunc .nilFunc).run Tryz.prog w = .ok (.bool false) w := fun _ => by kernel_rfl
 go_enter Tryz.func108, Tryz.ntmps108
 go_wp2_with (first
   | (go_at_call 44; refine (rules_4 _).mono ?_; rintro e w1 ⟨rfl, hb⟩; obtain ⟨hc, hf⟩ := bcell hb)
   | (go_at_call 93; refine (validString_any _ _ _ _ _ _ _).mono ?_; rintro e w2 ⟨rfl, hb2⟩))
 go_ret
 exact ⟨rfl, below_then (below_then (by go_grown) hb (by simp)) hb2 (by have := hb.size; simp at this ⊢; omega)⟩
theorem rules_5 (w : World) : Calls Tryz.prog 44 #[.int .i64 5] w fun e w' => e = .returned (.agg #[fnv 93, fnv 97, fnv 95, fnv 98, .nilFunc, .nilFunc, .nilFunc]) ∧ Below w.heap.size w w' :=
 rules_lit 5 _ rfl w (by omega) _ rfl
set_option maxHeartbeats 400000 in
theorem valid_5 (p q n : Int) (vy : Bool) (pic : ByteArray) (w : World) :
   Calls Tryz.prog 108 #[tyV 5 p q n vy pic] w fun e w' => e = .returned (.bool (validStringS 5 p q n vy pic)) ∧ Below w.heap.size w w' := by
 have hfd := fld_0
 have hn : ∀ (f : Nat) (w : World), (binOp .neq 65 (fnv f) .nilFunc).run Tryz.prog w = .ok (.bool true) w := fun _ _ => by kernel_rfl
 have hm : ∀ (w : World), (binOp .neq 65 .nilFunc .nilFunc).run Tryz.prog w = .ok (.bool false) w := fun _ => by kernel_rfl
 go_enter Tryz.func108, Tryz.ntmps108
 go_wp2_with (first
   | (go_at_call 44; refine (rules_5 _).mono ?_; rintro e w1 ⟨rfl, hb⟩; obtain ⟨hc, hf⟩ := bcell hb)
   | (go_at_call 93; refine (validString_any _ _ _ _ _ _ _).mono ?_; rintro e w2 ⟨rfl, hb2⟩))
 go_ret
 exact ⟨rfl, below_then (below_then (by go_grown) hb (by simp)) hb2 (by have := hb.size; simp at this ⊢; omega)⟩
theorem rules_6 (w : World) : Calls Tryz.prog 44 #[.int .i64 6] w fun e w' => e = .returned (.agg #[fnv 99, fnv 94, fnv 100, .nilFunc, .nilFunc, .nilFunc, .nilFunc]) ∧ Below w.heap.size w w' :=
 rules_lit 6 _ rfl w (by omega) _ rfl
set_option maxHeartbeats 400000 in
theorem valid_6 (p q n : Int) (vy : Bool) (pic : ByteArray) (w : World) (hs : pic.size ≤ maxLen) :
   Calls Tryz.prog 108 #[tyV 6 p q n vy pic] w fun e w' => e = .returned (.bool (validPictureS 6 p q n vy pic)) ∧ Below w.heap.size w w' := by
 have hfd := fld_0
 have hn : ∀ (f : Nat) (w : World), (binOp .neq 65 (fnv f) .nilFunc).run Tryz.prog w = .ok (.bool true) w := fun _ _ => by kernel_rfl
 have hm : ∀ (w : World), (binOp .neq 65 .nilFunc .nilFunc).run Tryz.prog w = .ok (.bool false) w := fun _ => by kernel_rfl
 go_enter Tryz.func108, Tryz.ntmps108
 go_wp2_with (first
   | (go_at_call 44; refine (rules_6 _).mono ?_; rintro e w1 ⟨rfl, hb⟩; obtain ⟨hc, hf⟩ := bcell hb)
   | (go_at_call 99; refine (validPicture_any _ _ _ _ _ _ _ hs).mono ?_; rintro e w2 ⟨rfl, hb2⟩))
 go_ret
 exact ⟨rfl, below_then (below_then (by go_grown) hb (by simp)) hb2 (by have := hb.size; simp at this ⊢; omega)⟩
theorem rules_7 (w : World) : Calls Tryz.prog 44 #[.int .i64 7] w fun e w' => e = .returned (.agg #[fnv 101, fnv 102, fnv 100, .nilFunc, .nilFunc, .nilFunc, .nilFunc]) ∧ Below w.heap.size w w' :=
 rules_lit 7 _ rfl w (by omega) _ rfl
set_option maxHeartbeats 400000 in
theorem valid_7 (p q n : Int) (vy : Bool) (pic : ByteArray) (w : World) :
   Calls Tryz.prog 108 #[tyV 7 p q n vy pic] w fun e w' => e = .returned (.bool (validPlainS 7 p q n vy pic)) ∧ Below w.heap.size w w' := by
 have hfd := fld_0
 have hn : ∀ (f : Nat) (w : World), (binOp .neq 65 (fnv f) .nilFunc).run Tryz.prog w = .ok (.bool true) w := fun _ _ => by kernel_rfl
 have hm : ∀ (w : World), (binOp .neq 65 .nilFunc .nilFunc).run Tryz.prog w = .ok (.bool false) w := fun _ => by kernel_rfl
 go_enter Tryz.func108, Tryz.ntmps108
 go_wp2_with (first
   | (go_at_call 44; refine (rules_7 _).mono ?_; rintro e w1 ⟨rfl, hb⟩; obtain ⟨hc, hf⟩ := bcell hb)
   | (go_at_call 101; refine (validPlain_any _ _ _ _ _ _ _).mono ?_; rintro e w2 ⟨rfl, hb2⟩))
 go_ret
 exact ⟨rfl, below_then (below_then (by go_grown) hb (by simp)) hb2 (by have := hb.size; simp at this ⊢; omega)⟩
theorem rules_8 (w : World) : Calls Tryz.prog 44 #[.int .i64 8] w fun e w' => e = .returned (.agg #[fnv 101, fnv 103, fnv 100, .nilFunc, .nilFunc, .nilFunc, .nilFunc]) ∧ Below w.heap.size w w' :=
 rules_lit 8 _ rfl w (by omega) _ rfl
set_option maxHeartbeats 400000 in
theorem valid_8 (p q n : Int) (vy : Bool) (pic : ByteArray) (w : World) :
   Calls Tryz.prog 108 #[tyV 8 p q n vy pic] w fun e w' => e = .returned (.bool (validPlainS 8 p q n vy pic)) ∧ Below w.heap.size w w' := by
 have hfd := fld_0
 have hn : ∀ (f : Nat) (w : World), (binOp .neq 65 (fnv f) .nilFunc).run Tryz.prog w = .ok (.bool true) w := fun _ _ => by kernel_rfl
 have hm : ∀ (w : World), (binOp .neq 65 .nilFunc .nilFunc).run Tryz.prog w = .ok (.bool false) w := fun _ => by kernel_rfl
 go_enter Tryz.func108, Tryz.ntmps108
 go_wp2_with (first
   | (go_at_call 44; refine (rules_8 _).mono ?_; rintro e w1 ⟨rfl, hb⟩; obtain ⟨hc, hf⟩ := bcell hb)
   | (go_at_call 101; refine (validPlain_any _ _ _ _ _ _ _).mono ?_; rintro e w2 ⟨rfl, hb2⟩))
 go_ret
 exact ⟨rfl, below_then (below_then (by go_grown) hb (by simp)) hb2 (by have := hb.size; simp at this ⊢; omega)⟩
theorem rules_9 (w : World) : Calls Tryz.prog 44 #[.int .i64 9] w fun e w' => e = .returned (.agg #[fnv 101, fnv 103, fnv 100, .nilFunc, .nilFunc, .nilFunc, .nilFunc]) ∧ Below w.heap.size w w' :=
 rules_lit 9 _ rfl w (by omega) _ rfl
set_option maxHeartbeats 400000 in
theorem valid_9 (p q n : Int) (vy : Bool) (pic : ByteArray) (w : World) :
   Calls Tryz.prog 108 #[tyV 9 p q n vy pic] w fun e w' => e = .returned (.bool (validPlainS 9 p q n vy pic)) ∧ Below w.heap.size w w' := by
 have hfd := fld_0
 have hn : ∀ (f : Nat) (w : World), (binOp .neq 65 (fnv f) .nilFunc).run Tryz.prog w = .ok (.bool true) w := fun _ _ => by kernel_rfl
 have hm : ∀ (w : World), (binOp .neq 65 .nilFunc .nilFunc).run Tryz.prog w = .ok (.bool false) w := fun _ => by kernel_rfl
 go_enter Tryz.func108, Tryz.ntmps108
 go_wp2_with (first
   | (go_at_call 44; refine (rules_9 _).mono ?_; rintro e w1 ⟨rfl, hb⟩; obtain ⟨hc, hf⟩ := bcell hb)
   | (go_at_call 101; refine (validPlain_any _ _ _ _ _ _ _).mono ?_; rintro e w2 ⟨rfl, hb2⟩))
 go_ret
 exact ⟨rfl, below_then (below_then (by go_grown) hb (by simp)) hb2 (by have := hb.size; simp at this ⊢; omega)⟩
theorem rules_no (k : Int) (w : World) (hk : k < 1 ∨ 10 ≤ k) : Calls Tryz.prog 44 #[.int .i64 k] w fun e w' => e = .returned (.agg #[.nilFunc, .nilFunc, .nilFunc, .nilFunc, .nilFunc, .nilFunc, .nilFunc]) ∧ Below w.heap.size w w' := by
 by_cases h : k = 0
 · exact rules_lit 0 _ rfl w (by omega) _ h
 · exact rules_none k w (by omega)
set_option maxHeartbeats 400000 in
theorem valid_0 (k p q n : Int) (vy : Bool) (pic : ByteArray) (w : World) (hk : k < 1 ∨ 10 ≤ k) :
   Calls Tryz.prog 108 #[tyV k p q n vy pic] w fun e w' => e = .returned (.bool false) ∧ Below w.heap.size w w' := by
 have H := Lib.hid hk; clear hk
 have hfd := fld_0
 have hn : ∀ (f : Nat) (w : World), (binOp .neq 65 (fnv f) .nilFunc).run Tryz.prog w = .ok (.bool true) w := fun _ _ => by kernel_rfl
 have hm : ∀ (w : World), (binOp .neq 65 .nilFunc .nilFunc).run Tryz.prog w = .ok (.bool false) w := fun _ => by kernel_rfl
 go_enter Tryz.func108, Tryz.ntmps108
 go_wp2_with (go_at_call 44; refine (rules_no _ _ H.out).mono ?_; rintro e w1 ⟨rfl, hb⟩; obtain ⟨hc, hf⟩ := bcell hb)
 go_ret
 exact ⟨rfl, below_then (by go_grown) hb (by simp)⟩
theorem valid_any (k p q n : Int) (vy : Bool) (pic : ByteArray) (w : World) (hs : pic.size ≤ maxLen) :
   Calls Tryz.prog 108 #[tyV k p q n vy pic] w fun e w' => e = .returned (.bool (validS k p q n vy pic)) ∧ Below w.heap.size w w' := by
 unfold validS
 by_cases h : k < 1 ∨ 10 ≤ k
 · repeat rw [if_neg (by omega)]
   exact valid_0 k p q n vy pic w h
 · obtain rfl | rfl | rfl | rfl | rfl | rfl | rfl | rfl | rfl : k = 1 ∨ k = 2 ∨ k = 3 ∨ k = 4 ∨ k = 5 ∨ k = 6 ∨ k = 7 ∨ k = 8 ∨ k = 9 := by omega
   · exact valid_1 p q n vy pic w
   · exact valid_2 p q n vy pic w
   · exact valid_3 p q n vy pic w
   · exact valid_4 p q n vy pic w
   · exact valid_5 p q n vy pic w
   · exact valid_6 p q n vy pic w hs
   · exact valid_7 p q n vy pic w
   · exact valid_8 p q n vy pic w
   · exact valid_9 p q n vy pic w
end Go.Proofs.YtpdoddhieblooaaGreatDoor
