/- digit.reckoned: its errors. digit.reckoned$1 where a value is no number. digit.Compare, told exactly. -/
import Derived.Test.YtpdoddhieblooaaGreatDoorKFtAsk
import Derived.Test.YtpdoddhieblooaaGreatDoorKWrdCompare
import Derived.Test.YtpdoddhieblooaaGreatDoorKFtErrT
import Derived.Test.YtpdoddhieblooaaGreatDoorKGoodDig
import Derived.Test.YtpdoddhieblooaaGreatDoorKGoodZeroR
namespace Go.Proofs.YtpdoddhieblooaaGreatDoor
open Go.RowKit

set_option maxHeartbeats 1000000 in
theorem demRight_ex (ts : List Va) (b o cap : Nat) (w : World) (hA : VasAt w b o ts) (hlen : ts.length ≤ 4000000000) (hb : b < w.heap.size) :
   Calls Tryz.prog 21 #[.slice (some ⟨b, o, none⟩) ts.length cap] w fun e w' => e = (if ts.all Va.goodB then .returned (.tuple #[]) else dRef 1) ∧ Below w.heap.size w w' := by
 have HA := Lib.hid hA
 have HR : Hid (∀ t ∈ ts, ∀ W : World, Calls Tryz.prog 46 #[t.v] W fun e w' => e = .returned (.bool t.goodB) ∧ Below W.heap.size W w') := Lib.hid fun t ht W => by
   classical
   refine (gDig t.k t.n t.q t.s W).mono fun e w' h => ?_
   have := h.bool
   unfold Va.goodB
   exact ⟨by rw [this.1], this.2⟩
 clear hA
 obtain ⟨EE, hEE⟩ : ∃ EE : Ending, (if ts.all Va.goodB then .returned (.tuple #[]) else dRef 1) = EE := ⟨_, rfl⟩
 rw [hEE]
 have HEE := Lib.hid hEE
 clear hEE
 go_enter Tryz.func21, Tryz.ntmps21
 go_wp2
 go_loopw [6] (fun i wr => ∃ k : Nat, k ≤ ts.length ∧ i = .int .i64 k ∧ Hid (Below w.heap.size w wr) ∧ Hid ((ts.take k).all Va.goodB = true)) (fun i _ => ts.length - (intOf i).toNat)
 case atStart => exact ⟨0, Nat.zero_le _, rfl, Lib.hid (Below.refl _ _), Lib.hid rfl⟩
 case round =>
   obtain ⟨k, hk, rfl, HB, HF⟩ := hrel
   by_cases hlt : k < ts.length
   · obtain ⟨kd, n, q, s, ht, c0, c1, c2, c3⟩ := (HA.out.below hb HB.out).at k hlt
     have HC : Hid (∀ W : World, Calls Tryz.prog 46 #[vaV kd n q s] W fun e w' => e = .returned (.bool (ts[k]).goodB) ∧ Below W.heap.size W w') := Lib.hid fun W => by
       have := HR.out _ (List.getElem_mem hlt) W
       rw [ht] at this ⊢
       exact this
     clear ht
     obtain ⟨r, hr⟩ : ∃ r, (ts[k]).goodB = r := ⟨_, rfl⟩
     have HRr := Lib.hid hr
     rw [hr] at HC
     clear hr
     cases r
     · go_wp2_with (first
         | (go_at_call 46; refine (HC.out _).mono ?_; rintro e w2 ⟨rfl, hb2⟩; have HB2 := Lib.hid (below_then (below_then HB.out (by go_grown) HB.out.size) hb2 (by have := HB.out.size; simp; omega)); clear hb2)
         | (go_at_call 47; refine (dRefuse _ _).mono ?_; rintro e w3 ⟨rfl, rfl⟩))
       have he : dRef 1 = EE := by rw [← HEE.out, all_not hlt HRr.out]; rfl
       first
         | exact ⟨rfl, he, HB2.out⟩
         | exact ⟨he, HB2.out⟩
     · go_wp2_with (first
         | (go_at_call 46; refine (HC.out _).mono ?_; rintro e w2 ⟨rfl, hb2⟩; have HB2 := Lib.hid (below_then (below_then HB.out (by go_grown) HB.out.size) hb2 (by have := HB.out.size; simp; omega)); clear hb2))
       go_roundw
       case rel => exact ⟨k + 1, by omega, by go_num, HB2, Lib.hid (all_take hlt HF.out HRr.out)⟩
       case measure => simp [intOf]; omega
   · have HE : Hid (.returned (.tuple #[]) = EE) := Lib.hid (by rw [← HEE.out, all_full hlt HF.out]; rfl)
     go_wp2
     go_end0
     exact ⟨HE.out, HB.out⟩
set_option maxRecDepth 100000 in
set_option maxHeartbeats 4000000 in
theorem rec1_e1 {bA bB bT bL bO bV bC opf : Nat} {ka na qa kb nb qb k p q n L : Int} {sa sb pic : ByteArray} {vy : Bool} {w : World} {E : Int}
   (RA : Row w bA (vaC ka na qa sa) 23) (RB : Row w bB (vaC kb nb qb sb) 23) (_RT : Row w bT #[.int .i64 k, .int .i64 p, .int .i64 q, .int .i64 n, .bool vy, .string pic] 25) (_RL : Row w bL #[.int .i64 L] 3) (_RO : Row w bO #[fnv opf] 55)
   (hDR : ∀ (c cap : Nat) (W : World), VasAt W c 0 [Va.mk ka na qa sa, Va.mk kb nb qb sb] → c < W.heap.size → Calls Tryz.prog 21 #[.slice (some ⟨c, 0, none⟩) 2 cap] W fun e w' => e = dRef E ∧ Below W.heap.size W w') :
   Calls Tryz.prog 55 #[ptD bA, ptD bB, ptD bT, ptD bL, ptD bO, ptD bV, ptD bC] w fun e w' => e = dRef E ∧ Below w.heap.size w w' := by
 have RN := Row.new w #[.int .i64 ka, .int .i64 na, .int .i64 qa, .string sa, .int .i64 kb, .int .i64 nb, .int .i64 qb, .string sb] 23
 obtain ⟨a0, a1, a2, a3⟩ := RA.four
 obtain ⟨b0, b1, b2, b3⟩ := RB.four
 have HDR := Lib.hid hDR
 clear hDR
 go_enter Tryz.func55, Tryz.ntmps55
 go_wp2_with (go_at_call 21; refine (HDR.out _ _ _ (VasAt.two (a := ⟨ka, na, qa, sa⟩) (b := ⟨kb, nb, qb, sb⟩) RN) RN.lt).mono ?_; rintro e w1 ⟨rfl, hb1⟩; have HB1 := Lib.hid (bl_box (Below.refl _ w) hb1); clear hb1)
 first
   | exact ⟨rfl, rfl, HB1.out⟩
   | exact ⟨rfl, HB1.out⟩
set_option maxRecDepth 100000 in
set_option maxHeartbeats 4000000 in
theorem rec1_e13 {bA bB bT bL bO bV bC opf : Nat} {ka na qa kb nb qb k p q n L : Int} {sa sb pic : ByteArray} {vy : Bool} {w : World} {E : Int}
   (RA : Row w bA (vaC ka na qa sa) 23) (RB : Row w bB (vaC kb nb qb sb) 23) (RT : Row w bT #[.int .i64 k, .int .i64 p, .int .i64 q, .int .i64 n, .bool vy, .string pic] 25) (RL : Row w bL #[.int .i64 L] 3) (RO : Row w bO #[fnv opf] 55)
   (hDR : ∀ (c cap : Nat) (W : World), VasAt W c 0 [Va.mk ka na qa sa, Va.mk kb nb qb sb] → c < W.heap.size → Calls Tryz.prog 21 #[.slice (some ⟨c, 0, none⟩) 2 cap] W fun e w' => e = .returned (.tuple #[]) ∧ Below W.heap.size W w')
   (hDV : ∀ W, Calls Tryz.prog 56 #[.agg #[.int .i64 k, .int .i64 p, .int .i64 q, .int .i64 n, .bool vy, .string pic]] W fun e w' => e = dRef E ∧ Below W.heap.size W w') :
   Calls Tryz.prog 55 #[ptD bA, ptD bB, ptD bT, ptD bL, ptD bO, ptD bV, ptD bC] w fun e w' => e = dRef E ∧ Below w.heap.size w w' := by
 have RN := Row.new w #[.int .i64 ka, .int .i64 na, .int .i64 qa, .string sa, .int .i64 kb, .int .i64 nb, .int .i64 qb, .string sb] 23
 obtain ⟨a0, a1, a2, a3⟩ := RA.four
 obtain ⟨b0, b1, b2, b3⟩ := RB.four
 have HDR := Lib.hid hDR
 clear hDR
 have HDV := Lib.hid hDV
 clear hDV
 go_enter Tryz.func55, Tryz.ntmps55
 go_wp2_with (first
   | (go_at_call 21; refine (HDR.out _ _ _ (VasAt.two (a := ⟨ka, na, qa, sa⟩) (b := ⟨kb, nb, qb, sb⟩) RN) RN.lt).mono ?_; rintro e w1 ⟨rfl, hb1⟩; have HB1 := Lib.hid (bl_box (Below.refl _ w) hb1); clear hb1; have A1 := RA.keep HB1.out; have B1 := RB.keep HB1.out; have T1 := RT.keep HB1.out; have L1 := RL.keep HB1.out; have O1 := RO.keep HB1.out; obtain ⟨t0, t1, t2, t3, t4, t5⟩ := T1.six)
   | (go_at_call 56; refine (HDV.out _).mono ?_; rintro e w2 ⟨rfl, hb2⟩; have HB2 := Lib.hid (bl_then HB1.out hb2); clear hb2))
 first
   | exact ⟨rfl, rfl, HB2.out⟩
   | exact ⟨rfl, HB2.out⟩
set_option maxRecDepth 100000 in
set_option maxHeartbeats 4000000 in
theorem rec1_eA {bA bB bT bL bO bV bC opf : Nat} {ka na qa kb nb qb k p q n L : Int} {sa sb pic : ByteArray} {vy : Bool} {w : World} {E : Int}
   (RA : Row w bA (vaC ka na qa sa) 23) (RB : Row w bB (vaC kb nb qb sb) 23) (RT : Row w bT #[.int .i64 k, .int .i64 p, .int .i64 q, .int .i64 n, .bool vy, .string pic] 25) (RL : Row w bL #[.int .i64 L] 3) (RO : Row w bO #[fnv opf] 55)
   (hDR : ∀ (c cap : Nat) (W : World), VasAt W c 0 [Va.mk ka na qa sa, Va.mk kb nb qb sb] → c < W.heap.size → Calls Tryz.prog 21 #[.slice (some ⟨c, 0, none⟩) 2 cap] W fun e w' => e = .returned (.tuple #[]) ∧ Below W.heap.size W w')
   (hDV : ∀ W, Calls Tryz.prog 56 #[.agg #[.int .i64 k, .int .i64 p, .int .i64 q, .int .i64 n, .bool vy, .string pic]] W fun e w' => e = .returned (.tuple #[]) ∧ Below W.heap.size W w')
   (hXA : ∀ W, Calls Tryz.prog 22 #[vaV ka na qa sa] W fun e w' => e = dRef E ∧ Below W.heap.size W w') :
   Calls Tryz.prog 55 #[ptD bA, ptD bB, ptD bT, ptD bL, ptD bO, ptD bV, ptD bC] w fun e w' => e = dRef E ∧ Below w.heap.size w w' := by
 have RN := Row.new w #[.int .i64 ka, .int .i64 na, .int .i64 qa, .string sa, .int .i64 kb, .int .i64 nb, .int .i64 qb, .string sb] 23
 obtain ⟨a0, a1, a2, a3⟩ := RA.four
 obtain ⟨b0, b1, b2, b3⟩ := RB.four
 have HDR := Lib.hid hDR
 clear hDR
 have HDV := Lib.hid hDV
 clear hDV
 have HXA := Lib.hid hXA
 clear hXA
 go_enter Tryz.func55, Tryz.ntmps55
 go_wp2_with (first
   | (go_at_call 21; refine (HDR.out _ _ _ (VasAt.two (a := ⟨ka, na, qa, sa⟩) (b := ⟨kb, nb, qb, sb⟩) RN) RN.lt).mono ?_; rintro e w1 ⟨rfl, hb1⟩; have HB1 := Lib.hid (bl_box (Below.refl _ w) hb1); clear hb1; have A1 := RA.keep HB1.out; have B1 := RB.keep HB1.out; have T1 := RT.keep HB1.out; have L1 := RL.keep HB1.out; have O1 := RO.keep HB1.out; obtain ⟨t0, t1, t2, t3, t4, t5⟩ := T1.six)
   | (go_at_call 56; refine (HDV.out _).mono ?_; rintro e w2 ⟨rfl, hb2⟩; have HB2 := Lib.hid (bl_then HB1.out hb2); have A2 := A1.keep hb2; have B2 := B1.keep hb2; have T2 := T1.keep hb2; have L2 := L1.keep hb2; have O2 := O1.keep hb2; obtain ⟨a0, a1, a2, a3⟩ := A2.four; obtain ⟨b0, b1, b2, b3⟩ := B2.four; clear hb2))
 clear HDR HDV RN RA RB RT RL RO A1 B1 T1 L1 O1 t0 t1 t2 t3 t4 t5 HB1
 have lA := A2.lt
 have lB := B2.lt
 have lA1 : bA < w2.heap.size + 1 := by omega
 have lB1 : bB < w2.heap.size + 1 := by omega
 have B : Hid (Below w2.heap.size w2 w2.drew) := Lib.hid (Below.refl _ w2).drew
 refine wp_region_held_drew (S := fun w' => (w'.cell? ⟨bA, 0, none⟩ = some (.int .i64 ka) ∧ w'.cell? ⟨bA, 1, none⟩ = some (.int .i64 na) ∧ w'.cell? ⟨bA, 2, none⟩ = some (.int .i64 qa) ∧ w'.cell? ⟨bA, 3, none⟩ = some (.string sa)) ∧ (w'.cell? ⟨bB, 0, none⟩ = some (.int .i64 kb) ∧ w'.cell? ⟨bB, 1, none⟩ = some (.int .i64 nb) ∧ w'.cell? ⟨bB, 2, none⟩ = some (.int .i64 qb) ∧ w'.cell? ⟨bB, 3, none⟩ = some (.string sb))) (by kernel_rfl) ?_ (fun hHeld => ?_)
 · exact ⟨(A2.keep B.out).four, (B2.keep B.out).four⟩
 first
   | (refine wpAnyH_take (i := 0) (v := undef) rfl (by kernel_rfl) (by kernel_rfl) (by kernel_rfl) (fun _ _ _ h => h) (Or.inr ⟨by rfl, rfl⟩) (by assumption) ?_)
   | (refine wpAnyH_take (i := 0) (v := ?_) rfl (by kernel_rfl) (by kernel_rfl) (by kernel_rfl) (fun _ _ _ h => h) (Or.inl ⟨by rfl, ?_⟩) (by assumption) ?_; rotate_left; (· intro w hSw; (try dsimp only at hSw); go_simp; (try with_reducible rfl)))
   | fail "TK 0"
 try simp only [Act.put, List.setIfInBounds_toArray, List.set_cons_zero, List.set_cons_succ, List.getElem_toArray, List.getElem_cons_zero]
 first
   | (refine wpAnyH_take (i := 2) (v := undef) rfl (by kernel_rfl) (by kernel_rfl) (by kernel_rfl) (fun _ _ _ h => h) (Or.inr ⟨by rfl, rfl⟩) (by assumption) ?_)
   | (refine wpAnyH_take (i := 2) (v := ?_) rfl (by kernel_rfl) (by kernel_rfl) (by kernel_rfl) (fun _ _ _ h => h) (Or.inl ⟨by rfl, ?_⟩) (by assumption) ?_; rotate_left; (· intro w hSw; (try dsimp only at hSw); go_simp; (try with_reducible rfl)))
   | fail "TK 2"
 try simp only [Act.put, List.setIfInBounds_toArray, List.set_cons_zero, List.set_cons_succ, List.getElem_toArray, List.getElem_cons_succ, List.getElem_cons_zero]
 refine wpAnyH_ready (rs := [1, 4, 5]) (by kernel_rfl) (by simp) ?_
 refine AllReadyH.cons rfl (fun K hK => ?_) (AllReadyH.cons rfl (fun K hK => ?_) (AllReadyH.cons rfl (fun K hK => ?_) (AllReadyH.nil)))
 · try simp only [List.getElem_toArray, List.getElem_cons_succ, List.getElem_cons_zero]
   first
     | (go_at_call 22; refine (HXA.out _).mono ?_; rintro e w3 ⟨rfl, hb⟩; have HE := Lib.hid (bl_then HB2.out (B.out.trans (hb.mono B.out.size))); clear hb)
     | (go_simp; (go_at_call 22; refine (HXA.out _).mono ?_; rintro e w3 ⟨rfl, hb⟩; have HE := Lib.hid (bl_then HB2.out (B.out.trans (hb.mono B.out.size))); clear hb))
     | fail "CALL"
   first
     | exact ⟨rfl, HE.out⟩
     | exact ⟨rfl, rfl, HE.out⟩
     | (go_wp2_with fail; exact ⟨rfl, HE.out⟩)
     | (go_wp2_with fail; exact ⟨rfl, rfl, HE.out⟩)
 · try simp only [List.getElem_toArray, List.getElem_cons_succ, List.getElem_cons_zero]
   go_simp
   refine hK.out _ _ ?_ (fun hHeld2 => ?_)
   · refine ⟨?_, ?_⟩ <;> first | exact ((A2.keep B.out).alloc _).four | exact ((B2.keep B.out).alloc _).four
   clear hK K hHeld
   have hHeld := hHeld2
   clear hHeld2
   try simp only [Act.put, List.setIfInBounds_toArray, List.set_cons_zero, List.set_cons_succ, List.getElem_toArray, List.getElem_cons_succ, List.getElem_cons_zero]
   have B := Lib.hid (B.out.alloc B.out.size (.cells #[.slice none 0 0, .bool false, .slice none 0 0] 43))
   refine wpAnyH_ready (rs := [1, 5]) (by kernel_rfl) (by simp) ?_
   refine AllReadyH.cons rfl (fun K hK => ?_) (AllReadyH.cons rfl (fun K hK => ?_) (AllReadyH.nil))
   · try simp only [List.getElem_toArray, List.getElem_cons_succ, List.getElem_cons_zero]
     first
       | (go_at_call 22; refine (HXA.out _).mono ?_; rintro e w3 ⟨rfl, hb⟩; have HE := Lib.hid (bl_then HB2.out (B.out.trans (hb.mono B.out.size))); clear hb)
       | (go_simp; (go_at_call 22; refine (HXA.out _).mono ?_; rintro e w3 ⟨rfl, hb⟩; have HE := Lib.hid (bl_then HB2.out (B.out.trans (hb.mono B.out.size))); clear hb))
       | fail "CALL"
     first
       | exact ⟨rfl, HE.out⟩
       | exact ⟨rfl, rfl, HE.out⟩
       | (go_wp2_with fail; exact ⟨rfl, HE.out⟩)
       | (go_wp2_with fail; exact ⟨rfl, rfl, HE.out⟩)
   · try simp only [List.getElem_toArray, List.getElem_cons_succ, List.getElem_cons_zero]
     go_simp
     refine hK.out _ _ ?_ (fun hHeld2 => ?_)
     · refine ⟨?_, ?_⟩ <;> first | exact ((A2.keep B.out).alloc _).four | exact ((B2.keep B.out).alloc _).four
     clear hK K hHeld
     have hHeld := hHeld2
     clear hHeld2
     try simp only [Act.put, List.setIfInBounds_toArray, List.set_cons_zero, List.set_cons_succ, List.getElem_toArray, List.getElem_cons_succ, List.getElem_cons_zero]
     have B := Lib.hid (B.out.alloc B.out.size (.cells #[.slice none 0 0, .bool false, .slice none 0 0] 43))
     refine wpAnyH_ready (rs := [1]) (by kernel_rfl) (by simp) ?_
     refine AllReadyH.cons rfl (fun K hK => ?_) (AllReadyH.nil)
     · try simp only [List.getElem_toArray, List.getElem_cons_succ, List.getElem_cons_zero]
       first
         | (go_at_call 22; refine (HXA.out _).mono ?_; rintro e w3 ⟨rfl, hb⟩; have HE := Lib.hid (bl_then HB2.out (B.out.trans (hb.mono B.out.size))); clear hb)
         | (go_simp; (go_at_call 22; refine (HXA.out _).mono ?_; rintro e w3 ⟨rfl, hb⟩; have HE := Lib.hid (bl_then HB2.out (B.out.trans (hb.mono B.out.size))); clear hb))
         | fail "CALL"
       first
         | exact ⟨rfl, HE.out⟩
         | exact ⟨rfl, rfl, HE.out⟩
         | (go_wp2_with fail; exact ⟨rfl, HE.out⟩)
         | (go_wp2_with fail; exact ⟨rfl, rfl, HE.out⟩)
 · try simp only [List.getElem_toArray, List.getElem_cons_succ, List.getElem_cons_zero]
   go_simp
   refine hK.out _ _ ?_ (fun hHeld2 => ?_)
   · refine ⟨?_, ?_⟩ <;> first | exact ((A2.keep B.out).alloc _).four | exact ((B2.keep B.out).alloc _).four
   clear hK K hHeld
   have hHeld := hHeld2
   clear hHeld2
   try simp only [Act.put, List.setIfInBounds_toArray, List.set_cons_zero, List.set_cons_succ, List.getElem_toArray, List.getElem_cons_succ, List.getElem_cons_zero]
   have B := Lib.hid (B.out.alloc B.out.size (.cells #[.slice none 0 0, .bool false, .slice none 0 0] 43))
   refine wpAnyH_ready (rs := [1, 4]) (by kernel_rfl) (by simp) ?_
   refine AllReadyH.cons rfl (fun K hK => ?_) (AllReadyH.cons rfl (fun K hK => ?_) (AllReadyH.nil))
   · try simp only [List.getElem_toArray, List.getElem_cons_succ, List.getElem_cons_zero]
     first
       | (go_at_call 22; refine (HXA.out _).mono ?_; rintro e w3 ⟨rfl, hb⟩; have HE := Lib.hid (bl_then HB2.out (B.out.trans (hb.mono B.out.size))); clear hb)
       | (go_simp; (go_at_call 22; refine (HXA.out _).mono ?_; rintro e w3 ⟨rfl, hb⟩; have HE := Lib.hid (bl_then HB2.out (B.out.trans (hb.mono B.out.size))); clear hb))
       | fail "CALL"
     first
       | exact ⟨rfl, HE.out⟩
       | exact ⟨rfl, rfl, HE.out⟩
       | (go_wp2_with fail; exact ⟨rfl, HE.out⟩)
       | (go_wp2_with fail; exact ⟨rfl, rfl, HE.out⟩)
   · try simp only [List.getElem_toArray, List.getElem_cons_succ, List.getElem_cons_zero]
     go_simp
     refine hK.out _ _ ?_ (fun hHeld2 => ?_)
     · refine ⟨?_, ?_⟩ <;> first | exact ((A2.keep B.out).alloc _).four | exact ((B2.keep B.out).alloc _).four
     clear hK K hHeld
     have hHeld := hHeld2
     clear hHeld2
     try simp only [Act.put, List.setIfInBounds_toArray, List.set_cons_zero, List.set_cons_succ, List.getElem_toArray, List.getElem_cons_succ, List.getElem_cons_zero]
     have B := Lib.hid (B.out.alloc B.out.size (.cells #[.slice none 0 0, .bool false, .slice none 0 0] 43))
     refine wpAnyH_ready (rs := [1]) (by kernel_rfl) (by simp) ?_
     refine AllReadyH.cons rfl (fun K hK => ?_) (AllReadyH.nil)
     · try simp only [List.getElem_toArray, List.getElem_cons_succ, List.getElem_cons_zero]
       first
         | (go_at_call 22; refine (HXA.out _).mono ?_; rintro e w3 ⟨rfl, hb⟩; have HE := Lib.hid (bl_then HB2.out (B.out.trans (hb.mono B.out.size))); clear hb)
         | (go_simp; (go_at_call 22; refine (HXA.out _).mono ?_; rintro e w3 ⟨rfl, hb⟩; have HE := Lib.hid (bl_then HB2.out (B.out.trans (hb.mono B.out.size))); clear hb))
         | fail "CALL"
       first
         | exact ⟨rfl, HE.out⟩
         | exact ⟨rfl, rfl, HE.out⟩
         | (go_wp2_with fail; exact ⟨rfl, HE.out⟩)
         | (go_wp2_with fail; exact ⟨rfl, rfl, HE.out⟩)
set_option maxRecDepth 100000 in
set_option maxHeartbeats 4000000 in
theorem rec1_eB {bA bB bT bL bO bV bC opf : Nat} {ka na qa kb nb qb k p q n L : Int} {sa sb pic : ByteArray} {vy : Bool} {w : World} {E : Int}
   (RA : Row w bA (vaC ka na qa sa) 23) (RB : Row w bB (vaC kb nb qb sb) 23) (RT : Row w bT #[.int .i64 k, .int .i64 p, .int .i64 q, .int .i64 n, .bool vy, .string pic] 25) (RL : Row w bL #[.int .i64 L] 3) (RO : Row w bO #[fnv opf] 55)
   (hDR : ∀ (c cap : Nat) (W : World), VasAt W c 0 [Va.mk ka na qa sa, Va.mk kb nb qb sb] → c < W.heap.size → Calls Tryz.prog 21 #[.slice (some ⟨c, 0, none⟩) 2 cap] W fun e w' => e = .returned (.tuple #[]) ∧ Below W.heap.size W w')
   (hDV : ∀ W, Calls Tryz.prog 56 #[.agg #[.int .i64 k, .int .i64 p, .int .i64 q, .int .i64 n, .bool vy, .string pic]] W fun e w' => e = .returned (.tuple #[]) ∧ Below W.heap.size W w')
   (hXA : ∀ W, Calls Tryz.prog 22 #[vaV ka na qa sa] W fun e w' => ∃ p1 n1 k1 p2 n2 k2 d, e = .returned (exV (.slice p1 n1 k1) d (.slice p2 n2 k2)) ∧ Below W.heap.size W w')
   (hXB : ∀ W, Calls Tryz.prog 22 #[vaV kb nb qb sb] W fun e w' => e = dRef E ∧ Below W.heap.size W w') :
   Calls Tryz.prog 55 #[ptD bA, ptD bB, ptD bT, ptD bL, ptD bO, ptD bV, ptD bC] w fun e w' => e = dRef E ∧ Below w.heap.size w w' := by
 have RN := Row.new w #[.int .i64 ka, .int .i64 na, .int .i64 qa, .string sa, .int .i64 kb, .int .i64 nb, .int .i64 qb, .string sb] 23
 obtain ⟨a0, a1, a2, a3⟩ := RA.four
 obtain ⟨b0, b1, b2, b3⟩ := RB.four
 have HDR := Lib.hid hDR
 clear hDR
 have HDV := Lib.hid hDV
 clear hDV
 have HXA := Lib.hid hXA
 have HXB := Lib.hid hXB
 clear hXA hXB
 go_enter Tryz.func55, Tryz.ntmps55
 go_wp2_with (first
   | (go_at_call 21; refine (HDR.out _ _ _ (VasAt.two (a := ⟨ka, na, qa, sa⟩) (b := ⟨kb, nb, qb, sb⟩) RN) RN.lt).mono ?_; rintro e w1 ⟨rfl, hb1⟩; have HB1 := Lib.hid (bl_box (Below.refl _ w) hb1); clear hb1; have A1 := RA.keep HB1.out; have B1 := RB.keep HB1.out; have T1 := RT.keep HB1.out; have L1 := RL.keep HB1.out; have O1 := RO.keep HB1.out; obtain ⟨t0, t1, t2, t3, t4, t5⟩ := T1.six)
   | (go_at_call 56; refine (HDV.out _).mono ?_; rintro e w2 ⟨rfl, hb2⟩; have HB2 := Lib.hid (bl_then HB1.out hb2); have A2 := A1.keep hb2; have B2 := B1.keep hb2; have T2 := T1.keep hb2; have L2 := L1.keep hb2; have O2 := O1.keep hb2; obtain ⟨a0, a1, a2, a3⟩ := A2.four; obtain ⟨b0, b1, b2, b3⟩ := B2.four; clear hb2))
 clear HDR HDV RN RA RB RT RL RO A1 B1 T1 L1 O1 t0 t1 t2 t3 t4 t5 HB1
 have lA := A2.lt
 have lB := B2.lt
 have lA1 : bA < w2.heap.size + 1 := by omega
 have lB1 : bB < w2.heap.size + 1 := by omega
 have B : Hid (Below w2.heap.size w2 w2.drew) := Lib.hid (Below.refl _ w2).drew
 refine wp_region_held_drew (S := fun w' => (w'.cell? ⟨bA, 0, none⟩ = some (.int .i64 ka) ∧ w'.cell? ⟨bA, 1, none⟩ = some (.int .i64 na) ∧ w'.cell? ⟨bA, 2, none⟩ = some (.int .i64 qa) ∧ w'.cell? ⟨bA, 3, none⟩ = some (.string sa)) ∧ (w'.cell? ⟨bB, 0, none⟩ = some (.int .i64 kb) ∧ w'.cell? ⟨bB, 1, none⟩ = some (.int .i64 nb) ∧ w'.cell? ⟨bB, 2, none⟩ = some (.int .i64 qb) ∧ w'.cell? ⟨bB, 3, none⟩ = some (.string sb))) (by kernel_rfl) ?_ (fun hHeld => ?_)
 · exact ⟨(A2.keep B.out).four, (B2.keep B.out).four⟩
 first
   | (refine wpAnyH_take (i := 0) (v := undef) rfl (by kernel_rfl) (by kernel_rfl) (by kernel_rfl) (fun _ _ _ h => h) (Or.inr ⟨by rfl, rfl⟩) (by assumption) ?_)
   | (refine wpAnyH_take (i := 0) (v := ?_) rfl (by kernel_rfl) (by kernel_rfl) (by kernel_rfl) (fun _ _ _ h => h) (Or.inl ⟨by rfl, ?_⟩) (by assumption) ?_; rotate_left; (· intro w hSw; (try dsimp only at hSw); go_simp; (try with_reducible rfl)))
   | fail "TK 0"
 try simp only [Act.put, List.setIfInBounds_toArray, List.set_cons_zero, List.set_cons_succ, List.getElem_toArray, List.getElem_cons_zero]
 first
   | (refine wpAnyH_take (i := 2) (v := undef) rfl (by kernel_rfl) (by kernel_rfl) (by kernel_rfl) (fun _ _ _ h => h) (Or.inr ⟨by rfl, rfl⟩) (by assumption) ?_)
   | (refine wpAnyH_take (i := 2) (v := ?_) rfl (by kernel_rfl) (by kernel_rfl) (by kernel_rfl) (fun _ _ _ h => h) (Or.inl ⟨by rfl, ?_⟩) (by assumption) ?_; rotate_left; (· intro w hSw; (try dsimp only at hSw); go_simp; (try with_reducible rfl)))
   | fail "TK 2"
 try simp only [Act.put, List.setIfInBounds_toArray, List.set_cons_zero, List.set_cons_succ, List.getElem_toArray, List.getElem_cons_succ, List.getElem_cons_zero]
 refine wpAnyH_ready (rs := [1, 4, 5]) (by kernel_rfl) (by simp) ?_
 refine AllReadyH.cons rfl (fun K hK => ?_) (AllReadyH.cons rfl (fun K hK => ?_) (AllReadyH.cons rfl (fun K hK => ?_) (AllReadyH.nil)))
 · try simp only [List.getElem_toArray, List.getElem_cons_succ, List.getElem_cons_zero]
   first
     | (go_at_call 22; refine (HXA.out _).mono ?_; rintro e w3 ⟨p1, m1, k1, p2, m2, k2, d, rfl, hb⟩; have B := Lib.hid (B.out.trans (hb.mono B.out.size)); clear hb)
     | (go_simp; (go_at_call 22; refine (HXA.out _).mono ?_; rintro e w3 ⟨p1, m1, k1, p2, m2, k2, d, rfl, hb⟩; have B := Lib.hid (B.out.trans (hb.mono B.out.size)); clear hb))
     | fail "CALL"
   try go_wp2_with fail
   refine hK.out _ _ ?_ (fun hHeld2 => ?_)
   · exact ⟨(A2.keep B.out).four, (B2.keep B.out).four⟩
   clear hK K hHeld
   have hHeld := hHeld2
   clear hHeld2
   try simp only [Act.put, List.setIfInBounds_toArray, List.set_cons_zero, List.set_cons_succ, List.getElem_toArray, List.getElem_cons_succ, List.getElem_cons_zero]
   refine wpAnyH_ready (rs := [3, 4, 5]) (by kernel_rfl) (by simp) ?_
   refine AllReadyH.cons rfl (fun K hK => ?_) (AllReadyH.cons rfl (fun K hK => ?_) (AllReadyH.cons rfl (fun K hK => ?_) (AllReadyH.nil)))
   · try simp only [List.getElem_toArray, List.getElem_cons_succ, List.getElem_cons_zero]
     first
       | (go_at_call 22; refine (HXB.out _).mono ?_; rintro e w3 ⟨rfl, hb⟩; have HE := Lib.hid (bl_then HB2.out (B.out.trans (hb.mono B.out.size))); clear hb)
       | (go_simp; (go_at_call 22; refine (HXB.out _).mono ?_; rintro e w3 ⟨rfl, hb⟩; have HE := Lib.hid (bl_then HB2.out (B.out.trans (hb.mono B.out.size))); clear hb))
       | fail "CALL"
     first
       | exact ⟨rfl, HE.out⟩
       | exact ⟨rfl, rfl, HE.out⟩
       | (go_wp2_with fail; exact ⟨rfl, HE.out⟩)
       | (go_wp2_with fail; exact ⟨rfl, rfl, HE.out⟩)
   · try simp only [List.getElem_toArray, List.getElem_cons_succ, List.getElem_cons_zero]
     go_simp
     refine hK.out _ _ ?_ (fun hHeld2 => ?_)
     · refine ⟨?_, ?_⟩ <;> first | exact ((A2.keep B.out).alloc _).four | exact ((B2.keep B.out).alloc _).four
     clear hK K hHeld
     have hHeld := hHeld2
     clear hHeld2
     try simp only [Act.put, List.setIfInBounds_toArray, List.set_cons_zero, List.set_cons_succ, List.getElem_toArray, List.getElem_cons_succ, List.getElem_cons_zero]
     have B := Lib.hid (B.out.alloc B.out.size (.cells #[.slice none 0 0, .bool false, .slice none 0 0] 43))
     refine wpAnyH_ready (rs := [3, 5]) (by kernel_rfl) (by simp) ?_
     refine AllReadyH.cons rfl (fun K hK => ?_) (AllReadyH.cons rfl (fun K hK => ?_) (AllReadyH.nil))
     · try simp only [List.getElem_toArray, List.getElem_cons_succ, List.getElem_cons_zero]
       first
         | (go_at_call 22; refine (HXB.out _).mono ?_; rintro e w3 ⟨rfl, hb⟩; have HE := Lib.hid (bl_then HB2.out (B.out.trans (hb.mono B.out.size))); clear hb)
         | (go_simp; (go_at_call 22; refine (HXB.out _).mono ?_; rintro e w3 ⟨rfl, hb⟩; have HE := Lib.hid (bl_then HB2.out (B.out.trans (hb.mono B.out.size))); clear hb))
         | fail "CALL"
       first
         | exact ⟨rfl, HE.out⟩
         | exact ⟨rfl, rfl, HE.out⟩
         | (go_wp2_with fail; exact ⟨rfl, HE.out⟩)
         | (go_wp2_with fail; exact ⟨rfl, rfl, HE.out⟩)
     · try simp only [List.getElem_toArray, List.getElem_cons_succ, List.getElem_cons_zero]
       go_simp
       refine hK.out _ _ ?_ (fun hHeld2 => ?_)
       · refine ⟨?_, ?_⟩ <;> first | exact ((A2.keep B.out).alloc _).four | exact ((B2.keep B.out).alloc _).four
       clear hK K hHeld
       have hHeld := hHeld2
       clear hHeld2
       try simp only [Act.put, List.setIfInBounds_toArray, List.set_cons_zero, List.set_cons_succ, List.getElem_toArray, List.getElem_cons_succ, List.getElem_cons_zero]
       have B := Lib.hid (B.out.alloc B.out.size (.cells #[.slice none 0 0, .bool false, .slice none 0 0] 43))
       refine wpAnyH_ready (rs := [3]) (by kernel_rfl) (by simp) ?_
       refine AllReadyH.cons rfl (fun K hK => ?_) (AllReadyH.nil)
       · try simp only [List.getElem_toArray, List.getElem_cons_succ, List.getElem_cons_zero]
         first
           | (go_at_call 22; refine (HXB.out _).mono ?_; rintro e w3 ⟨rfl, hb⟩; have HE := Lib.hid (bl_then HB2.out (B.out.trans (hb.mono B.out.size))); clear hb)
           | (go_simp; (go_at_call 22; refine (HXB.out _).mono ?_; rintro e w3 ⟨rfl, hb⟩; have HE := Lib.hid (bl_then HB2.out (B.out.trans (hb.mono B.out.size))); clear hb))
           | fail "CALL"
         first
           | exact ⟨rfl, HE.out⟩
           | exact ⟨rfl, rfl, HE.out⟩
           | (go_wp2_with fail; exact ⟨rfl, HE.out⟩)
           | (go_wp2_with fail; exact ⟨rfl, rfl, HE.out⟩)
   · try simp only [List.getElem_toArray, List.getElem_cons_succ, List.getElem_cons_zero]
     go_simp
     refine hK.out _ _ ?_ (fun hHeld2 => ?_)
     · refine ⟨?_, ?_⟩ <;> first | exact ((A2.keep B.out).alloc _).four | exact ((B2.keep B.out).alloc _).four
     clear hK K hHeld
     have hHeld := hHeld2
     clear hHeld2
     try simp only [Act.put, List.setIfInBounds_toArray, List.set_cons_zero, List.set_cons_succ, List.getElem_toArray, List.getElem_cons_succ, List.getElem_cons_zero]
     have B := Lib.hid (B.out.alloc B.out.size (.cells #[.slice none 0 0, .bool false, .slice none 0 0] 43))
     refine wpAnyH_ready (rs := [3, 4]) (by kernel_rfl) (by simp) ?_
     refine AllReadyH.cons rfl (fun K hK => ?_) (AllReadyH.cons rfl (fun K hK => ?_) (AllReadyH.nil))
     · try simp only [List.getElem_toArray, List.getElem_cons_succ, List.getElem_cons_zero]
       first
         | (go_at_call 22; refine (HXB.out _).mono ?_; rintro e w3 ⟨rfl, hb⟩; have HE := Lib.hid (bl_then HB2.out (B.out.trans (hb.mono B.out.size))); clear hb)
         | (go_simp; (go_at_call 22; refine (HXB.out _).mono ?_; rintro e w3 ⟨rfl, hb⟩; have HE := Lib.hid (bl_then HB2.out (B.out.trans (hb.mono B.out.size))); clear hb))
         | fail "CALL"
       first
         | exact ⟨rfl, HE.out⟩
         | exact ⟨rfl, rfl, HE.out⟩
         | (go_wp2_with fail; exact ⟨rfl, HE.out⟩)
         | (go_wp2_with fail; exact ⟨rfl, rfl, HE.out⟩)
     · try simp only [List.getElem_toArray, List.getElem_cons_succ, List.getElem_cons_zero]
       go_simp
       refine hK.out _ _ ?_ (fun hHeld2 => ?_)
       · refine ⟨?_, ?_⟩ <;> first | exact ((A2.keep B.out).alloc _).four | exact ((B2.keep B.out).alloc _).four
       clear hK K hHeld
       have hHeld := hHeld2
       clear hHeld2
       try simp only [Act.put, List.setIfInBounds_toArray, List.set_cons_zero, List.set_cons_succ, List.getElem_toArray, List.getElem_cons_succ, List.getElem_cons_zero]
       have B := Lib.hid (B.out.alloc B.out.size (.cells #[.slice none 0 0, .bool false, .slice none 0 0] 43))
       refine wpAnyH_ready (rs := [3]) (by kernel_rfl) (by simp) ?_
       refine AllReadyH.cons rfl (fun K hK => ?_) (AllReadyH.nil)
       · try simp only [List.getElem_toArray, List.getElem_cons_succ, List.getElem_cons_zero]
         first
           | (go_at_call 22; refine (HXB.out _).mono ?_; rintro e w3 ⟨rfl, hb⟩; have HE := Lib.hid (bl_then HB2.out (B.out.trans (hb.mono B.out.size))); clear hb)
           | (go_simp; (go_at_call 22; refine (HXB.out _).mono ?_; rintro e w3 ⟨rfl, hb⟩; have HE := Lib.hid (bl_then HB2.out (B.out.trans (hb.mono B.out.size))); clear hb))
           | fail "CALL"
         first
           | exact ⟨rfl, HE.out⟩
           | exact ⟨rfl, rfl, HE.out⟩
           | (go_wp2_with fail; exact ⟨rfl, HE.out⟩)
           | (go_wp2_with fail; exact ⟨rfl, rfl, HE.out⟩)
 · try simp only [List.getElem_toArray, List.getElem_cons_succ, List.getElem_cons_zero]
   go_simp
   refine hK.out _ _ ?_ (fun hHeld2 => ?_)
   · refine ⟨?_, ?_⟩ <;> first | exact ((A2.keep B.out).alloc _).four | exact ((B2.keep B.out).alloc _).four
   clear hK K hHeld
   have hHeld := hHeld2
   clear hHeld2
   try simp only [Act.put, List.setIfInBounds_toArray, List.set_cons_zero, List.set_cons_succ, List.getElem_toArray, List.getElem_cons_succ, List.getElem_cons_zero]
   have B := Lib.hid (B.out.alloc B.out.size (.cells #[.slice none 0 0, .bool false, .slice none 0 0] 43))
   refine wpAnyH_ready (rs := [1, 5]) (by kernel_rfl) (by simp) ?_
   refine AllReadyH.cons rfl (fun K hK => ?_) (AllReadyH.cons rfl (fun K hK => ?_) (AllReadyH.nil))
   · try simp only [List.getElem_toArray, List.getElem_cons_succ, List.getElem_cons_zero]
     first
       | (go_at_call 22; refine (HXA.out _).mono ?_; rintro e w3 ⟨p1, m1, k1, p2, m2, k2, d, rfl, hb⟩; have B := Lib.hid (B.out.trans (hb.mono B.out.size)); clear hb)
       | (go_simp; (go_at_call 22; refine (HXA.out _).mono ?_; rintro e w3 ⟨p1, m1, k1, p2, m2, k2, d, rfl, hb⟩; have B := Lib.hid (B.out.trans (hb.mono B.out.size)); clear hb))
       | fail "CALL"
     try go_wp2_with fail
     refine hK.out _ _ ?_ (fun hHeld2 => ?_)
     · exact ⟨(A2.keep B.out).four, (B2.keep B.out).four⟩
     clear hK K hHeld
     have hHeld := hHeld2
     clear hHeld2
     try simp only [Act.put, List.setIfInBounds_toArray, List.set_cons_zero, List.set_cons_succ, List.getElem_toArray, List.getElem_cons_succ, List.getElem_cons_zero]
     refine wpAnyH_ready (rs := [3, 5]) (by kernel_rfl) (by simp) ?_
     refine AllReadyH.cons rfl (fun K hK => ?_) (AllReadyH.cons rfl (fun K hK => ?_) (AllReadyH.nil))
     · try simp only [List.getElem_toArray, List.getElem_cons_succ, List.getElem_cons_zero]
       first
         | (go_at_call 22; refine (HXB.out _).mono ?_; rintro e w3 ⟨rfl, hb⟩; have HE := Lib.hid (bl_then HB2.out (B.out.trans (hb.mono B.out.size))); clear hb)
         | (go_simp; (go_at_call 22; refine (HXB.out _).mono ?_; rintro e w3 ⟨rfl, hb⟩; have HE := Lib.hid (bl_then HB2.out (B.out.trans (hb.mono B.out.size))); clear hb))
         | fail "CALL"
       first
         | exact ⟨rfl, HE.out⟩
         | exact ⟨rfl, rfl, HE.out⟩
         | (go_wp2_with fail; exact ⟨rfl, HE.out⟩)
         | (go_wp2_with fail; exact ⟨rfl, rfl, HE.out⟩)
     · try simp only [List.getElem_toArray, List.getElem_cons_succ, List.getElem_cons_zero]
       go_simp
       refine hK.out _ _ ?_ (fun hHeld2 => ?_)
       · refine ⟨?_, ?_⟩ <;> first | exact ((A2.keep B.out).alloc _).four | exact ((B2.keep B.out).alloc _).four
       clear hK K hHeld
       have hHeld := hHeld2
       clear hHeld2
       try simp only [Act.put, List.setIfInBounds_toArray, List.set_cons_zero, List.set_cons_succ, List.getElem_toArray, List.getElem_cons_succ, List.getElem_cons_zero]
       have B := Lib.hid (B.out.alloc B.out.size (.cells #[.slice none 0 0, .bool false, .slice none 0 0] 43))
       refine wpAnyH_ready (rs := [3]) (by kernel_rfl) (by simp) ?_
       refine AllReadyH.cons rfl (fun K hK => ?_) (AllReadyH.nil)
       · try simp only [List.getElem_toArray, List.getElem_cons_succ, List.getElem_cons_zero]
         first
           | (go_at_call 22; refine (HXB.out _).mono ?_; rintro e w3 ⟨rfl, hb⟩; have HE := Lib.hid (bl_then HB2.out (B.out.trans (hb.mono B.out.size))); clear hb)
           | (go_simp; (go_at_call 22; refine (HXB.out _).mono ?_; rintro e w3 ⟨rfl, hb⟩; have HE := Lib.hid (bl_then HB2.out (B.out.trans (hb.mono B.out.size))); clear hb))
           | fail "CALL"
         first
           | exact ⟨rfl, HE.out⟩
           | exact ⟨rfl, rfl, HE.out⟩
           | (go_wp2_with fail; exact ⟨rfl, HE.out⟩)
           | (go_wp2_with fail; exact ⟨rfl, rfl, HE.out⟩)
   · try simp only [List.getElem_toArray, List.getElem_cons_succ, List.getElem_cons_zero]
     go_simp
     refine hK.out _ _ ?_ (fun hHeld2 => ?_)
     · refine ⟨?_, ?_⟩ <;> first | exact ((A2.keep B.out).alloc _).four | exact ((B2.keep B.out).alloc _).four
     clear hK K hHeld
     have hHeld := hHeld2
     clear hHeld2
     try simp only [Act.put, List.setIfInBounds_toArray, List.set_cons_zero, List.set_cons_succ, List.getElem_toArray, List.getElem_cons_succ, List.getElem_cons_zero]
     have B := Lib.hid (B.out.alloc B.out.size (.cells #[.slice none 0 0, .bool false, .slice none 0 0] 43))
     refine wpAnyH_ready (rs := [1]) (by kernel_rfl) (by simp) ?_
     refine AllReadyH.cons rfl (fun K hK => ?_) (AllReadyH.nil)
     · try simp only [List.getElem_toArray, List.getElem_cons_succ, List.getElem_cons_zero]
       first
         | (go_at_call 22; refine (HXA.out _).mono ?_; rintro e w3 ⟨p1, m1, k1, p2, m2, k2, d, rfl, hb⟩; have B := Lib.hid (B.out.trans (hb.mono B.out.size)); clear hb)
         | (go_simp; (go_at_call 22; refine (HXA.out _).mono ?_; rintro e w3 ⟨p1, m1, k1, p2, m2, k2, d, rfl, hb⟩; have B := Lib.hid (B.out.trans (hb.mono B.out.size)); clear hb))
         | fail "CALL"
       try go_wp2_with fail
       refine hK.out _ _ ?_ (fun hHeld2 => ?_)
       · exact ⟨(A2.keep B.out).four, (B2.keep B.out).four⟩
       clear hK K hHeld
       have hHeld := hHeld2
       clear hHeld2
       try simp only [Act.put, List.setIfInBounds_toArray, List.set_cons_zero, List.set_cons_succ, List.getElem_toArray, List.getElem_cons_succ, List.getElem_cons_zero]
       refine wpAnyH_ready (rs := [3]) (by kernel_rfl) (by simp) ?_
       refine AllReadyH.cons rfl (fun K hK => ?_) (AllReadyH.nil)
       · try simp only [List.getElem_toArray, List.getElem_cons_succ, List.getElem_cons_zero]
         first
           | (go_at_call 22; refine (HXB.out _).mono ?_; rintro e w3 ⟨rfl, hb⟩; have HE := Lib.hid (bl_then HB2.out (B.out.trans (hb.mono B.out.size))); clear hb)
           | (go_simp; (go_at_call 22; refine (HXB.out _).mono ?_; rintro e w3 ⟨rfl, hb⟩; have HE := Lib.hid (bl_then HB2.out (B.out.trans (hb.mono B.out.size))); clear hb))
           | fail "CALL"
         first
           | exact ⟨rfl, HE.out⟩
           | exact ⟨rfl, rfl, HE.out⟩
           | (go_wp2_with fail; exact ⟨rfl, HE.out⟩)
           | (go_wp2_with fail; exact ⟨rfl, rfl, HE.out⟩)
 · try simp only [List.getElem_toArray, List.getElem_cons_succ, List.getElem_cons_zero]
   go_simp
   refine hK.out _ _ ?_ (fun hHeld2 => ?_)
   · refine ⟨?_, ?_⟩ <;> first | exact ((A2.keep B.out).alloc _).four | exact ((B2.keep B.out).alloc _).four
   clear hK K hHeld
   have hHeld := hHeld2
   clear hHeld2
   try simp only [Act.put, List.setIfInBounds_toArray, List.set_cons_zero, List.set_cons_succ, List.getElem_toArray, List.getElem_cons_succ, List.getElem_cons_zero]
   have B := Lib.hid (B.out.alloc B.out.size (.cells #[.slice none 0 0, .bool false, .slice none 0 0] 43))
   refine wpAnyH_ready (rs := [1, 4]) (by kernel_rfl) (by simp) ?_
   refine AllReadyH.cons rfl (fun K hK => ?_) (AllReadyH.cons rfl (fun K hK => ?_) (AllReadyH.nil))
   · try simp only [List.getElem_toArray, List.getElem_cons_succ, List.getElem_cons_zero]
     first
       | (go_at_call 22; refine (HXA.out _).mono ?_; rintro e w3 ⟨p1, m1, k1, p2, m2, k2, d, rfl, hb⟩; have B := Lib.hid (B.out.trans (hb.mono B.out.size)); clear hb)
       | (go_simp; (go_at_call 22; refine (HXA.out _).mono ?_; rintro e w3 ⟨p1, m1, k1, p2, m2, k2, d, rfl, hb⟩; have B := Lib.hid (B.out.trans (hb.mono B.out.size)); clear hb))
       | fail "CALL"
     try go_wp2_with fail
     refine hK.out _ _ ?_ (fun hHeld2 => ?_)
     · exact ⟨(A2.keep B.out).four, (B2.keep B.out).four⟩
     clear hK K hHeld
     have hHeld := hHeld2
     clear hHeld2
     try simp only [Act.put, List.setIfInBounds_toArray, List.set_cons_zero, List.set_cons_succ, List.getElem_toArray, List.getElem_cons_succ, List.getElem_cons_zero]
     refine wpAnyH_ready (rs := [3, 4]) (by kernel_rfl) (by simp) ?_
     refine AllReadyH.cons rfl (fun K hK => ?_) (AllReadyH.cons rfl (fun K hK => ?_) (AllReadyH.nil))
     · try simp only [List.getElem_toArray, List.getElem_cons_succ, List.getElem_cons_zero]
       first
         | (go_at_call 22; refine (HXB.out _).mono ?_; rintro e w3 ⟨rfl, hb⟩; have HE := Lib.hid (bl_then HB2.out (B.out.trans (hb.mono B.out.size))); clear hb)
         | (go_simp; (go_at_call 22; refine (HXB.out _).mono ?_; rintro e w3 ⟨rfl, hb⟩; have HE := Lib.hid (bl_then HB2.out (B.out.trans (hb.mono B.out.size))); clear hb))
         | fail "CALL"
       first
         | exact ⟨rfl, HE.out⟩
         | exact ⟨rfl, rfl, HE.out⟩
         | (go_wp2_with fail; exact ⟨rfl, HE.out⟩)
         | (go_wp2_with fail; exact ⟨rfl, rfl, HE.out⟩)
     · try simp only [List.getElem_toArray, List.getElem_cons_succ, List.getElem_cons_zero]
       go_simp
       refine hK.out _ _ ?_ (fun hHeld2 => ?_)
       · refine ⟨?_, ?_⟩ <;> first | exact ((A2.keep B.out).alloc _).four | exact ((B2.keep B.out).alloc _).four
       clear hK K hHeld
       have hHeld := hHeld2
       clear hHeld2
       try simp only [Act.put, List.setIfInBounds_toArray, List.set_cons_zero, List.set_cons_succ, List.getElem_toArray, List.getElem_cons_succ, List.getElem_cons_zero]
       have B := Lib.hid (B.out.alloc B.out.size (.cells #[.slice none 0 0, .bool false, .slice none 0 0] 43))
       refine wpAnyH_ready (rs := [3]) (by kernel_rfl) (by simp) ?_
       refine AllReadyH.cons rfl (fun K hK => ?_) (AllReadyH.nil)
       · try simp only [List.getElem_toArray, List.getElem_cons_succ, List.getElem_cons_zero]
         first
           | (go_at_call 22; refine (HXB.out _).mono ?_; rintro e w3 ⟨rfl, hb⟩; have HE := Lib.hid (bl_then HB2.out (B.out.trans (hb.mono B.out.size))); clear hb)
           | (go_simp; (go_at_call 22; refine (HXB.out _).mono ?_; rintro e w3 ⟨rfl, hb⟩; have HE := Lib.hid (bl_then HB2.out (B.out.trans (hb.mono B.out.size))); clear hb))
           | fail "CALL"
         first
           | exact ⟨rfl, HE.out⟩
           | exact ⟨rfl, rfl, HE.out⟩
           | (go_wp2_with fail; exact ⟨rfl, HE.out⟩)
           | (go_wp2_with fail; exact ⟨rfl, rfl, HE.out⟩)
   · try simp only [List.getElem_toArray, List.getElem_cons_succ, List.getElem_cons_zero]
     go_simp
     refine hK.out _ _ ?_ (fun hHeld2 => ?_)
     · refine ⟨?_, ?_⟩ <;> first | exact ((A2.keep B.out).alloc _).four | exact ((B2.keep B.out).alloc _).four
     clear hK K hHeld
     have hHeld := hHeld2
     clear hHeld2
     try simp only [Act.put, List.setIfInBounds_toArray, List.set_cons_zero, List.set_cons_succ, List.getElem_toArray, List.getElem_cons_succ, List.getElem_cons_zero]
     have B := Lib.hid (B.out.alloc B.out.size (.cells #[.slice none 0 0, .bool false, .slice none 0 0] 43))
     refine wpAnyH_ready (rs := [1]) (by kernel_rfl) (by simp) ?_
     refine AllReadyH.cons rfl (fun K hK => ?_) (AllReadyH.nil)
     · try simp only [List.getElem_toArray, List.getElem_cons_succ, List.getElem_cons_zero]
       first
         | (go_at_call 22; refine (HXA.out _).mono ?_; rintro e w3 ⟨p1, m1, k1, p2, m2, k2, d, rfl, hb⟩; have B := Lib.hid (B.out.trans (hb.mono B.out.size)); clear hb)
         | (go_simp; (go_at_call 22; refine (HXA.out _).mono ?_; rintro e w3 ⟨p1, m1, k1, p2, m2, k2, d, rfl, hb⟩; have B := Lib.hid (B.out.trans (hb.mono B.out.size)); clear hb))
         | fail "CALL"
       try go_wp2_with fail
       refine hK.out _ _ ?_ (fun hHeld2 => ?_)
       · exact ⟨(A2.keep B.out).four, (B2.keep B.out).four⟩
       clear hK K hHeld
       have hHeld := hHeld2
       clear hHeld2
       try simp only [Act.put, List.setIfInBounds_toArray, List.set_cons_zero, List.set_cons_succ, List.getElem_toArray, List.getElem_cons_succ, List.getElem_cons_zero]
       refine wpAnyH_ready (rs := [3]) (by kernel_rfl) (by simp) ?_
       refine AllReadyH.cons rfl (fun K hK => ?_) (AllReadyH.nil)
       · try simp only [List.getElem_toArray, List.getElem_cons_succ, List.getElem_cons_zero]
         first
           | (go_at_call 22; refine (HXB.out _).mono ?_; rintro e w3 ⟨rfl, hb⟩; have HE := Lib.hid (bl_then HB2.out (B.out.trans (hb.mono B.out.size))); clear hb)
           | (go_simp; (go_at_call 22; refine (HXB.out _).mono ?_; rintro e w3 ⟨rfl, hb⟩; have HE := Lib.hid (bl_then HB2.out (B.out.trans (hb.mono B.out.size))); clear hb))
           | fail "CALL"
         first
           | exact ⟨rfl, HE.out⟩
           | exact ⟨rfl, rfl, HE.out⟩
           | (go_wp2_with fail; exact ⟨rfl, HE.out⟩)
           | (go_wp2_with fail; exact ⟨rfl, rfl, HE.out⟩)
def CmpE (a b : Va) (po : Nat) (E : Int) (w : World) (e : Ending) (w' : World) : Prop :=
 ∃ w1, Below w.heap.size w w1 ∧ ((E ≠ 0 ∧ e = dRef E ∧ w' = w1) ∨ (E = 0 ∧ e = .returned (.tuple #[]) ∧ w' = w1.setCell ⟨po, 0, none⟩ (.int .i64 (sgnZ (plN a.num a.den (-b.num) b.den)))))
set_option maxRecDepth 100000 in
set_option maxHeartbeats 4000000 in
theorem cmpE_yes (a b : Va) (pa pb po : Nat) (x : Int) (w : World) (ha : Row w pa a.row 23) (hb : Row w pb b.row 23) (ho : Row w po #[.int .i64 x] 3) (hR : ∀ (c cap : Nat) (W : World), VasAt W c 0 [a, b] → c < W.heap.size → Calls Tryz.prog 21 #[.slice (some ⟨c, 0, none⟩) 2 cap] W fun e w' => e = .returned (.tuple #[]) ∧ Below W.heap.size W w') (ra0 : a.right) (rb0 : b.right) (na : a.number) (nb : b.number) (hpa : ¬ po = pa) (hpb : ¬ po = pb) :
   Calls Tryz.prog 20 #[.pointer (some ⟨pa, 0, none⟩), .pointer (some ⟨pb, 0, none⟩), .pointer (some ⟨po, 0, none⟩)] w (CmpE a b po 0 w) := by
 obtain ⟨ka, xa, qa, sa⟩ := a
 obtain ⟨kb, xb, qb, sb⟩ := b
 have HR := Lib.hid hR
 have hpa' : ¬ pa = po := fun h => hpa h.symm
 have hpb' : ¬ pb = po := fun h => hpb h.symm
 have NA := Lib.hid na
 have NB := Lib.hid nb
 clear hR na nb
 have RA := ha
 have RB := hb
 have RO := ho
 obtain ⟨a0, a1, a2, a3⟩ := ha.four
 obtain ⟨b0, b1, b2, b3⟩ := hb.four
 have la := ha.lt
 have lb := hb.lt
 have lo := ho.lt
 clear ha hb ho
 have RN := Row.new w #[.int .i64 ka, .int .i64 xa, .int .i64 qa, .string sa, .int .i64 kb, .int .i64 xb, .int .i64 qb, .string sb] 23
 go_enter Tryz.func20, Tryz.ntmps20
 go_wp2_with (go_at_call 21; refine (HR.out _ _ _ (VasAt.two (a := ⟨ka, xa, qa, sa⟩) (b := ⟨kb, xb, qb, sb⟩) RN) RN.lt).mono ?_; rintro e w1 ⟨rfl, hb1⟩; have HB1 := Lib.hid (bl_box (Below.refl _ w) hb1))
 · have ra := Lib.hid ra0
   have rb := Lib.hid rb0
   clear RN
   have A1 : Row w1 pa (vaC ka xa qa sa) 23 := RA.keep HB1.out
   have B1 : Row w1 pb (vaC kb xb qb sb) 23 := RB.keep HB1.out
   have O1 := RO.keep HB1.out
   clear RA RB RO hb1 a0 a1 a2 a3 b0 b1 b2 b3 la lb lo HR
   obtain ⟨N, hN⟩ : ∃ N, plN (Va.mk ka xa qa sa).num (Va.mk ka xa qa sa).den (-(Va.mk kb xb qb sb).num) (Va.mk kb xb qb sb).den = N := ⟨_, rfl⟩
   obtain ⟨U, hU⟩ : ∃ U, plU (Va.mk ka xa qa sa).den (Va.mk kb xb qb sb).den = U := ⟨_, rfl⟩
   have l1 := Va.num_len _ ra.out NA.out
   have l2 := Va.num_len _ rb.out NB.out
   have l3 := Va.den_len _ ra.out NA.out
   have l4 := Va.den_len _ rb.out NB.out
   have lN : (wrds N.natAbs).length ≤ 1000000 := by rw [← hN]; exact plN_len l1 l2 l3 l4
   have HXA : Hid (∀ W : World, Calls Tryz.prog 22 #[vaV ka xa qa sa] W fun e w' => ∃ y, e = .returned y ∧ XArgP TT w' y (Va.mk ka xa qa sa).num (Va.mk ka xa qa sa).den ∧ Below W.heap.size W w') := Lib.hid fun W => exactly_num ⟨ka, xa, qa, sa⟩ W (fun _ _ => trivial) ra.out NA.out
   have HXB : Hid (∀ W : World, Calls Tryz.prog 22 #[vaV kb xb qb sb] W fun e w' => ∃ y, e = .returned y ∧ XArgP TT w' y (Va.mk kb xb qb sb).num (Va.mk kb xb qb sb).den ∧ Below W.heap.size W w') := Lib.hid fun W => exactly_num ⟨kb, xb, qb, sb⟩ W (fun _ _ => trivial) rb.out NB.out
   have HMI : Hid (∀ (va vb : Value) (W : World), XArgP TT W va (Va.mk ka xa qa sa).num (Va.mk ka xa qa sa).den → XArgP TT W vb (Va.mk kb xb qb sb).num (Va.mk kb xb qb sb).den → Calls Tryz.prog 23 #[va, vb] W fun e w' => ∃ y, e = .returned y ∧ XArgP TT w' y N U ∧ Below W.heap.size W w') := Lib.hid fun va vb W h1 h2 => by
     rw [← hN, ← hU]; exact minus_x h1 h2 (fun _ _ => trivial) l1 l2 l3 l4
   obtain ⟨G, hG⟩ : ∃ G, sgnZ N = G := ⟨_, rfl⟩
   have HSI : Hid (∀ (v : Value) (W : World), XArgP TT W v N U → Calls Tryz.prog 24 #[v] W fun e w' => e = .returned (.int .i64 G) ∧ Below W.heap.size W w') := Lib.hid fun v W h => by
     rw [← hG]; exact sign_x h.x lN
   have HE : Hid (G = sgnZ (plN (Va.mk ka xa qa sa).num (Va.mk ka xa qa sa).den (-(Va.mk kb xb qb sb).num) (Va.mk kb xb qb sb).den)) := Lib.hid (by rw [hN, hG])
   clear hN hU hG l1 l2 l3 l4 lN
   obtain ⟨an, han⟩ : ∃ n, (Va.mk ka xa qa sa).num = n := ⟨_, rfl⟩
   obtain ⟨ad, had⟩ : ∃ n, (Va.mk ka xa qa sa).den = n := ⟨_, rfl⟩
   obtain ⟨bn, hbn⟩ : ∃ n, (Va.mk kb xb qb sb).num = n := ⟨_, rfl⟩
   obtain ⟨bd, hbd⟩ : ∃ n, (Va.mk kb xb qb sb).den = n := ⟨_, rfl⟩
   rw [han, had] at HXA HMI
   rw [hbn, hbd] at HXB HMI
   clear han had hbn hbd
   obtain ⟨a0, a1, a2, a3⟩ := A1.four
   obtain ⟨b0, b1, b2, b3⟩ := B1.four
   go_region_held3 (fun w' => (w'.cell? ⟨pa, 0, none⟩ = some (.int .i64 ka) ∧ w'.cell? ⟨pa, 1, none⟩ = some (.int .i64 xa) ∧ w'.cell? ⟨pa, 2, none⟩ = some (.int .i64 qa) ∧ w'.cell? ⟨pa, 3, none⟩ = some (.string sa)) ∧ (w'.cell? ⟨pb, 0, none⟩ = some (.int .i64 kb) ∧ w'.cell? ⟨pb, 1, none⟩ = some (.int .i64 xb) ∧ w'.cell? ⟨pb, 2, none⟩ = some (.int .i64 qb) ∧ w'.cell? ⟨pb, 3, none⟩ = some (.string sb)))
     (first | go_keep | exact ⟨A5.four, B5.four⟩ | exact ⟨A4.four, B4.four⟩ | exact ⟨A3.four, B3.four⟩ | exact ⟨A2.four, B2.four⟩ | ((try dsimp only); (repeat' apply And.intro) <;> go_keep))
     (first
       | (go_at_call 22; (with_reducible refine (HXA.out _).mono ?_); rintro e w2 ⟨y2, rfl, X2, hb2⟩; have A2 := A1.keep (bl_drew hb2); have B2 := B1.keep (bl_drew hb2))
       | (go_at_call 22; (with_reducible refine (HXB.out _).mono ?_); rintro e w3 ⟨y3, rfl, Y3, hb3⟩; have A3 := A2.keep hb3; have B3 := B2.keep hb3; have X3 := X2.keep hb3 (Nat.le_refl _))
       | (go_at_call 23; (with_reducible refine (HMI.out _ _ _ X3 Y3).mono ?_); rintro e w4 ⟨y4, rfl, Z4, hb4⟩; have A4 := A3.keep hb4; have B4 := B3.keep hb4)
       | (go_at_call 24; (with_reducible refine (HSI.out _ _ Z4).mono ?_); rintro e w5 ⟨rfl, hb5⟩; have A5 := A4.keep hb5; have B5 := B4.keep hb5; have O5 := (((O1.keep (bl_drew hb2)).keep hb3).keep hb4).keep hb5; have o5 := O5.one; have f5 := O5.free 0))
   all_goals go_wp2
   all_goals go_end0
   all_goals exact ⟨w5, bl_then HB1.out (bl_then (bl_then (bl_then (bl_drew hb2) hb3) hb4) hb5), Or.inr ⟨rfl, rfl, by rw [HE.out]⟩⟩
set_option maxRecDepth 100000 in
set_option maxHeartbeats 4000000 in
theorem cmpE_noA (a b : Va) (pa pb po : Nat) (x : Int) (w : World) (ha : Row w pa a.row 23) (hb : Row w pb b.row 23) (ho : Row w po #[.int .i64 x] 3) (hR : ∀ (c cap : Nat) (W : World), VasAt W c 0 [a, b] → c < W.heap.size → Calls Tryz.prog 21 #[.slice (some ⟨c, 0, none⟩) 2 cap] W fun e w' => e = .returned (.tuple #[]) ∧ Below W.heap.size W w') (na : ¬ a.number) (hpa : ¬ po = pa) (hpb : ¬ po = pb) :
   Calls Tryz.prog 20 #[.pointer (some ⟨pa, 0, none⟩), .pointer (some ⟨pb, 0, none⟩), .pointer (some ⟨po, 0, none⟩)] w (CmpE a b po 10 w) := by
 obtain ⟨ka, xa, qa, sa⟩ := a
 obtain ⟨kb, xb, qb, sb⟩ := b
 have HR := Lib.hid hR
 have hpa' : ¬ pa = po := fun h => hpa h.symm
 have hpb' : ¬ pb = po := fun h => hpb h.symm
 have NA := Lib.hid na
 clear hR na
 have RA := ha
 have RB := hb
 have RO := ho
 obtain ⟨a0, a1, a2, a3⟩ := ha.four
 obtain ⟨b0, b1, b2, b3⟩ := hb.four
 have la := ha.lt
 have lb := hb.lt
 have lo := ho.lt
 clear ha hb ho
 have RN := Row.new w #[.int .i64 ka, .int .i64 xa, .int .i64 qa, .string sa, .int .i64 kb, .int .i64 xb, .int .i64 qb, .string sb] 23
 go_enter Tryz.func20, Tryz.ntmps20
 go_wp2_with (go_at_call 21; refine (HR.out _ _ _ (VasAt.two (a := ⟨ka, xa, qa, sa⟩) (b := ⟨kb, xb, qb, sb⟩) RN) RN.lt).mono ?_; rintro e w1 ⟨rfl, hb1⟩; have HB1 := Lib.hid (bl_box (Below.refl _ w) hb1))
 · have A1 : Row w1 pa (vaC ka xa qa sa) 23 := RA.keep HB1.out
   have B1 : Row w1 pb (vaC kb xb qb sb) 23 := RB.keep HB1.out
   clear RN RA RB RO hb1 a0 a1 a2 a3 b0 b1 b2 b3 la lb lo HR
   have HXA : Hid (∀ W : World, Calls Tryz.prog 22 #[vaV ka xa qa sa] W fun e w' => e = dRef 10 ∧ Below W.heap.size W w') := Lib.hid fun W => exactly_none ⟨ka, xa, qa, sa⟩ W NA.out
   obtain ⟨a0, a1, a2, a3⟩ := A1.four
   obtain ⟨b0, b1, b2, b3⟩ := B1.four
   go_region_with (go_at_call 22; (with_reducible refine (HXA.out _).mono ?_); rintro e w2 ⟨rfl, hb2⟩; have HB2 := bl_then HB1.out (bl_drew hb2); suffices _hT : wpAny Tryz.prog Region.Mode.any #[] (fun _ _ _ => True) 0 #[] ⟨#[], []⟩ w2 from ⟨rfl, w2, HB2, Or.inl ⟨by decide, rfl, rfl⟩⟩)
   all_goals trivial
set_option maxRecDepth 100000 in
set_option maxHeartbeats 4000000 in
theorem cmpE_noB (a b : Va) (pa pb po : Nat) (x : Int) (w : World) (ha : Row w pa a.row 23) (hb : Row w pb b.row 23) (ho : Row w po #[.int .i64 x] 3) (hR : ∀ (c cap : Nat) (W : World), VasAt W c 0 [a, b] → c < W.heap.size → Calls Tryz.prog 21 #[.slice (some ⟨c, 0, none⟩) 2 cap] W fun e w' => e = .returned (.tuple #[]) ∧ Below W.heap.size W w') (ra0 : a.right) (na : a.number) (nb : ¬ b.number) (hpa : ¬ po = pa) (hpb : ¬ po = pb) :
   Calls Tryz.prog 20 #[.pointer (some ⟨pa, 0, none⟩), .pointer (some ⟨pb, 0, none⟩), .pointer (some ⟨po, 0, none⟩)] w (CmpE a b po 10 w) := by
 obtain ⟨ka, xa, qa, sa⟩ := a
 obtain ⟨kb, xb, qb, sb⟩ := b
 have HR := Lib.hid hR
 have hpa' : ¬ pa = po := fun h => hpa h.symm
 have hpb' : ¬ pb = po := fun h => hpb h.symm
 have NA := Lib.hid na
 have NB := Lib.hid nb
 clear hR na nb
 have RA := ha
 have RB := hb
 have RO := ho
 obtain ⟨a0, a1, a2, a3⟩ := ha.four
 obtain ⟨b0, b1, b2, b3⟩ := hb.four
 have la := ha.lt
 have lb := hb.lt
 have lo := ho.lt
 clear ha hb ho
 have RN := Row.new w #[.int .i64 ka, .int .i64 xa, .int .i64 qa, .string sa, .int .i64 kb, .int .i64 xb, .int .i64 qb, .string sb] 23
 go_enter Tryz.func20, Tryz.ntmps20
 go_wp2_with (go_at_call 21; refine (HR.out _ _ _ (VasAt.two (a := ⟨ka, xa, qa, sa⟩) (b := ⟨kb, xb, qb, sb⟩) RN) RN.lt).mono ?_; rintro e w1 ⟨rfl, hb1⟩; have HB1 := Lib.hid (bl_box (Below.refl _ w) hb1))
 · have A1 : Row w1 pa (vaC ka xa qa sa) 23 := RA.keep HB1.out
   have B1 : Row w1 pb (vaC kb xb qb sb) 23 := RB.keep HB1.out
   have ra := Lib.hid ra0
   clear RN RA RB RO hb1 a0 a1 a2 a3 b0 b1 b2 b3 la lb lo HR
   have HXA : Hid (∀ W : World, Calls Tryz.prog 22 #[vaV ka xa qa sa] W fun e w' => ∃ y, e = .returned y ∧ Below W.heap.size W w') := Lib.hid fun W => (exactly_num (P := TT) ⟨ka, xa, qa, sa⟩ W (fun _ _ => trivial) ra.out NA.out).mono fun e w' ⟨y, he, _, hb⟩ => ⟨y, he, hb⟩
   have HXB : Hid (∀ W : World, Calls Tryz.prog 22 #[vaV kb xb qb sb] W fun e w' => e = dRef 10 ∧ Below W.heap.size W w') := Lib.hid fun W => exactly_none ⟨kb, xb, qb, sb⟩ W NB.out
   obtain ⟨a0, a1, a2, a3⟩ := A1.four
   obtain ⟨b0, b1, b2, b3⟩ := B1.four
   go_region_with (first
     | (go_at_call 22; (with_reducible refine (HXA.out _).mono ?_); rintro e w2 ⟨y2, rfl, hb2⟩; have A2 := A1.keep (bl_drew hb2); have B2 := B1.keep (bl_drew hb2); have HB2 := bl_then HB1.out (bl_drew hb2); obtain ⟨u0, u1, u2, u3⟩ := A2.four; obtain ⟨v0, v1, v2, v3⟩ := B2.four)
     | (go_at_call 22; (with_reducible refine (HXB.out _).mono ?_); rintro e w3 ⟨rfl, hb3⟩; have HB3 := bl_then HB2 hb3; suffices _hT : wpAny Tryz.prog Region.Mode.any #[] (fun _ _ _ => True) 0 #[] ⟨#[], []⟩ w3 from ⟨rfl, w3, HB3, Or.inl ⟨by decide, rfl, rfl⟩⟩))
   all_goals trivial
set_option maxRecDepth 100000 in
set_option maxHeartbeats 4000000 in
theorem cmpE_no (a b : Va) (pa pb po : Nat) (x : Int) (w : World) (ha : Row w pa a.row 23) (hb : Row w pb b.row 23) (ho : Row w po #[.int .i64 x] 3) (hR : ∀ (c cap : Nat) (W : World), VasAt W c 0 [a, b] → c < W.heap.size → Calls Tryz.prog 21 #[.slice (some ⟨c, 0, none⟩) 2 cap] W fun e w' => e = dRef 1 ∧ Below W.heap.size W w') (hpa : ¬ po = pa) (hpb : ¬ po = pb) :
   Calls Tryz.prog 20 #[.pointer (some ⟨pa, 0, none⟩), .pointer (some ⟨pb, 0, none⟩), .pointer (some ⟨po, 0, none⟩)] w (CmpE a b po 1 w) := by
 obtain ⟨ka, xa, qa, sa⟩ := a
 obtain ⟨kb, xb, qb, sb⟩ := b
 have HR := Lib.hid hR
 have hpa' : ¬ pa = po := fun h => hpa h.symm
 have hpb' : ¬ pb = po := fun h => hpb h.symm
 clear hR
 have RA := ha
 have RB := hb
 have RO := ho
 obtain ⟨a0, a1, a2, a3⟩ := ha.four
 obtain ⟨b0, b1, b2, b3⟩ := hb.four
 have la := ha.lt
 have lb := hb.lt
 have lo := ho.lt
 clear ha hb ho
 have RN := Row.new w #[.int .i64 ka, .int .i64 xa, .int .i64 qa, .string sa, .int .i64 kb, .int .i64 xb, .int .i64 qb, .string sb] 23
 go_enter Tryz.func20, Tryz.ntmps20
 go_wp2_with (go_at_call 21; refine (HR.out _ _ _ (VasAt.two (a := ⟨ka, xa, qa, sa⟩) (b := ⟨kb, xb, qb, sb⟩) RN) RN.lt).mono ?_; rintro e w1 ⟨rfl, hb1⟩; have HB1 := Lib.hid (bl_box (Below.refl _ w) hb1))
 exact ⟨rfl, w1, HB1.out, Or.inl ⟨by decide, rfl, rfl⟩⟩
set_option maxHeartbeats 4000000 in
theorem cmpE_guard (a b : Va) (E : Int) (w : World) (hC : ∀ (pa pb po : Nat) (W : World), Row W pa a.row 23 → Row W pb b.row 23 → Row W po #[.int .i64 0] 3 → ¬ po = pa → ¬ po = pb → Calls Tryz.prog 20 #[.pointer (some ⟨pa, 0, none⟩), .pointer (some ⟨pb, 0, none⟩), .pointer (some ⟨po, 0, none⟩)] W (CmpE a b po E W)) :
   Calls Tryz.prog 19 #[.func (.func 20) #[] #[.pointer (some ⟨w.heap.size, 0, none⟩), .pointer (some ⟨w.heap.size + 1, 0, none⟩), .pointer (some ⟨w.heap.size + 1 + 1, 0, none⟩)]]
     (((w.alloc (.cells a.row 23)).alloc (.cells b.row 23)).alloc (.cells #[.int .i64 0] 3))
     fun e w' => e = .returned (.int .i64 E) ∧ Row w' (w.heap.size + 1 + 1) #[.int .i64 (if E = 0 then sgnZ (plN a.num a.den (-b.num) b.den) else 0)] 3 ∧ Below w.heap.size w w' := by
 have hcf : ∀ (cap : Array Value) (W : World), (callFunc 20 cap).run Tryz.prog W = .ok (.enter 20 cap) W := fun cap W => enters_of Tryz.func20 (by kernel_rfl) rfl cap W
 have RA := (((Row.new w a.row 23).alloc (.cells b.row 23)).alloc (.cells #[.int .i64 0] 3)).alloc (.cells #[.int .i64 0] 28)
 have RB := ((Row.new2 w (.cells a.row 23) b.row 23).alloc (.cells #[.int .i64 0] 3)).alloc (.cells #[.int .i64 0] 28)
 have RO := (Row.new3 w (.cells a.row 23) (.cells b.row 23) #[.int .i64 0] 3).alloc (.cells #[.int .i64 0] 28)
 have RG := Row.new (((w.alloc (.cells a.row 23)).alloc (.cells b.row 23)).alloc (.cells #[.int .i64 0] 3)) #[.int .i64 0] 28
 have hs : (((w.alloc (.cells a.row 23)).alloc (.cells b.row 23)).alloc (.cells #[.int .i64 0] 3)).heap.size = w.heap.size + 1 + 1 + 1 := by simp
 have hB : Below w.heap.size w ((((w.alloc (.cells a.row 23)).alloc (.cells b.row 23)).alloc (.cells #[.int .i64 0] 3)).alloc (.cells #[.int .i64 0] 28)) := by go_grown
 refine (guard_any (R := fun n w' => n = E ∧ Row w' (w.heap.size + 1 + 1) #[.int .i64 (if E = 0 then sgnZ (plN a.num a.den (-b.num) b.den) else 0)] 3 ∧ Below w.heap.size w w') _ _ _ (hcf _) ?_).mono ?_
 · refine (hC _ _ _ _ RA RB RO (by omega) (by omega)).mono ?_
   rintro e w' ⟨w1, hb, (⟨hn, rfl, rfl⟩ | ⟨h0, rfl, rfl⟩)⟩
   · exact ⟨⟨E, .inl rfl, rfl, by rw [if_neg hn]; exact RO.keep hb, bl_then hB hb⟩, (RG.keep hb).one, (RG.keep hb).free 0⟩
   · refine ⟨⟨0, .inr ⟨rfl, rfl⟩, h0.symm, by rw [if_pos h0]; exact (RO.keep hb).putw 0 _, (bl_then hB hb).setCell (by simp <;> omega) _⟩, ?_, ?_⟩
     · exact ((RG.keep hb).set (by rw [hs]; simp <;> omega)).one
     · exact ((RG.keep hb).set (by rw [hs]; simp <;> omega)).free 0
 · rintro e w' ⟨n, rfl, w1, ⟨rfl, hrow, hb⟩, rfl⟩
   exact ⟨rfl, hrow.set (by rw [hs]; simp <;> omega), hb.setCell (by rw [hs]; simp <;> omega) _⟩
set_option maxRecDepth 100000 in
set_option maxHeartbeats 4000000 in
theorem compare_e (a b : Va) (E : Int) (w : World) (hC : ∀ (pa pb po : Nat) (W : World), Row W pa a.row 23 → Row W pb b.row 23 → Row W po #[.int .i64 0] 3 → ¬ po = pa → ¬ po = pb → Calls Tryz.prog 20 #[.pointer (some ⟨pa, 0, none⟩), .pointer (some ⟨pb, 0, none⟩), .pointer (some ⟨po, 0, none⟩)] W (CmpE a b po E W)) :
   Calls Tryz.prog 6 #[a.v, b.v] w fun e w' => e = .returned (.tuple #[.int .i64 (if E = 0 then sgnZ (plN a.num a.den (-b.num) b.den) else 0), .int .i64 E]) ∧ Below w.heap.size w w' := by
 have hmf : ∀ (fn : Fn) (first cap : Array Value) (w : World), (Instr.makeFunc fn first cap).run Tryz.prog w = .ok (.func fn first cap) w := fun _ _ _ _ => rfl
 have HG := Lib.hid (cmpE_guard a b E w hC)
 clear hC
 generalize (if E = 0 then sgnZ (plN a.num a.den (-b.num) b.den) else 0) = o at *
 obtain ⟨ka, xa, qa, sa⟩ := a
 obtain ⟨kb, xb, qb, sb⟩ := b
 go_enter Tryz.func6, Tryz.ntmps6
 go_wp2_with (go_at_call 19; refine HG.out.mono ?_; rintro e w' ⟨rfl, hrow, hb⟩; have HB := Lib.hid hb; clear hb; have c0 := hrow.one; have f0 := hrow.free 0)
 refine bodyPost_ret (v := .tuple #[.int .i64 o, .int .i64 E]) (by simp [results, Tryz.results6, go_sem, c0]) rfl ⟨rfl, HB.out.setCell (by simp <;> omega) _⟩
end Go.Proofs.YtpdoddhieblooaaGreatDoor
